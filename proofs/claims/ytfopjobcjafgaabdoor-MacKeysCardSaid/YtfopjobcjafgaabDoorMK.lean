/-
  Small laws: append of any bytes as one operation; bytes as a string, and when two are the same.
-/
import Derived.Test.YtfopjobcjafgaabDoorMJ
namespace Go.Proofs.YtfopjobcjafgaabDoor
open Go.RowKit

/-- 'append(x, y...)' as one operation: x a row of the call's own, y any bytes -/
theorem wp_append_bytes_dst {w : World} {o : Oper} {a : Act} {K : Act → World → Prop} {Q : Exit → Act → World → Prop} {dd : Nat} (hdd : o.dst = some dd) (s x : Operand)
    (ho : o.op = .call { callee := .builtin .append, args := #[s, x], argTypes := #[22, 22] })
    (B : Nat) (v : Value) (xs : List Nat) (hs : a.eval s = v) (n : Nat) (hn : xs.length = n) (hown : w.ownsRow B 5 1 v n (u8s xs))
    (p : Option Addr) (m c : Nat) (ys : List Nat) (hm : ys.length = m) (hx : a.eval x = .slice p m c) (hb : BI w p ys) (hp : p = none → c = 0) (hsum : n + m ≤ 140737488355328) (hB : B ≤ w.heap.size)
    (h : ∀ v' w', w'.ownsRow B 5 1 v' (n + m) (u8s (xs ++ ys)) → w.grownBy w' v.ownBlock → K (a.put (some dd) v') w') : o.wp Tryd.prog a w K Q := by
  obtain ⟨i0, hi, hz0, hz1, hz2⟩ := info_parts infoU8
  subst hm hn
  cases p with
  | none =>
    have e0 := hp rfl
    subst e0
    rcases hb with h0 | ⟨b, off, h0, _⟩
    · subst h0
      have hrun := run_append_owned_none (P := Tryd.prog) (w := w) B 22 o.type 5 i0 1 Tryd.underlying22 hi v _ _ hown
      have hx' : a.eval x = .slice none 0 0 := hx
      unfold Oper.wp
      simp [execOp, ho, resolve, invoke, builtin, hs, hx', hrun, Result.andThen]
      show K (a.put o.dst v) w
      rw [hdd]
      exact h v w (by simpa using hown) (grown_refl _ _)
    · cases h0
  | some ad =>
    refine wp_append_dst w hdd s x 22 ho B 5 i0 (.int .u8 0) 1 1 Tryd.underlying22 hi hz0 hz1 hz2 rfl (by decide) v _ _ hs hown ad ys.length c (u8s ys) hx (by simp [u8s]) ?_ (one_u8s _) ?_ (by omega) hB ?_
    · intro j u hj
      have hjn : j < ys.length := by
        have := (List.getElem?_eq_some_iff.1 hj).1
        simpa [u8s] using this
      rcases hb with h0 | ⟨b, off, h0, hcell⟩
      · subst h0; simp at hjn
      · cases h0
        rw [Addr.add_mid, hcell j hjn]
        rw [u8s_at hjn] at hj
        exact hj
    · unfold maxLen; omega
    · intro v' w' h1 h2
      exact h v' w' (by rw [show u8s (xs ++ ys) = u8s xs ++ u8s ys by simp [u8s]]; exact h1) h2

/-- bytes as a string -/
def strF (xs : List Nat) : ByteArray := strOfNums (xs.map Int.ofNat)

theorem conv_any {w : World} {p : Option Addr} {xs : List Nat} {c : Nat} (h : BI w p xs) (n : Nat) (hn : xs.length = n) :
    (convert 22 9 (.slice p n c)).run Tryd.prog w = .ok (.string (strF xs)) w := by
  subst hn
  rcases h with rfl | ⟨b, o, rfl, hc⟩
  · cases p with
    | none => exact run_convert_bytes_nil w 22 5 Tryd.underlying22 Tryd.underlying5 0 c _ Tryd.underlying9
    | some a =>
      rw [run_convert_bytes_string w 22 9 5 _ _ c Tryd.underlying22 Tryd.underlying5 Tryd.underlying9]
      have hl : (loadCells a ([] : List Int).length).run Tryd.prog w = .ok (([] : List Int).map (Value.int .u8)).toArray w := by
        simp [loadCells, loadCellsFrom]
      exact run_bytesToString w a _ c [] hl
  · have hl : (xs.map Int.ofNat).length = xs.length := by simp
    refine run_convert_bytes_arg w 22 5 Tryd.underlying22 Tryd.underlying5 b o _ c (xs.map Int.ofNat) hl (fun i hi => ?_) _ Tryd.underlying9
    have hi' : i < xs.length := hi
    rw [hc i hi']
    congr 2
    simp [List.getD, hi']

theorem strF_inj {xs ys : List Nat} (hx : BytesN xs) (hy : BytesN ys) (h : strF xs = strF ys) : xs = ys := by
  have h1 : (strF xs).data.toList = (strF ys).data.toList := by rw [h]
  have e : ∀ l : List Nat, (strF l).data.toList = l.map fun n => UInt8.ofNat n := fun l => by
    rw [strF, strOfNums_data, List.map_map]; rfl
  rw [e, e] at h1
  have back : ∀ l : List Nat, BytesN l → (l.map fun n => UInt8.ofNat n).map UInt8.toNat = l := fun l hl => by
    rw [List.map_map]
    conv => rhs; rw [← List.map_id l]
    apply List.map_congr_left
    intro n hn
    have := hl n hn
    simp only [Function.comp, id]
    rw [UInt8.toNat_ofNat']
    omega
  rw [← back xs hx, ← back ys hy, h1]

theorem ba_beq (a b : ByteArray) : (a == b) = decide (a = b) := by
  obtain ⟨x⟩ := a
  obtain ⟨y⟩ := b
  show (x == y) = decide _
  by_cases h : x = y
  · subst h; simp
  · simp [h]

theorem strF_eq {xs ys : List Nat} (hx : BytesN xs) (hy : BytesN ys) : (strF xs == strF ys) = decide (xs = ys) := by
  rw [ba_beq]
  exact decide_eq_decide.2 ⟨fun e => strF_inj hx hy e, fun e => by rw [e]⟩

end Go.Proofs.YtfopjobcjafgaabDoor
