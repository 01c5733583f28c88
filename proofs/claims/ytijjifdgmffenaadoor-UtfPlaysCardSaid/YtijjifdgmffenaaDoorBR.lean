/-
  Runes (int32): numbers that lie in memory, slices of them that are handed in, rows of the call's own, append, parts of a slice; arguments opened.
-/
import Derived.Test.YtijjifdgmffenaaDoorBO
namespace Go.Proofs.YtijjifdgmffenaaDoor
open Go.ChangeShapes Go.WideShapes Go.ChangeAt Go.WideMaps Go.WideElems Go.RowKit

def i32s (l : List Int) : List Value := l.map (Value.int .i32)
theorem i32s_length (l : List Int) : (i32s l).length = l.length := by simp [i32s]
theorem i32s_at {l : List Int} {i : Nat} (h : i < l.length) : (i32s l)[i]? = some (.int .i32 (l.getD i 0)) := by simp [i32s, List.getD, h]
theorem i32s_append (a b : List Int) : i32s (a ++ b) = i32s a ++ i32s b := by simp [i32s]
theorem one_i32 (l : List Int) : ∀ u ∈ i32s l, u.oneCell' = true := by
  intro u hu
  obtain ⟨x, _, rfl⟩ := List.mem_map.1 hu
  rfl
theorem infoI32 : (Tryd.prog.info? 21).map (fun i => (i.zero, i.size, i.bytes)) = some (some (.int .i32 0), 1, 4) := by kernel_rfl

/-- numbers that are handed in: none, or an address -/
def NI (w : World) (p : Option Addr) (xs : List Int) : Prop := xs = [] ∨ ∃ g o, p = some ⟨g, o, none⟩ ∧ ∀ i, i < xs.length → w.cell? ⟨g, o + i, none⟩ = some (.int .i32 (xs.getD i 0))
theorem NI.kept {w w' : World} {p : Option Addr} {xs : List Int} (h : NI w p xs) (hb : Below w.heap.size w w') : NI w' p xs := by
  rcases h with h | ⟨g, o, rfl, h⟩
  · exact Or.inl h
  · exact Or.inr ⟨g, o, rfl, fun i hi => (hb.cell (block_lt_of_cell (h i hi))).trans (h i hi)⟩

/-- a slice of numbers that is handed in -/
def RPiece (w : World) (p : Option Addr) (c : Nat) (xs : List Int) : Prop := NI w p xs ∧ (p = none → c = 0) ∧ xs.length ≤ c ∧ c ≤ maxLen
theorem RPiece.kept {w w' : World} {p : Option Addr} {c : Nat} {xs : List Int} (h : RPiece w p c xs) (hb : Below w.heap.size w w') : RPiece w' p c xs := ⟨h.1.kept hb, h.2⟩
theorem RPiece.cell {w : World} {p : Option Addr} {c : Nat} {xs : List Int} (h : RPiece w p c xs) (h0 : 0 < xs.length) : ∃ g o, p = some ⟨g, o, none⟩ ∧ ∀ i, i < xs.length → w.cell? ⟨g, o + i, none⟩ = some (.int .i32 (xs.getD i 0)) := by
  rcases h.1 with h1 | h1
  · subst h1; simp at h0
  · exact h1
theorem rnil_piece (w : World) : RPiece w none 0 [] := ⟨Or.inl rfl, fun _ => rfl, Nat.le_refl _, Nat.zero_le _⟩

/-- a row of the call's own is numbers that may be handed on -/
theorem own_rpiece {w : World} {B : Nat} {v : Value} {l : List Int} (h : w.ownsRow B 21 1 v l.length (i32s l)) :
    ∃ p c, v = .slice p l.length c ∧ RPiece w p c l ∧ ∀ a, p = some a → B ≤ a.block := by
  by_cases hn : 0 < l.length
  · obtain ⟨g, cap, rfl, hB, hg, hc, hm⟩ := own_shape h hn
    exact ⟨_, cap, rfl, ⟨Or.inr ⟨g, 0, rfl, fun i hi => by rw [Nat.zero_add]; exact (h.cellAt i (by omega)).trans (i32s_at hi)⟩, (fun e => by cases e), hc, hm⟩, fun a ha => by cases ha; exact hB⟩
  · have h0 : l = [] := List.eq_nil_of_length_eq_zero (by omega)
    subst h0
    rcases h.2 with ⟨rfl, _⟩ | ⟨g, cap, cur, rfl, hB, hg, hnc, hcm, _⟩
    · exact ⟨none, 0, rfl, rnil_piece w, fun a ha => by cases ha⟩
    · exact ⟨_, cap, rfl, ⟨Or.inl rfl, (fun e => by cases e), Nat.zero_le _, hcm⟩, fun a ha => by cases ha; exact hB⟩

/-- 'append(x, y...)': x a row of the call's own, y any numbers -/
theorem wpList_append_runes {w : World} {ops : Array Oper} {rest : List Oper} {o : Oper} {a : Act} {Q : Exit → Act → World → Prop} (hgd : o.guard = none) (s x : Operand)
    (ho : o.op = .call { callee := .builtin .append, args := #[s, x], argTypes := #[27, 27] })
    (B : Nat) (v : Value) (xs : List Int) (hs : a.eval s = v) (n : Nat) (hn : xs.length = n) (hown : w.ownsRow B 21 1 v n (i32s xs))
    (p : Option Addr) (m c : Nat) (ys : List Int) (hm : ys.length = m) (hx : a.eval x = .slice p m c) (hb : NI w p ys) (hp : p = none → c = 0) (hsum : n + m ≤ 17592186044416) (hB : B ≤ w.heap.size)
    (h : ∀ v' w', w'.ownsRow B 21 1 v' (n + m) (i32s (xs ++ ys)) → w.grownBy w' v.ownBlock → wpList Tryd.prog ops Q rest (a.put o.dst v') w') :
    wpList Tryd.prog ops Q (o :: rest) a w := by
  obtain ⟨i0, hi, hz0, hz1, hz2⟩ := info_parts infoI32
  subst hm hn
  cases p with
  | none =>
    have e0 := hp rfl
    subst e0
    rcases hb with h0 | ⟨b, off, h0, _⟩
    · subst h0
      refine wpList_append_own_none hgd s x 27 ho B 21 i0 1 Tryd.underlying27 hi v _ _ hs hown hx ?_
      exact h v w (by simpa using hown) (grown_refl _ _)
    · cases h0
  | some ad =>
    refine wpList_append_own w hgd s x 27 ho B 21 i0 (.int .i32 0) 1 4 Tryd.underlying27 hi hz0 hz1 hz2 rfl (by decide) v _ _ hs hown ad ys.length c (i32s ys) hx (by simp [i32s]) ?_ (one_i32 _) ?_ (by omega) hB ?_
    · intro j u hj
      have hjn : j < ys.length := by
        have := (List.getElem?_eq_some_iff.1 hj).1
        simpa [i32s] using this
      rcases hb with h0 | ⟨b, off, h0, hcell⟩
      · subst h0; simp at hjn
      · cases h0
        rw [Addr.add_mid, hcell j hjn]
        rw [i32s_at hjn] at hj
        exact hj
    · unfold maxLen; omega
    · intro v' w' h1 h2 _
      exact h v' w' (by rw [i32s_append]; exact h1) h2

/-- a slice of numbers that is read -/
theorem runes_of {H : Type} {enc : TypeId × Value → H} {w : World} {fuel : Nat} {cs : List Value} {x : DataW H × List MemPlace}
    (h : DataW.trod enc Tryd.prog w 0 (fun _ => true) true fuel 27 cs = some x) : ∃ (p : Option Addr) (c : Nat) (xs : List Int), cs = [.slice p xs.length c] ∧ RPiece w p c xs := by
  rcases open_ints Tryd.underlying27 Tryd.underlying21 (by kernel_rfl) h with ⟨hcs, _⟩ | ⟨x, l, c, zs, hcs, _, hl, hm, hz, _, hcell, hwz⟩
  · exact ⟨none, 0, [], hcs, rnil_piece w⟩
  · have hz' : zs.length = c := by simpa using hz
    have hlen : (zs.take l).length = l := by simp; omega
    refine ⟨some x, c, zs.take l, by rw [hlen]; exact hcs, ?_, fun h => (by cases h), by rw [hlen]; exact hl, hm⟩
    by_cases h0 : l = 0
    · left; simp [h0]
    · right
      obtain ⟨b, off, spot⟩ := x
      have hc := hcell 0 (by omega)
      have hspot : spot = none := by simpa [Addr.add] using World.cell?_spot hc
      subst hspot
      refine ⟨b, off, rfl, fun i hi => ?_⟩
      have hi' : i < l := by rw [hlen] at hi; exact hi
      have hiz : i < zs.length := by omega
      have := hcell i hiz
      rw [Addr.add_mid] at this
      rw [this]
      congr 2
      simp [List.getD, hi', hiz]

theorem size4 (w : World) : (Go.sizeOf 21).run Tryd.prog w = .ok 1 w := by
  obtain ⟨i0, hi, hz0, hz1, hz2⟩ := info_parts infoI32
  simp [Go.sizeOf, typeInfo, hi, hz1]

/-- 'x[l:]' -/
def cutR (p : Option Addr) (l cap : Nat) : Option Addr := if cap = l then p else p.map (·.add l)
theorem rrun_to (w : World) (p : Option Addr) (n cap h : Nat) (hh : h ≤ cap) :
    (Instr.slice 27 (.slice p n cap) none (some (.int .i64 (h : Int))) none).run Tryd.prog w = .ok (.slice p h cap) w := by
  have ht' : Tryd.prog.underlying 27 = some (.slice (Tryd.prog.elem 27)) := by simp [Program.elem, Tryd.underlying27]
  have he : Tryd.prog.elem 27 = 21 := by simp [Program.elem, Tryd.underlying27]
  rw [run_slice_h w 27 _ _ _ ht' .i64 _ (by omega) (by omega), he, size4]
  have h0 : (fun x : Addr => x.add 0) = id := by funext x; simp [Addr.add]
  simp [Result.andThen, sliced, h0]
theorem rrun_from (w : World) (p : Option Addr) (n cap l : Nat) (hl : l ≤ n) (_hn : n ≤ cap) :
    (Instr.slice 27 (.slice p n cap) (some (.int .i64 (l : Int))) none none).run Tryd.prog w = .ok (.slice (cutR p l cap) (n - l) (cap - l)) w := by
  have ht' : Tryd.prog.underlying 27 = some (.slice (Tryd.prog.elem 27)) := by simp [Program.elem, Tryd.underlying27]
  have he : Tryd.prog.elem 27 = 21 := by simp [Program.elem, Tryd.underlying27]
  rw [run_slice_l w 27 _ _ _ ht' .i64 _ (by omega) (by omega), he, size4]
  simp [Result.andThen, sliced, cutR]
theorem RPiece.take {w : World} {p : Option Addr} {c : Nat} {xs : List Int} (h : RPiece w p c xs) (a : Nat) : RPiece w p c (xs.take a) := by
  refine ⟨?_, h.2.1, Nat.le_trans (by simp; omega) h.2.2.1, h.2.2.2⟩
  rcases h.1 with h0 | ⟨g, o, hp, hc⟩
  · left; simp [h0]
  · exact Or.inr ⟨g, o, hp, fun i hi => by
      have hi' : i < a ∧ i < xs.length := by rw [List.length_take] at hi; omega
      rw [hc i hi'.2]
      simp [List.getD, hi'.1]⟩
theorem RPiece.from {w : World} {p : Option Addr} {c : Nat} {xs : List Int} (h : RPiece w p c xs) (l : Nat) (hl : l ≤ xs.length) : RPiece w (cutR p l c) (c - l) (xs.drop l) := by
  refine ⟨?_, fun e => ?_, by have := h.2.2.1; simp; omega, by have := h.2.2.2; omega⟩
  · have hc := h.2.2.1
    by_cases hl : xs.length ≤ l
    · exact Or.inl (List.drop_eq_nil_of_le hl)
    · rcases h.1 with h0 | ⟨b, o, rfl, hcl⟩
      · subst h0; simp at hl
      · refine Or.inr ⟨b, o + l, ?_, fun i hi => ?_⟩
        · simp [cutR, show c ≠ l by omega, Addr.add_mid]
        · have hi' : l + i < xs.length := by simp at hi; omega
          have := hcl (l + i) hi'
          rw [Nat.add_assoc, this]
          simp [List.getD]
  · cases p with
    | none => have := h.2.1 rfl; omega
    | some a => unfold cutR at e; split at e <;> simp at e

end Go.Proofs.YtijjifdgmffenaaDoor
