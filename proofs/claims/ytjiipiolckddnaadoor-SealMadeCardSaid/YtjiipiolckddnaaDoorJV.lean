/-
  Several texts, joined: LV.
-/
import Derived.Test.YtjiipiolckddnaaDoorJP
import Derived.Laws.AppendOwn

/- Laws: 'append(s, y...)' behind which s itself still lies as it lay; a struct's block that is made, as one operation. -/
namespace Go.Proofs.YtjiipiolckddnaaDoor
open Go.RowKit

/-- 'append(s, y...)': the row behind it, and s, which lies as it lay -/
theorem append_keeps (w : World) (B : Nat) (g n cap : Nat) (xs : List Nat) (hown : w.ownsRow B 5 1 (.slice (some ⟨g, 0, none⟩) n cap) n (u8s xs)) (gy oy m c : Nat) (ys : List Nat) (hm : ys.length = m) (hy : Bts w gy oy ys) (hsz : n + m ≤ 100000) (hB : B ≤ w.heap.size) (ty : TypeId) :
    ∃ v' w', (Builtin.append_ #[35, 35] ty #[.slice (some ⟨g, 0, none⟩) n cap, .slice (some ⟨gy, oy, none⟩) m c]).run Tryd.prog w = .ok v' w' ∧ w'.ownsRow B 5 1 v' (n + m) (u8s (xs ++ ys)) ∧ w.grownBy w' (some g) ∧ w'.ownsRow B 5 1 (.slice (some ⟨g, 0, none⟩) n cap) n (u8s xs) := by
  obtain ⟨i0, hi, hz0, hz1, hz2⟩ := info_parts infoU8
  have hnews : ∀ j u, (u8s ys)[j]? = some u → w.cell? ((⟨gy, oy, none⟩ : Addr).add j) = some u := fun j u hj => by
    have hjl : j < ys.length := by have := (List.getElem?_eq_some_iff.1 hj).1; rwa [u8s_length] at this
    rw [Addr.add_mid, hy j hjl]
    rw [u8s_at hjl] at hj
    exact hj
  obtain ⟨v', w', hr, h1, h2, _⟩ := run_append_own (P := Tryd.prog) w B 35 ty 5 i0 (.int .u8 0) 1 1 Tryd.underlying35 hi hz0 hz1 hz2 rfl (by decide) _ n (u8s xs) hown ⟨gy, oy, none⟩ m c (u8s ys) (by simp [u8s, hm]) hnews (one_mem _) (by unfold maxLen; omega) (by omega) hB
  refine ⟨v', w', hr, by rw [u8s_append]; exact h1, h2, ?_⟩
  obtain ⟨hlen, hrest⟩ := hown
  rcases hrest with ⟨h0, _⟩ | ⟨gg, cap', cur, hv, hbg, hgg, hnc, hcm, hcs, htake⟩
  · cases h0
  · cases hv
    by_cases hroom : n + m ≤ cap
    · have hr2 := run_append_room (P := Tryd.prog) w 35 ty 5 i0 Tryd.underlying35 hi g n cap cur hgg ⟨gy, oy, none⟩ m c (u8s ys) (by simp [u8s, hz1, hm]) hnews (one_mem _) hroom (by rw [hz1, hcs]; simp [u8s, hm]; omega)
      rw [hr] at hr2
      injection hr2 with _ e2
      rw [e2, hz1]
      have hlist : cur.toList.length = cap := by simpa using hcs
      refine ⟨hlen, Or.inr ⟨g, cap, _, rfl, hbg, setRow_heap w g cur _ _ _ hgg, hnc, hcm, ?_, ?_⟩⟩
      · simp only [List.size_toArray, List.length_append, List.length_take, List.length_drop, u8s_length, hm, Nat.mul_one, hlist]
        omega
      · simp only [Nat.mul_one]
        rw [List.append_assoc, List.take_append_of_le_length (by rw [List.length_take, hlist]; omega), List.take_take, Nat.min_self]
        simpa using htake
    · have hr2 := run_append_grow (P := Tryd.prog) w 35 ty 5 i0 (.int .u8 0) Tryd.underlying35 hi hz0 ⟨g, 0, none⟩ n cap (u8s xs) (by rw [hz1]; exact hlen) (World.ownsRow.cells ⟨hlen, Or.inr ⟨g, cap, cur, rfl, hbg, hgg, hnc, hcm, hcs, htake⟩⟩ (g := g) rfl) ⟨gy, oy, none⟩ m c (u8s ys) (by simp [u8s, hz1, hm]) hnews (by omega) (by omega) (growslice_fits (by omega) (by rw [hz2]; omega))
      rw [hr] at hr2
      injection hr2 with _ e2
      rw [e2]
      have hgl : g < w.heap.size := by
        by_cases hlt : g < w.heap.size
        · exact hlt
        · rw [Array.getElem?_eq_none (by omega)] at hgg; cases hgg
      refine ⟨hlen, Or.inr ⟨g, cap, cur, rfl, hbg, ?_, hnc, hcm, hcs, htake⟩⟩
      exact (Below.heap_alloc w.drew _ g hgl).trans hgg

/-- .. as an operation of a region -/
theorem wp_append_keeps {w : World} {o : Oper} {a : Act} {K : Act → World → Prop} {Q : Exit → Act → World → Prop} {dd : Nat} (hdd : o.dst = some dd) (s x : Operand)
    (ho : o.op = .call { callee := .builtin .append, args := #[s, x], argTypes := #[35, 35] })
    (B g n cap : Nat) (xs : List Nat) (hs : a.eval s = .slice (some ⟨g, 0, none⟩) n cap) (hown : w.ownsRow B 5 1 (.slice (some ⟨g, 0, none⟩) n cap) n (u8s xs))
    (p : Option Addr) (m c : Nat) (ys : List Nat) (hm : ys.length = m) (hm0 : 0 < m) (hx : a.eval x = .slice p m c) (hb : BI w p ys) (hsum : n + m ≤ 100000) (hB : B ≤ w.heap.size)
    (h : ∀ v' w', w'.ownsRow B 5 1 v' (n + m) (u8s (xs ++ ys)) → w.grownBy w' (some g) → w'.ownsRow B 5 1 (.slice (some ⟨g, 0, none⟩) n cap) n (u8s xs) → K (a.put (some dd) v') w') : o.wp Tryd.prog a w K Q := by
  rcases hb with h0 | ⟨gy, oy, rfl, hy⟩
  · subst h0; simp at hm; omega
  obtain ⟨v', w', hr, h1, h2, h3⟩ := append_keeps w B g n cap xs hown gy oy m c ys hm hy hsum hB o.type
  have hk := h v' w' h1 h2 h3
  rw [← hdd] at hk
  unfold Oper.wp execOp
  simp only [ho, resolve, invoke, builtin, Sem.run_bind, Sem.run_pure, Result.andThen_ok, List.map_toArray, List.map_cons, List.map_nil, hs, hx, hr]
  exact hk

/-- a nonce's block that is made -/
theorem wp_alloc_no {w : World} {o : Oper} {a : Act} {K : Act → World → Prop} {Q : Exit → Act → World → Prop} {dd : Nat} (hdd : o.dst = some dd) (ho : o.op = .alloc 24)
    (h : ∀ g w', Arr w' g 24 (noC false 0) → Below w.heap.size w w' → w.heap.size ≤ g → K (a.put (some dd) (.pointer (some ⟨g, 0, none⟩))) w') : o.wp Tryd.prog a w K Q := by
  have hk := h w.heap.size (w.alloc (.cells (noC false 0).toArray 24)) (Arr.new w _ _) ((Below.refl _ _).alloc (Nat.le_refl _) _) (Nat.le_refl _)
  rw [← hdd] at hk
  unfold Oper.wp
  have hz : (zeroValue 24).run Tryd.prog w = .ok (noV false 0) w := by kernel_rfl
  simp [execOp, ho, Result.andThen, Instr.alloc, hz]
  exact hk

/-- a row of the call's own in a block that is told, as bytes that may be handed on -/
theorem own_at {w : World} {B g n c : Nat} {l : List Nat} (h : w.ownsRow B 5 1 (.slice (some ⟨g, 0, none⟩) n c) n (u8s l)) (hl : l.length = n) (hb : BytesN l) : Piece w (some ⟨g, 0, none⟩) c l := by
  subst hl
  obtain ⟨p, c', hv, hp, _⟩ := own_piece h hb
  cases hv
  exact hp
theorem own_at_lt {w : World} {B g n c : Nat} {xs : List Value} (h : w.ownsRow B 5 1 (.slice (some ⟨g, 0, none⟩) n c) n xs) : B ≤ g ∧ g < w.heap.size := h.lt g rfl

theorem grown_store {w v : World} {r : Option Nat} (h : w.grownBy v r) {g : Nat} (hg : w.heap.size ≤ g) (us : Array Value) : w.grownBy (v.setRow g us) r :=
  ⟨h.os, h.tape, h.output, Nat.le_trans h.size (by simp), fun k hk hr => (setRow_other v g k us (by omega)).trans (h.block k hk hr)⟩

end Go.Proofs.YtjiipiolckddnaaDoor
