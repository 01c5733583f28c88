/-
  A law: 'append(s, x)' of one byte: where the row lies behind it.
-/
import Derived.Test.YtfopjobcjafgaabDoorMY
namespace Go.Proofs.YtfopjobcjafgaabDoor
open Go.RowKit

/-- one byte more: the row stays in its block, or lies in a new one -/
theorem append_byte (w : World) (B : Nat) (v : Value) (n : Nat) (xs : List Nat) (hn : xs.length = n) (hown : w.ownsRow B 5 1 v n (u8s xs)) (g x : Nat) (hg : w.cell? ⟨g, 0, none⟩ = some (.int .u8 (x : Int))) (hsz : n ≤ 1000) (hB : B ≤ w.heap.size) (ty : TypeId) :
    ∃ v' w', (Builtin.append_ #[22, 22] ty #[v, .slice (some ⟨g, 0, none⟩) 1 1]).run Tryd.prog w = .ok v' w' ∧ w'.ownsRow B 5 1 v' (n + 1) (u8s (xs ++ [x])) ∧ w.grownBy w' v.ownBlock ∧ (v'.ownBlock = v.ownBlock ∨ v'.ownBlock = some w.heap.size) := by
  obtain ⟨i0, hi, hz0, hz1, hz2⟩ := info_parts infoU8
  have hnews : ∀ j u, (u8s [x])[j]? = some u → w.cell? ((⟨g, 0, none⟩ : Addr).add j) = some u := fun j u hj => by
    have hjl : j < (u8s [x]).length := (List.getElem?_eq_some_iff.1 hj).1
    have hj0 : j = 0 := by simp [u8s] at hjl; exact hjl
    subst hj0
    rw [Addr.add_mid]
    simp [u8s] at hj
    rw [← hj]
    exact hg
  obtain ⟨v', w', hr, h1, h2, _⟩ := run_append_own (P := Tryd.prog) w B 22 ty 5 i0 (.int .u8 0) 1 1 Tryd.underlying22 hi hz0 hz1 hz2 rfl (by decide) v n (u8s xs) hown ⟨g, 0, none⟩ 1 1 (u8s [x]) (by simp [u8s]) hnews (one_u8s _) (by unfold maxLen; omega) (by omega) hB
  refine ⟨v', w', hr, by rw [u8s_append]; exact h1, h2, ?_⟩
  rcases hown.2 with ⟨rfl, h0⟩ | ⟨gg, cap, cur, rfl, hbg, hgg, hnc, hcm, hcs, htake⟩
  · right
    have hr2 := run_append_nil (P := Tryd.prog) w 22 ty 5 i0 (.int .u8 0) Tryd.underlying22 hi hz0 ⟨g, 0, none⟩ 1 1 (u8s [x]) (by simp [u8s, hz1]) hnews (by omega) (by omega) (by rw [hz2]; omega)
    rw [hr] at hr2
    injection hr2 with e1 _
    rw [e1]; rfl
  · by_cases hroom : n + 1 ≤ cap
    · left
      have hr2 := run_append_room (P := Tryd.prog) w 22 ty 5 i0 Tryd.underlying22 hi gg n cap cur hgg ⟨g, 0, none⟩ 1 1 (u8s [x]) (by simp [u8s, hz1]) hnews (one_u8s _) hroom (by rw [hz1, hcs]; simp [u8s]; omega)
      rw [hr] at hr2
      injection hr2 with e1 _
      rw [e1]; rfl
    · right
      have hr2 := run_append_grow (P := Tryd.prog) w 22 ty 5 i0 (.int .u8 0) Tryd.underlying22 hi hz0 ⟨gg, 0, none⟩ n cap (u8s xs) (by rw [hz1]; exact hown.1) (hown.cells (g := gg) rfl) ⟨g, 0, none⟩ 1 1 (u8s [x]) (by simp [u8s, hz1]) hnews (by omega) (by omega) (growslice_fits (by omega) (by rw [hz2]; omega))
      rw [hr] at hr2
      injection hr2 with e1 _
      rw [e1]; rfl

/-- .. as an operation of a walk -/
theorem wpList_append_byte {w : World} {ops : Array Oper} {rest : List Oper} {o : Oper} {a : Act} {Q : Exit → Act → World → Prop} (hgd : o.guard = none) (s y : Operand)
    (ho : o.op = .call { callee := .builtin .append, args := #[s, y], argTypes := #[22, 22] })
    (B : Nat) (v : Value) (xs : List Nat) (hs : a.eval s = v) (n : Nat) (hn : xs.length = n) (hown : w.ownsRow B 5 1 v n (u8s xs)) (g x : Nat) (hy : a.eval y = .slice (some ⟨g, 0, none⟩) 1 1) (hg : w.cell? ⟨g, 0, none⟩ = some (.int .u8 (x : Int))) (hsz : n ≤ 1000) (hB : B ≤ w.heap.size)
    (h : ∀ v' w', w'.ownsRow B 5 1 v' (n + 1) (u8s (xs ++ [x])) → w.grownBy w' v.ownBlock → (v'.ownBlock = v.ownBlock ∨ v'.ownBlock = some w.heap.size) → wpList Tryd.prog ops Q rest (a.put o.dst v') w') :
    wpList Tryd.prog ops Q (o :: rest) a w := by
  obtain ⟨v', w', hr, h1, h2, h3⟩ := append_byte w B v n xs hn hown g x hg hsz hB o.type
  exact Lib.wpList_append_run w hgd s y 22 22 ho v _ hs hy v' w' hr (h v' w' h1 h2 h3)

end Go.Proofs.YtfopjobcjafgaabDoor
