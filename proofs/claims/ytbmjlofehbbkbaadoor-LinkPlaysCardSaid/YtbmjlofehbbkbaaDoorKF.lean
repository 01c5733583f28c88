/-
  Several texts, joined: IS.
-/
import Derived.Test.YtbmjlofehbbkbaaDoorKD
import Derived.Test.YtbmjlofehbbkbaaDoorKE

/- Rows of slices and of bools; two links that stand alike; what was heard changes nothing any more. -/
namespace Go.Proofs.YtbmjlofehbbkbaaDoor
open Go.RowKit

theorem own_ne_any {w : World} {B X : Nat} {e t : TypeId} {k : Nat} {v : Value} {n : Nat} {xs vs : List Value} (h : w.ownsRow B e k v n xs) (hA : Arr w X t vs) (ht : t ≠ e) : v.ownBlock ≠ some X := by
  intro e'
  rcases h.2 with ⟨rfl, _⟩ | ⟨g, cap, cur, rfl, hb, hg, _⟩
  · simp [Value.ownBlock] at e'
  · simp [Value.ownBlock] at e'
    subst e'
    unfold Arr at hA
    rw [hA] at hg
    simp at hg
    exact ht hg.2
theorem rows_ne {w : World} {B B' : Nat} {e e' : TypeId} {k k' : Nat} {v v' : Value} {n n' : Nat} {xs xs' : List Value} (h : w.ownsRow B e k v n xs) (h' : w.ownsRow B' e' k' v' n' xs') (ht : e ≠ e') : v.ownBlock = none ∨ v.ownBlock ≠ v'.ownBlock := by
  rcases h.2 with ⟨rfl, _⟩ | ⟨g, cap, cur, rfl, hb, hg, _⟩
  · exact Or.inl rfl
  · right
    intro e1
    rcases h'.2 with ⟨rfl, _⟩ | ⟨g', cap', cur', rfl, hb', hg', _⟩
    · simp [Value.ownBlock] at e1
    · simp [Value.ownBlock] at e1
      subst e1
      rw [hg] at hg'
      simp at hg'
      exact ht hg'.2
/-- a row beside a link -/
theorem row_lk {w w' : World} {B g : Nat} {e : TypeId} {k : Nat} {L : Lk} {v : Value} {n : Nat} {xs : List Value} (h : w.ownsRow B e k v n xs) (hL : LkAt w g L) (hg : w.grownBy w' (some g)) (he : 63 ≠ e) : w'.ownsRow B e k v n xs := h.kept hg (.inr (own_ne_any h hL.a he))

theorem infoBs : (Tryd.prog.info? 42).map (fun i => (i.zero, i.size, i.bytes)) = some (some (.slice none 0 0), 1, 24) := by kernel_rfl
/-- one slice more -/
theorem wpList_append_slice {w : World} {ops : Array Oper} {rest : List Oper} {o : Oper} {a : Act} {Q : Exit → Act → World → Prop} (hgd : o.guard = none) (s x : Operand)
    (ho : o.op = .call { callee := .builtin .append, args := #[s, x], argTypes := #[39, 39] })
    (B : Nat) (v : Value) (xs : List Value) (hs : a.eval s = v) (n : Nat) (hown : w.ownsRow B 42 1 v n xs)
    (g : Nat) (q : Option Addr) (k c : Nat) (hx : a.eval x = .slice (some ⟨g, 0, none⟩) 1 1) (hc : w.cell? ⟨g, 0, none⟩ = some (.slice q k c)) (hsum : n ≤ 1000) (hB : B ≤ w.heap.size)
    (h : ∀ v' w', w'.ownsRow B 42 1 v' (n + 1) (xs ++ [.slice q k c]) → w.grownBy w' v.ownBlock → wpList Tryd.prog ops Q rest (a.put o.dst v') w') :
    wpList Tryd.prog ops Q (o :: rest) a w := by
  obtain ⟨i0, hi, hz0, hz1, hz2⟩ := info_parts infoBs
  refine wpList_append_own w hgd s x 39 ho B 42 i0 (.slice none 0 0) 1 24 Tryd.underlying39 hi hz0 hz1 hz2 rfl (by decide) v n xs hs hown ⟨g, 0, none⟩ 1 1 [.slice q k c] hx (by simp) ?_ ?_ (by unfold maxLen; omega) (by omega) hB ?_
  · intro j u hj
    have hj0 : j = 0 := by have := (List.getElem?_eq_some_iff.1 hj).1; simpa using this
    subst hj0
    rw [Addr.add_mid]
    simp at hj
    rw [← hj]
    exact hc
  · intro u hu
    rw [List.mem_singleton] at hu
    rw [hu]
    rfl
  · intro v' w' h1 h2 _
    exact h v' w' h1 h2


end Go.Proofs.YtbmjlofehbbkbaaDoor
