/-
  Two rows of the call's own: bytes, and runes.
-/
import Derived.Test.YtijjifdgmffenabDoorUN
import Derived.Test.YtijjifdgmffenabDoorUO
namespace Go.Proofs.YtijjifdgmffenabDoor
open Go.RowKit

theorem rows_apart {w : World} {B B' : Nat} {e e' : TypeId} {v v' : Value} {n n' : Nat} {xs xs' : List Value} (h : w.ownsRow B e 1 v n xs) (h' : w.ownsRow B' e' 1 v' n' xs') (ht : e ≠ e') : v.ownBlock = none ∨ v.ownBlock ≠ v'.ownBlock := by
  rcases h.2 with ⟨rfl, _⟩ | ⟨g, cap, cur, rfl, hb, hg, _⟩
  · exact Or.inl rfl
  · refine Or.inr fun e2 => ?_
    rcases h'.2 with ⟨rfl, _⟩ | ⟨g', cap', cur', rfl, hb', hg', _⟩
    · cases e2
    · have e3 : g = g' := Option.some.inj e2
      subst e3
      rw [hg] at hg'
      simp at hg'
      exact ht hg'.2
/-- what lies in memory between the rounds -/
structure BkS (w wx : World) (bs : List Nat) (ns : List Int) (v3 v4 : Value) : Prop where
  b : wx.ownsRow w.heap.size 5 1 v3 bs.length (u8s bs)
  r : wx.ownsRow w.heap.size 21 1 v4 ns.length (i32s ns)
  lo : Below w.heap.size w wx
theorem BkS.kept {w wx wy : World} {bs : List Nat} {ns : List Int} {v3 v4 : Value} (h : BkS w wx bs ns v3 v4) (hb : Below wx.heap.size wx wy) : BkS w wy bs ns v3 v4 :=
  ⟨own_below h.b hb, own_below h.r hb, h.lo.trans (hb.mono h.lo.size)⟩
theorem BkS.bytes {w wx wy : World} {bs ys : List Nat} {ns : List Int} {v3 v4 v5 : Value} {m : Nat} (h : BkS w wx bs ns v3 v4) (hm : ys.length = m) (ho : wy.ownsRow w.heap.size 5 1 v5 (bs.length + m) (u8s (bs ++ ys))) (hg : wx.grownBy wy v3.ownBlock) : BkS w wy (bs ++ ys) ns v5 v4 := by
  subst hm
  refine ⟨by rw [List.length_append]; exact ho, h.r.kept hg (rows_apart h.r h.b (by decide)), h.lo.grown hg h.lo.size fun k hk => own_ge h.b k hk⟩
theorem BkS.runes {w wx wy : World} {bs : List Nat} {ns ys : List Int} {v3 v4 v5 : Value} {m : Nat} (h : BkS w wx bs ns v3 v4) (hm : ys.length = m) (ho : wy.ownsRow w.heap.size 21 1 v5 (ns.length + m) (i32s (ns ++ ys))) (hg : wx.grownBy wy v4.ownBlock) : BkS w wy bs (ns ++ ys) v3 v5 := by
  subst hm
  refine ⟨h.b.kept hg (rows_apart h.b h.r (by decide)), by rw [List.length_append]; exact ho, h.lo.grown hg h.lo.size fun k hk => own_ge h.r k hk⟩
theorem forms_bytes (ns : List Nat) (h : ∀ x ∈ ns, IsPt (x : Int)) : BytesN (formsF ns) := by
  induction ns with
  | nil => intro x hx; cases hx
  | cons n ns ih =>
    have e : formsF (n :: ns) = formF n ++ formsF ns := by simp [formsF]
    rw [e]
    have hn := (h n (List.mem_cons_self ..)).2.1
    exact bytes_append (formF_bytes (by omega)) (ih fun x hx => h x (List.mem_cons_of_mem _ hx))
end Go.Proofs.YtijjifdgmffenabDoor
