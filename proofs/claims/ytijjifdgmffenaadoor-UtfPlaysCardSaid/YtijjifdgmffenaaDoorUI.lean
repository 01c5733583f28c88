/-
  Walks: Decode; a decoder that is not there; numbers held against each other.
-/
import Derived.Test.YtijjifdgmffenaaDoorUH
namespace Go.Proofs.YtijjifdgmffenaaDoor
open Go.RowKit

theorem own_kp {w w' : World} {B C g n : Nat} {e : TypeId} {v : Value} {us : List Value} (h : w.ownsRow B e 1 v n us) (hk : Kp C g w w') (hC : w.heap.size ≤ C) (hg : g < B) : w'.ownsRow B e 1 v n us := by
  refine h.kept (w' := w') (row := some g) ⟨hk.os, hk.tape, hk.output, hk.size, fun k h1 h2 => hk.block k (Nat.lt_of_lt_of_le h1 hC) (fun e => h2 (by rw [e]))⟩ ?_
  by_cases hv : v.ownBlock = none
  · exact Or.inl hv
  · refine Or.inr fun e => ?_
    have := own_ge h g e
    omega
theorem Kp.toBelow {B g : Nat} {a b : World} (h : Kp B g a b) (hg : g ≤ B) : Below g a b :=
  ⟨h.os, h.tape, h.output, h.size, fun k hk => h.block k (Nat.lt_of_lt_of_le hk hg) (Nat.ne_of_lt hk)⟩

set_option maxHeartbeats 4000000 in
set_option maxRecDepth 100000 in
/-- all code points of bytes -/
theorem decode_any (L cap : Nat) (p : Option Addr) (bs : List Nat) (w : World) (hL : LaidU w) (hp : Piece w p cap bs) (hl : bs.length = L) (hL2 : L ≤ 99000) :
    Calls Tryd.prog 13 #[.slice p L cap] w fun e w' => ∃ v', e = .returned v' ∧ w'.ownsRow w.heap.size 21 1 v' (utfF bs).length (i32s (ints (utfF bs))) ∧ Below w.heap.size w w' := by
  have HL := hide hL
  have HP := hide (And.intro hp (And.intro hl hL2))
  have HN := hide (new_any w)
  clear hL hp hl hL2
  go_enter Tryd.func13, Tryd.ntmps13
  go_wp2_with fail
  refine HN.out.mono ?_
  rintro r w1 ⟨rfl, a1, b1⟩
  have HB1 := hide b1
  have HPU := hide (put_any Dc.no w.heap.size L cap p bs w1 no_ok (HL.out.kept b1) a1 HL.out.size (HP.out.1.kept b1) HP.out.2.1 HP.out.2.2)
  have HG1 := hide a1.lt
  clear a1 b1 HN
  go_wp2_with fail
  refine HPU.out.mono ?_
  rintro r w2 ⟨v2, rfl, o2, a2, k2⟩
  have HEN := hide (end_any _ w.heap.size w2 a2)
  have HO2 := hide o2
  have HK2 := hide (And.intro k2 a2.lt)
  clear o2 a2 k2 HPU
  go_wp2_with fail
  refine HEN.out.mono ?_
  rintro r w3 ⟨p3, c3, rfl, r3, _, _, k3⟩
  have HO3 := hide (own_kp HO2.out k3 (Nat.le_refl _) HG1.out)
  have HR3 := hide r3
  have HB3 : Hid (Below w.heap.size w w3) := HB1.out.trans ((HK2.out.1.toBelow (Nat.le_of_lt HG1.out)).trans (k3.toBelow (Nat.le_of_lt HK2.out.2)))
  have HSZ : Hid ((Dc.no.run bs).2.length + (Dc.no.run bs).1.end.length ≤ 17592186044416) := by
    have h1 := (utfF_len bs).1
    unfold utfF at h1
    rw [List.length_append] at h1
    have h2 := HP.out.2.1
    have h3 := HP.out.2.2
    show _ ≤ _
    omega
  have HW3 : Hid (w1.heap.size ≤ w3.heap.size) := Nat.le_trans HK2.out.1.size k3.size
  clear r3 k3 HEN HO2 HK2
  go_wp2_with (refine wpList_append_runes rfl _ _ rfl w1.heap.size v2 (ints (Dc.no.run bs).2) rfl (Dc.no.run bs).2.length (ints_length _) HO3.out p3 _ c3 (ints (Dc.no.run bs).1.end) (ints_length _) rfl HR3.out.1 HR3.out.2.1 HSZ.out HW3.out ?_; intro v5 w5 o5 g5; have HO5 := hide o5; have HG5 := hide g5; clear o5 g5)
  go_ret
  refine ⟨v5, rfl, ?_, HB3.out.grown HG5.out HB3.out.size fun k hk => Nat.le_of_lt (Nat.lt_of_lt_of_le HG1.out (own_ge HO3.out k hk))⟩
  have e : utfF bs = (Dc.no.run bs).2 ++ (Dc.no.run bs).1.end := rfl
  rw [e, List.length_append, ints_append]
  exact own_base HO5.out (Nat.le_of_lt HG1.out)
set_option maxHeartbeats 2000000 in
theorem put_nil (L cap : Nat) (p : Option Addr) (bs : List Nat) (w : World) (hL : LaidU w) (hp : Piece w p cap bs) (hl : bs.length = L) (hL2 : L ≤ 99000) :
    Calls Tryd.prog 17 #[.pointer none, .slice p L cap] w fun e w' => ∃ v', e = .returned v' ∧ w'.ownsRow w.heap.size 21 1 v' (utfF bs).length (i32s (ints (utfF bs))) ∧ Below w.heap.size w w' := by
  have HD := hide (decode_any L cap p bs w hL hp hl hL2)
  clear hL hp hl hL2
  go_enter Tryd.func17, Tryd.ntmps17
  go_wp2_with fail
  refine HD.out.mono ?_
  rintro r w2 ⟨v2, rfl, o2, b2⟩
  have H := hide (And.intro o2 b2)
  clear o2 b2 HD
  go_wp2_with fail
  go_ret
  exact ⟨v2, rfl, H.out⟩
set_option maxHeartbeats 2000000 in
theorem end_nil (w : World) : Calls Tryd.prog 18 #[.pointer none] w fun e w' => e = .returned (.slice none 0 0) ∧ w' = w := by
  have HH := hide (held_nil w)
  go_enter Tryd.func18, Tryd.ntmps18
  go_wp2_with fail
  refine HH.out.mono ?_
  rintro r w2 ⟨rfl, rfl⟩
  go_wp2_with fail
  go_ret
  exact ⟨rfl, rfl⟩
end Go.Proofs.YtijjifdgmffenaaDoor
