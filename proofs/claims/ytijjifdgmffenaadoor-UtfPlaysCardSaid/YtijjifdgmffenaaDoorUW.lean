/-
  Walks: all that the document tells of bytes; a row of bytes anew.
-/
import Derived.Test.YtijjifdgmffenaaDoorUV
namespace Go.Proofs.YtijjifdgmffenaaDoor
open Go.RowKit

set_option maxHeartbeats 4000000 in
set_option maxRecDepth 100000 in
theorem rall_any (L cap : Nat) (p : Option Addr) (t : List Nat) (w : World) (hp : Piece w p cap t) (hl : t.length = L) (h9 : L ≤ 99000) {ts : List Nat} (hts : utfF t = ts) :
    Calls Tryd.prog 14 #[.slice p L cap] w fun e w' => ∃ p' c', e = .returned (.slice p' ts.length c') ∧ RPiece w' p' c' (ints ts) ∧ Below w.heap.size w w' := by
  have HD := hide (rdecode_any L cap p t w hp hl h9)
  obtain ⟨hh, hhh⟩ : ∃ hh : Int, ((Dc.no.run t).1.h : Int) = hh := ⟨_, rfl⟩
  rw [hhh] at HD
  have hlen := (utfF_len t).1
  obtain ⟨ns, hns⟩ : ∃ ns, (Dc.no.run t).2 = ns := ⟨_, rfl⟩
  rw [hns] at HD
  have hu : ts = ns ++ (if hh = 0 then [] else [65533]) := by
    rw [← hts]
    unfold utfF Dc.end
    rw [hns]
    by_cases h : (Dc.no.run t).1.h = 0
    · rw [if_pos h, if_pos (by omega)]
    · rw [if_neg h, if_neg (by omega)]
  have HN : Hid (ns.length + 1 ≤ 17592186044416) := by
    have h1 := hlen
    rw [hts, hu, List.length_append] at h1
    show _ ≤ _
    omega
  have HU := hide hu
  have hh0 : 0 ≤ hh := by omega
  clear hp hl h9 hts hhh hlen hns hu
  go_enter Tryd.func14, Tryd.ntmps14
  go_wp2_with fail
  refine HD.out.mono ?_
  rintro r w1 ⟨v, rfl, o1, b1⟩
  have HO := hide o1
  have HB := hide b1
  clear o1 b1 HD
  by_cases h0 : hh = 0
  · have d0 : decide (0 < hh) = false := decide_eq_false (by omega)
    have hu := HU.out
    rw [if_pos h0, List.append_nil] at hu
    subst hu
    clear h0 hh0
    go_wp2_with fail
    go_ret
    obtain ⟨p', c', rfl, hr, _⟩ := own_rpiece (l := ints ts) (by rw [ints_length]; exact HO.out)
    exact ⟨p', c', by rw [← ints_length]; rfl, hr, HB.out⟩
  · have d0 : decide (0 < hh) = true := decide_eq_true (by omega)
    have hu := HU.out
    rw [if_neg h0] at hu
    have HU2 := hide hu
    clear h0 hh0 hu HU
    go_wp2_with (refine wpList_append_runes rfl _ _ rfl w.heap.size _ (ints ns) rfl ns.length (ints_length _) (own_below HO.out ((Below.refl _ _).alloc (Nat.le_refl _) _)) (some ⟨_, 0, none⟩) 1 1 [(65533 : Int)] rfl rfl (ni_one (heap_alloc_new _ _)) (fun h => by cases h) HN.out (Nat.le_trans HB.out.size (by simp)) ?_; intro v5 w5 ho5 hw5; have HO5 := hide ho5; have HB5 := hide ((HB.out.alloc HB.out.size _).grown hw5 (Nat.le_trans HB.out.size (by simp)) (fun k hk => own_ge HO.out k hk)); clear ho5 hw5)
    go_ret
    have ho : w5.ownsRow w.heap.size 21 1 v5 (ints ts).length (i32s (ints ts)) := by
      rw [ints_length, HU2.out, List.length_append, ints_append]
      exact HO5.out
    obtain ⟨p', c', rfl, hr, _⟩ := own_rpiece ho
    exact ⟨p', c', by rw [← ints_length]; rfl, hr, HB5.out⟩
theorem rdecode_of (L cap : Nat) (p : Option Addr) (t : List Nat) (w : World) (hp : Piece w p cap t) (hl : t.length = L) (h9 : L ≤ 99000) {d : Dc} {ts : List Nat} (hr : Dc.no.run t = (d, ts)) :
    Calls Tryd.prog 16 #[.slice p L cap] w fun e w' => ∃ p' c', e = .returned (.tuple #[.slice p' ts.length c', .int .i64 (d.h : Int)]) ∧ RPiece w' p' c' (ints ts) ∧ Below w.heap.size w w' := by
  refine (rdecode_any L cap p t w hp hl h9).mono ?_
  rintro e w' ⟨v, rfl, ho, hb⟩
  rw [hr] at ho ⊢
  obtain ⟨p', c', rfl, h1, _⟩ := own_rpiece (l := ints ts) (by rw [ints_length]; exact ho)
  exact ⟨p', c', by rw [← ints_length], h1, hb⟩
/-- '[]byte{}' -/
theorem own_emptyb (w : World) : (w.alloc (.cells #[] 5)).ownsRow w.heap.size 5 1 (.slice (some ⟨w.heap.size, 0, none⟩) 0 0) 0 (u8s []) :=
  World.ownsRow_made w #[] 0 (Nat.le_refl _) (Nat.zero_le _) rfl
end Go.Proofs.YtijjifdgmffenaaDoor
