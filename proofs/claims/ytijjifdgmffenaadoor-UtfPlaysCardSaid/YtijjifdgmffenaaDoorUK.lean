/-
  Walks: the reference's code points and forms.
-/
import Derived.Test.YtijjifdgmffenaaDoorUJ
namespace Go.Proofs.YtijjifdgmffenaaDoor
open Go.RowKit

set_option maxHeartbeats 2000000 in
theorem rpoint_any (c : Int) (w : World) : Calls Tryd.prog 24 #[.int .i32 c] w fun e w' => e = .returned (.bool (decide (IsPt c))) ∧ w' = w := by
  by_cases h0 : 0 ≤ c
  · have d0 : decide (0 ≤ c) = true := decide_eq_true h0
    by_cases h1 : c ≤ 1114111
    · have d1 : decide (c ≤ 1114111) = true := decide_eq_true h1
      by_cases h2 : c < 55296
      · have d2 : decide (c < 55296) = true := decide_eq_true h2
        rw [decide_eq_true (show IsPt c from ⟨h0, h1, Or.inl h2⟩)]
        clear h0 h1 h2
        go_enter Tryd.func24, Tryd.ntmps24
        go_wp2
        go_ret
        exact ⟨rfl, rfl⟩
      · have d2 : decide (c < 55296) = false := decide_eq_false h2
        have hd : decide (IsPt c) = decide (57343 < c) := by
          unfold IsPt
          simp only [h0, h1, h2, true_and, false_or]
        rw [hd]
        clear h0 h1 h2 hd
        go_enter Tryd.func24, Tryd.ntmps24
        go_wp2
        go_ret
        exact ⟨rfl, rfl⟩
    · have d1 : decide (c ≤ 1114111) = false := decide_eq_false h1
      rw [decide_eq_false (show ¬ IsPt c from fun h => h1 h.2.1)]
      clear h0 h1
      go_enter Tryd.func24, Tryd.ntmps24
      go_wp2
      go_ret
      exact ⟨rfl, rfl⟩
  · have d0 : decide (0 ≤ c) = false := decide_eq_false h0
    rw [decide_eq_false (show ¬ IsPt c from fun h => h0 h.1)]
    clear h0
    go_enter Tryd.func24, Tryd.ntmps24
    go_wp2
    go_ret
    exact ⟨rfl, rfl⟩


set_option maxHeartbeats 4000000 in
theorem rform_bad (c : Int) (w : World) (hn : ¬ IsPt c) : Calls Tryd.prog 10 #[.int .i32 c] w (FormP w c) := by
  have HI := hide (rpoint_any c w)
  rw [decide_eq_false hn] at HI
  have HF : Hid (formF (ptF c) = [239, 191, 189]) := by show _ = _; rw [ptF_bad hn]; rfl
  clear hn
  go_enter Tryd.func10, Tryd.ntmps10
  go_wp2_with (refine HI.out.mono ?_; rintro r w1 ⟨rfl, rfl⟩)
  go_ret
  exact formP_of _ HF.out rfl (heap_alloc_new _ _) ((Below.refl _ _).alloc (Nat.le_refl _) _) (by omega)

set_option maxHeartbeats 4000000 in
theorem rform_pt (n : Nat) (w : World) (hn : IsPt (n : Int)) : Calls Tryd.prog 10 #[.int .i32 (n : Int)] w (FormP w (n : Int)) := by
  have hp : n < 1114112 := by have := hn.2.1; omega
  have HI := hide (rpoint_any (n : Int) w)
  rw [decide_eq_true hn] at HI
  have hid := ptF_id hn
  clear hn
  by_cases h1 : n < 128
  · have d1 : decide ((n : Int) < 128) = true := decide_eq_true (by omega)
    have HF : Hid (formF (ptF (n : Int)) = [n]) := by show _ = _; rw [hid]; unfold formF; rw [if_pos (by omega)]
    clear hid hp
    go_enter Tryd.func10, Tryd.ntmps10
    go_wp2_with (refine HI.out.mono ?_; rintro r w1 ⟨rfl, rfl⟩)
    go_ret
    exact formP_of _ HF.out rfl (heap_alloc_new _ _) ((Below.refl _ _).alloc (Nat.le_refl _) _) (by omega)
  · have d1 : decide ((n : Int) < 128) = false := decide_eq_false (by omega)
    obtain ⟨r0, hr0⟩ : ∃ r, r = n % 64 := ⟨_, rfl⟩
    have f0 : (n : Int).tmod 64 = (r0 : Int) := by rw [Int.tmod_eq_emod_of_nonneg (by omega)]; omega
    have b0 : r0 < 64 := by omega
    by_cases h2 : n < 2048
    · have d2 : decide ((n : Int) < 2048) = true := decide_eq_true (by omega)
      obtain ⟨a, ha⟩ : ∃ a, a = n / 64 := ⟨_, rfl⟩
      have e1 : (n : Int).tdiv 64 = (a : Int) := by rw [Int.tdiv_eq_ediv_of_nonneg (by omega)]; omega
      have ba : a < 32 := by omega
      have HF : Hid (formF (ptF (n : Int)) = [192 + a, 128 + r0]) := by show _ = _; rw [hid]; unfold formF; rw [if_neg (by omega), if_pos (by omega), ha, hr0]
      clear h1 h2 hid ha hr0
      go_enter Tryd.func10, Tryd.ntmps10
      go_wp2_with (refine HI.out.mono ?_; rintro r w1 ⟨rfl, rfl⟩)
      go_ret
      exact formP_of _ HF.out rfl (heap_alloc_new _ _) ((Below.refl _ _).alloc (Nat.le_refl _) _) (by omega)
    · have d2 : decide ((n : Int) < 2048) = false := decide_eq_false (by omega)
      obtain ⟨q1, hq1⟩ : ∃ q, q = n / 64 := ⟨_, rfl⟩
      obtain ⟨r1, hr1⟩ : ∃ r, r = q1 % 64 := ⟨_, rfl⟩
      have g1 : (n : Int).tdiv 64 = (q1 : Int) := by rw [Int.tdiv_eq_ediv_of_nonneg (by omega)]; omega
      have f1 : (q1 : Int).tmod 64 = (r1 : Int) := by rw [Int.tmod_eq_emod_of_nonneg (by omega)]; omega
      have b1 : r1 < 64 := by omega
      have bq1 : q1 < 1114112 := by omega
      obtain ⟨q2, hq2⟩ : ∃ q, q = n / 4096 := ⟨_, rfl⟩
      have g2 : (n : Int).tdiv 4096 = (q2 : Int) := by rw [Int.tdiv_eq_ediv_of_nonneg (by omega)]; omega
      have bq2 : q2 < 1114112 := by omega
      by_cases h3 : n < 65536
      · have d3 : decide ((n : Int) < 65536) = true := decide_eq_true (by omega)
        have ba : q2 < 16 := by omega
        have HF : Hid (formF (ptF (n : Int)) = [224 + q2, 128 + r1, 128 + r0]) := by show _ = _; rw [hid]; unfold formF; rw [if_neg (by omega), if_neg (by omega), if_pos (by omega), hq2, hr1, hq1, hr0]
        clear h1 h2 h3 hid hq1 hr1 hr0 hq2
        go_enter Tryd.func10, Tryd.ntmps10
        go_wp2_with (refine HI.out.mono ?_; rintro r w1 ⟨rfl, rfl⟩)
        go_ret
        exact formP_of _ HF.out rfl (heap_alloc_new _ _) ((Below.refl _ _).alloc (Nat.le_refl _) _) (by omega)
      · have d3 : decide ((n : Int) < 65536) = false := decide_eq_false (by omega)
        obtain ⟨r2, hr2⟩ : ∃ r, r = q2 % 64 := ⟨_, rfl⟩
        have f2 : (q2 : Int).tmod 64 = (r2 : Int) := by rw [Int.tmod_eq_emod_of_nonneg (by omega)]; omega
        have b2 : r2 < 64 := by omega
        obtain ⟨q3, hq3⟩ : ∃ q, q = n / 262144 := ⟨_, rfl⟩
        have g3 : (n : Int).tdiv 262144 = (q3 : Int) := by rw [Int.tdiv_eq_ediv_of_nonneg (by omega)]; omega
        have ba : q3 < 8 := by omega
        have HF : Hid (formF (ptF (n : Int)) = [240 + q3, 128 + r2, 128 + r1, 128 + r0]) := by show _ = _; rw [hid]; unfold formF; rw [if_neg (by omega), if_neg (by omega), if_neg (by omega), hq3, hr2, hq2, hr1, hq1, hr0]
        clear h1 h2 h3 hid hq1 hr1 hr0 hq2 hr2 hq3
        go_enter Tryd.func10, Tryd.ntmps10
        go_wp2_with (refine HI.out.mono ?_; rintro r w1 ⟨rfl, rfl⟩)
        go_ret
        exact formP_of _ HF.out rfl (heap_alloc_new _ _) ((Below.refl _ _).alloc (Nat.le_refl _) _) (by omega)

theorem rform_any (c : Int) (w : World) : Calls Tryd.prog 10 #[.int .i32 c] w (FormP w c) := by
  by_cases h : IsPt c
  · obtain ⟨n, rfl⟩ := Int.eq_ofNat_of_zero_le h.1
    exact rform_pt n w h
  · exact rform_bad c w h
end Go.Proofs.YtijjifdgmffenaaDoor
