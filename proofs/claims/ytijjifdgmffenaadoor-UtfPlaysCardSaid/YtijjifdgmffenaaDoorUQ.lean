/-
  Walks: the reference's size and any.
-/
import Derived.Test.YtijjifdgmffenaaDoorUL
import Derived.Test.YtijjifdgmffenaaDoorUK
namespace Go.Proofs.YtijjifdgmffenaaDoor
open Go.RowKit

set_option maxHeartbeats 4000000 in
theorem rsize_any (b : Nat) (w : World) (hb : b < 256) : Calls Tryd.prog 28 #[.int .u8 (b : Int)] w fun e w' => e = .returned (.int .i64 (sizeF b : Int)) ∧ w' = w := by
  obtain ⟨q, hq⟩ : ∃ q : Int, q = (b : Int) := ⟨_, rfl⟩
  rw [← hq]
  have hcs : b < 128 ∨ 128 ≤ b ∧ b < 192 ∨ 192 ≤ b ∧ b < 224 ∨ 224 ≤ b ∧ b < 240 ∨ 240 ≤ b ∧ b < 248 ∨ 248 ≤ b := by omega
  rcases hcs with hc | hc | hc | hc | hc | hc
  · have hs : sizeF b = 1 := by have := sizeF_cases b; omega
    rw [hs]
    have d0 : decide (q < 128) = true := decide_eq_true (by omega)
    have d1 : decide (192 ≤ q) = false := decide_eq_false (by omega)
    have d2 : decide (q < 224) = true := decide_eq_true (by omega)
    have d3 : decide (224 ≤ q) = false := decide_eq_false (by omega)
    have d4 : decide (q < 240) = true := decide_eq_true (by omega)
    have d5 : decide (240 ≤ q) = false := decide_eq_false (by omega)
    have d6 : decide (q < 248) = true := decide_eq_true (by omega)
    clear hs hc hq hb
    go_enter Tryd.func28, Tryd.ntmps28
    go_wp2_with fail
    go_ret
    exact ⟨rfl, rfl⟩
  · have hs : sizeF b = 0 := by have := sizeF_cases b; omega
    rw [hs]
    have d0 : decide (q < 128) = false := decide_eq_false (by omega)
    have d1 : decide (192 ≤ q) = false := decide_eq_false (by omega)
    have d2 : decide (q < 224) = true := decide_eq_true (by omega)
    have d3 : decide (224 ≤ q) = false := decide_eq_false (by omega)
    have d4 : decide (q < 240) = true := decide_eq_true (by omega)
    have d5 : decide (240 ≤ q) = false := decide_eq_false (by omega)
    have d6 : decide (q < 248) = true := decide_eq_true (by omega)
    clear hs hc hq hb
    go_enter Tryd.func28, Tryd.ntmps28
    go_wp2_with fail
    go_ret
    exact ⟨rfl, rfl⟩
  · have hs : sizeF b = 2 := by have := sizeF_cases b; omega
    rw [hs]
    have d0 : decide (q < 128) = false := decide_eq_false (by omega)
    have d1 : decide (192 ≤ q) = true := decide_eq_true (by omega)
    have d2 : decide (q < 224) = true := decide_eq_true (by omega)
    have d3 : decide (224 ≤ q) = false := decide_eq_false (by omega)
    have d4 : decide (q < 240) = true := decide_eq_true (by omega)
    have d5 : decide (240 ≤ q) = false := decide_eq_false (by omega)
    have d6 : decide (q < 248) = true := decide_eq_true (by omega)
    clear hs hc hq hb
    go_enter Tryd.func28, Tryd.ntmps28
    go_wp2_with fail
    go_ret
    exact ⟨rfl, rfl⟩
  · have hs : sizeF b = 3 := by have := sizeF_cases b; omega
    rw [hs]
    have d0 : decide (q < 128) = false := decide_eq_false (by omega)
    have d1 : decide (192 ≤ q) = true := decide_eq_true (by omega)
    have d2 : decide (q < 224) = false := decide_eq_false (by omega)
    have d3 : decide (224 ≤ q) = true := decide_eq_true (by omega)
    have d4 : decide (q < 240) = true := decide_eq_true (by omega)
    have d5 : decide (240 ≤ q) = false := decide_eq_false (by omega)
    have d6 : decide (q < 248) = true := decide_eq_true (by omega)
    clear hs hc hq hb
    go_enter Tryd.func28, Tryd.ntmps28
    go_wp2_with fail
    go_ret
    exact ⟨rfl, rfl⟩
  · have hs : sizeF b = 4 := by have := sizeF_cases b; omega
    rw [hs]
    have d0 : decide (q < 128) = false := decide_eq_false (by omega)
    have d1 : decide (192 ≤ q) = true := decide_eq_true (by omega)
    have d2 : decide (q < 224) = false := decide_eq_false (by omega)
    have d3 : decide (224 ≤ q) = true := decide_eq_true (by omega)
    have d4 : decide (q < 240) = false := decide_eq_false (by omega)
    have d5 : decide (240 ≤ q) = true := decide_eq_true (by omega)
    have d6 : decide (q < 248) = true := decide_eq_true (by omega)
    clear hs hc hq hb
    go_enter Tryd.func28, Tryd.ntmps28
    go_wp2_with fail
    go_ret
    exact ⟨rfl, rfl⟩
  · have hs : sizeF b = 0 := by have := sizeF_cases b; omega
    rw [hs]
    have d0 : decide (q < 128) = false := decide_eq_false (by omega)
    have d1 : decide (192 ≤ q) = true := decide_eq_true (by omega)
    have d2 : decide (q < 224) = false := decide_eq_false (by omega)
    have d3 : decide (224 ≤ q) = true := decide_eq_true (by omega)
    have d4 : decide (q < 240) = false := decide_eq_false (by omega)
    have d5 : decide (240 ≤ q) = true := decide_eq_true (by omega)
    have d6 : decide (q < 248) = false := decide_eq_false (by omega)
    clear hs hc hq hb
    go_enter Tryd.func28, Tryd.ntmps28
    go_wp2_with fail
    go_ret
    exact ⟨rfl, rfl⟩

/-- is there a code point with a form of so many bytes? -/
def anyF (q hi : Int) (n : Nat) : Bool := decide (q ≤ hi ∧ (n = 1 ∨ ((topF (n - 1) : Nat) : Int) < hi) ∧ q ≤ ((topF n : Nat) : Int) ∧ (q < 55296 ∨ 57343 < hi))
theorem topF_1 : topF 1 = 127 := rfl
theorem topF_2 : topF 2 = 2047 := rfl
theorem topF_3 : topF 3 = 65535 := rfl
theorem topF_4 : topF 4 = 1114111 := rfl
theorem len_form (q : Int) (h0 : 0 ≤ q) : (formF (ptF q)).length = if IsPt q then (if q < 128 then 1 else if q < 2048 then 2 else if q < 65536 then 3 else 4) else 3 := by
  by_cases h : IsPt q
  · rw [if_pos h]
    obtain ⟨n, rfl⟩ := Int.eq_ofNat_of_zero_le h0
    rw [ptF_id h]
    unfold formF
    by_cases c1 : n < 128
    · rw [if_pos c1, if_pos (show (n : Int) < 128 by omega)]; rfl
    · rw [if_neg c1, if_neg (show ¬ (n : Int) < 128 by omega)]
      by_cases c2 : n < 2048
      · rw [if_pos c2, if_pos (show (n : Int) < 2048 by omega)]; rfl
      · rw [if_neg c2, if_neg (show ¬ (n : Int) < 2048 by omega)]
        by_cases c3 : n < 65536
        · rw [if_pos c3, if_pos (show (n : Int) < 65536 by omega)]; rfl
        · rw [if_neg c3, if_neg (show ¬ (n : Int) < 65536 by omega)]; rfl
  · rw [if_neg h, ptF_bad h]; rfl
theorem n_cases {n : Nat} (h1 : 1 ≤ n) (h4 : n ≤ 4) : n = 1 ∨ n = 2 ∨ n = 3 ∨ n = 4 := by omega
/-- it goes on behind a bound -/
theorem any_next {q hi x : Int} {n L : Nat} (h1 : 1 ≤ n) (h4 : n ≤ 4) (h0 : 0 ≤ q) (ha : q ≤ hi) (hg : q < 55296 ∨ 57343 < q) (hl : (formF (ptF q)).length = L) (hL : L < n) (ht : q ≤ 1114111)
    (hx : q < 128 ∧ x = 128 ∨ 128 ≤ q ∧ q < 2048 ∧ x = 2048 ∨ 2048 ≤ q ∧ q < 65536 ∧ x = 65536) : anyF x hi n = anyF q hi n := by
  have hp : IsPt q := ⟨h0, ht, hg⟩
  rw [len_form q h0, if_pos hp] at hl
  unfold anyF
  apply decide_eq_decide.2
  rcases hx with ⟨c, rfl⟩ | ⟨c, d, rfl⟩ | ⟨c, d, rfl⟩
  · rw [if_pos c] at hl
    rcases n_cases h1 h4 with rfl | rfl | rfl | rfl
    · omega
    · rw [topF_2, show 2 - 1 = 1 from rfl, topF_1]; omega
    · rw [topF_3, show 3 - 1 = 2 from rfl, topF_2]; omega
    · rw [topF_4, show 4 - 1 = 3 from rfl, topF_3]; omega
  · rw [if_neg (by omega), if_pos d] at hl
    rcases n_cases h1 h4 with rfl | rfl | rfl | rfl
    · omega
    · omega
    · rw [topF_3, show 3 - 1 = 2 from rfl, topF_2]; omega
    · rw [topF_4, show 4 - 1 = 3 from rfl, topF_3]; omega
  · rw [if_neg (by omega), if_neg (by omega), if_pos d] at hl
    rcases n_cases h1 h4 with rfl | rfl | rfl | rfl
    · omega
    · omega
    · omega
    · rw [topF_4, show 4 - 1 = 3 from rfl, topF_3]; omega
theorem any_far {q : Int} {n L : Nat} (h4 : n ≤ 4) (h0 : 0 ≤ q) (hg : q < 55296 ∨ 57343 < q) (hl : (formF (ptF q)).length = L) (hL : L < n) (ht : q ≤ 1114111) : q < 65536 := by
  have hp : IsPt q := ⟨h0, ht, hg⟩
  rw [len_form q h0, if_pos hp] at hl
  by_cases c : q < 65536
  · exact c
  · rw [if_neg (by omega), if_neg (by omega), if_neg c] at hl; omega
theorem any_over {q hi : Int} {n : Nat} (h : ¬ q ≤ hi) : anyF q hi n = false := by unfold anyF; exact decide_eq_false fun h1 => h h1.1
theorem any_top {q hi : Int} {n : Nat} (h : ¬ q ≤ 1114111) : anyF q hi n = false := by
  unfold anyF
  refine decide_eq_false fun h1 => ?_
  have := topF_le n
  omega
theorem any_gap {q hi : Int} {n : Nat} (h1 : 1 ≤ n) (h4 : n ≤ 4) (ha : q ≤ hi) (hg : 55296 ≤ q ∧ q ≤ 57343) (h6 : n = 4 → hi ≤ 65535) : anyF q hi n = (decide (57344 ≤ hi) && ((3 : Int) == (n : Int))) := by
  have e : ((3 : Int) == (n : Int)) = decide ((3 : Int) = (n : Int)) := rfl
  rw [e, ← Bool.decide_and]
  unfold anyF
  apply decide_eq_decide.2
  rcases n_cases h1 h4 with rfl | rfl | rfl | rfl
  · rw [topF_1]; omega
  · rw [topF_2, show 2 - 1 = 1 from rfl, topF_1]; omega
  · rw [topF_3, show 3 - 1 = 2 from rfl, topF_2]; omega
  · rw [topF_4, show 4 - 1 = 3 from rfl, topF_3]; have := h6 rfl; omega
theorem any_here {q hi : Int} {n L : Nat} (h1 : 1 ≤ n) (h4 : n ≤ 4) (h0 : 0 ≤ q) (ha : q ≤ hi) (hg : q < 55296 ∨ 57343 < q) (hl : (formF (ptF q)).length = L) (hL : ¬ L < n) (ht : q ≤ 1114111) : anyF q hi n = ((L : Int) == (n : Int)) := by
  have hp : IsPt q := ⟨h0, ht, hg⟩
  rw [len_form q h0, if_pos hp] at hl
  have e : ((L : Int) == (n : Int)) = decide ((L : Int) = (n : Int)) := rfl
  rw [e]
  unfold anyF
  apply decide_eq_decide.2
  have hl4 : q < 128 ∧ L = 1 ∨ 128 ≤ q ∧ q < 2048 ∧ L = 2 ∨ 2048 ≤ q ∧ q < 65536 ∧ L = 3 ∨ 65536 ≤ q ∧ L = 4 := by
    by_cases c1 : q < 128
    · rw [if_pos c1] at hl; omega
    · rw [if_neg c1] at hl
      by_cases c2 : q < 2048
      · rw [if_pos c2] at hl; omega
      · rw [if_neg c2] at hl
        by_cases c3 : q < 65536
        · rw [if_pos c3] at hl; omega
        · rw [if_neg c3] at hl; omega
  clear hl e hp
  rcases n_cases h1 h4 with rfl | rfl | rfl | rfl
  · rw [topF_1]; omega
  · rw [topF_2, show 2 - 1 = 1 from rfl, topF_1]; omega
  · rw [topF_3, show 3 - 1 = 2 from rfl, topF_2]; omega
  · rw [topF_4, show 4 - 1 = 3 from rfl, topF_3]; omega
end Go.Proofs.YtijjifdgmffenaaDoor
