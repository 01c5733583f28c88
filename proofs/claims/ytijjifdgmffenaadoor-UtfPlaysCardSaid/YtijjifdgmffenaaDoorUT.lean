/-
  Walks: the reference's read.
-/
import Derived.Test.YtijjifdgmffenaaDoorUS
import Derived.Test.YtijjifdgmffenaaDoorBE
namespace Go.Proofs.YtijjifdgmffenaaDoor
open Go.RowKit

theorem baseF_lt (b : Nat) (hb : b < 256) : baseF b < 256 := by
  unfold baseF
  have := sizeF_cases b
  by_cases h2 : sizeF b = 2
  · rw [if_pos h2]; omega
  · rw [if_neg h2]
    by_cases h3 : sizeF b = 3
    · rw [if_pos h3]; omega
    · rw [if_neg h3]
      by_cases h4 : sizeF b = 4
      · rw [if_pos h4]; omega
      · rw [if_neg h4]; omega
theorem getD_lt {t : List Nat} (hb : ∀ x ∈ t, x < 256) (i : Nat) : t.getD i 0 < 256 := by
  by_cases h : i < t.length
  · have e : t.getD i 0 = t[i] := by simp [List.getD, h]
    rw [e]; exact hb _ (List.getElem_mem h)
  · have e : t.getD i 0 = 0 := by simp [List.getD, Nat.le_of_not_lt h]
    rw [e]; decide
theorem lowR_bound {t : List Nat} (hb : ∀ x ∈ t, x < 256) : ∀ j, j ≤ 3 → -200000 * 64 ≤ lowR t j ∧ lowR t j ≤ 68000000 := by
  have h0 : 0 ≤ lowR t 0 ∧ lowR t 0 < 256 := by
    have := baseF_lt _ (getD_lt hb 0)
    show 0 ≤ ((baseF (t.getD 0 0) : Nat) : Int) ∧ ((baseF (t.getD 0 0) : Nat) : Int) < 256
    omega
  have h1 : lowR t 1 = lowR t 0 * 64 + (t.getD 1 0 : Nat) - 128 := rfl
  have h2 : lowR t 2 = lowR t 1 * 64 + (t.getD 2 0 : Nat) - 128 := rfl
  have h3 : lowR t 3 = lowR t 2 * 64 + (t.getD 3 0 : Nat) - 128 := rfl
  have g1 := getD_lt hb 1
  have g2 := getD_lt hb 2
  have g3 := getD_lt hb 3
  intro j hj
  have : j = 0 ∨ j = 1 ∨ j = 2 ∨ j = 3 := by omega
  rcases this with rfl | rfl | rfl | rfl <;> omega
/-- the numbers whose bytes begin so are small enough -/
theorem lowN_bound {t : List Nat} (j : Nat) (hj : j + 1 ≤ sizeF (t.getD 0 0)) : (lowN t j + 1) * openF (sizeF (t.getD 0 0) - (j + 1)) ≤ 4194304 := by
  have h0 : lowN t 0 = baseF (t.getD 0 0) := rfl
  have h1 : lowN t 1 = lowN t 0 * 64 + t.getD 1 0 % 64 := rfl
  have h2 : lowN t 2 = lowN t 1 * 64 + t.getD 2 0 % 64 := rfl
  have h3 : lowN t 3 = lowN t 2 * 64 + t.getD 3 0 % 64 := rfl
  have m1 : t.getD 1 0 % 64 < 64 := Nat.mod_lt _ (by decide)
  have m2 : t.getD 2 0 % 64 < 64 := Nat.mod_lt _ (by decide)
  have m3 : t.getD 3 0 % 64 < 64 := Nat.mod_lt _ (by decide)
  have o0 : openF 0 = 1 := rfl
  have o1 : openF 1 = 64 := rfl
  have o2 : openF 2 = 4096 := rfl
  have o3 : openF 3 = 262144 := rfl
  have hb0 : baseF (t.getD 0 0) + 1 ≤ (if sizeF (t.getD 0 0) = 1 then 128 else if sizeF (t.getD 0 0) = 2 then 32 else if sizeF (t.getD 0 0) = 3 then 16 else 8) := by
    have := sizeF_cases (t.getD 0 0)
    unfold baseF
    by_cases e2 : sizeF (t.getD 0 0) = 2
    · rw [if_pos e2, if_neg (by omega), if_pos e2]; omega
    · rw [if_neg e2]
      by_cases e3 : sizeF (t.getD 0 0) = 3
      · rw [if_pos e3, if_neg (by omega), if_neg e2, if_pos e3]; omega
      · rw [if_neg e3]
        by_cases e4 : sizeF (t.getD 0 0) = 4
        · rw [if_pos e4, if_neg (by omega), if_neg e2, if_neg e3]; omega
        · rw [if_neg e4, if_pos (by omega)]; omega
  have hs := sizeF_le (t.getD 0 0)
  generalize sizeF (t.getD 0 0) = n at *
  generalize baseF (t.getD 0 0) = B at *
  have hn : n = 1 ∨ n = 2 ∨ n = 3 ∨ n = 4 := by omega
  rcases hn with rfl | rfl | rfl | rfl
  · have hj0 : j = 0 := by omega
    subst hj0
    have hb1 : B + 1 ≤ 128 := hb0
    show (lowN t 0 + 1) * openF 0 ≤ _
    rw [o0]; omega
  · have hb1 : B + 1 ≤ 32 := hb0
    have : j = 0 ∨ j = 1 := by omega
    rcases this with rfl | rfl
    · show (lowN t 0 + 1) * openF 1 ≤ _
      rw [o1]; omega
    · show (lowN t 1 + 1) * openF 0 ≤ _
      rw [o0]; omega
  · have hb1 : B + 1 ≤ 16 := hb0
    have : j = 0 ∨ j = 1 ∨ j = 2 := by omega
    rcases this with rfl | rfl | rfl
    · show (lowN t 0 + 1) * openF 2 ≤ _
      rw [o2]; omega
    · show (lowN t 1 + 1) * openF 1 ≤ _
      rw [o1]; omega
    · show (lowN t 2 + 1) * openF 0 ≤ _
      rw [o0]; omega
  · have hb1 : B + 1 ≤ 8 := hb0
    have : j = 0 ∨ j = 1 ∨ j = 2 ∨ j = 3 := by omega
    rcases this with rfl | rfl | rfl | rfl
    · show (lowN t 0 + 1) * openF 3 ≤ _
      rw [o3]; omega
    · show (lowN t 1 + 1) * openF 2 ≤ _
      rw [o2]; omega
    · show (lowN t 2 + 1) * openF 1 ≤ _
      rw [o1]; omega
    · show (lowN t 3 + 1) * openF 0 ≤ _
      rw [o0]; omega
/-- any, over the numbers whose bytes begin so -/
theorem any_begins {t : List Nat} (j n : Nat) (hn : sizeF (t.getD 0 0) = n) (hj : j + 1 ≤ n) (h4 : n ≤ 4) : anyF ((lowN t j * openF (n - (j + 1)) : Nat) : Int) ((lowN t j * openF (n - (j + 1)) + (openF (n - (j + 1)) - 1) : Nat) : Int) n = (stR t j).begins := by
  unfold anyF stR Dc.begins
  simp only
  rw [hn, show j + 1 + (n - (j + 1)) = n from by omega]
  apply decide_eq_decide.2
  generalize lowN t j * openF (n - (j + 1)) = A
  generalize openF (n - (j + 1)) - 1 = B
  generalize topF n = C
  generalize topF (n - 1) = D
  omega
theorem any_gap4 {t : List Nat} (j n : Nat) (hj : j + 1 ≤ n) (h4 : n ≤ 4) : 55296 ≤ ((lowN t j * openF (n - (j + 1)) : Nat) : Int) ∧ ((lowN t j * openF (n - (j + 1)) : Nat) : Int) ≤ 57343 → n = 4 → ((lowN t j * openF (n - (j + 1)) + (openF (n - (j + 1)) - 1) : Nat) : Int) ≤ 65535 := by
  rintro ⟨h1, h2⟩ rfl
  have o0 : openF 0 = 1 := rfl
  have o1 : openF 1 = 64 := rfl
  have o2 : openF 2 = 4096 := rfl
  have o3 : openF 3 = 262144 := rfl
  have hP : openF (4 - (j + 1)) = 262144 ∨ openF (4 - (j + 1)) = 4096 ∨ openF (4 - (j + 1)) = 64 ∨ openF (4 - (j + 1)) = 1 := by
    have : j = 0 ∨ j = 1 ∨ j = 2 ∨ j = 3 := by omega
    rcases this with rfl | rfl | rfl | rfl
    · exact Or.inl o3
    · exact Or.inr (Or.inl o2)
    · exact Or.inr (Or.inr (Or.inl o1))
    · exact Or.inr (Or.inr (Or.inr o0))
  clear o0 o1 o2 o3
  obtain ⟨V, hV⟩ : ∃ V, lowN t j = V := ⟨_, rfl⟩
  obtain ⟨P, hPP⟩ : ∃ P, openF (4 - (j + 1)) = P := ⟨_, rfl⟩
  rw [hV, hPP] at h1 h2
  rw [hPP] at hP
  rw [hV, hPP]
  obtain ⟨A, hA⟩ : ∃ A, V * P = A := ⟨_, rfl⟩
  rw [hA] at h1 h2
  rw [hA]
  have hm : P = 262144 ∧ A = V * 262144 ∨ P = 4096 ∧ A = V * 4096 ∨ P = 64 ∨ P = 1 := by
    rcases hP with h | h | h | h
    · exact Or.inl ⟨h, by rw [← hA, h]⟩
    · exact Or.inr (Or.inl ⟨h, by rw [← hA, h]⟩)
    · exact Or.inr (Or.inr (Or.inl h))
    · exact Or.inr (Or.inr (Or.inr h))
  clear hA hP hPP hV
  omega

theorem openF_pow (m : Nat) (h : m ≤ 3) : openF m = 64 ^ m := by
  match m, h with
  | 0, _ => rfl
  | 1, _ => rfl
  | 2, _ => rfl
  | 3, _ => rfl
theorem openF_succ (m : Nat) (h : m ≤ 2) : openF (m + 1) = openF m * 64 := by
  match m, h with
  | 0, _ => rfl
  | 1, _ => rfl
  | 2, _ => rfl
theorem openF_ge (m : Nat) : 1 ≤ openF m ∧ openF m ≤ 262144 := by
  unfold openF
  split
  · decide
  · split
    · decide
    · split
      · decide
      · decide
end Go.Proofs.YtijjifdgmffenaaDoor
