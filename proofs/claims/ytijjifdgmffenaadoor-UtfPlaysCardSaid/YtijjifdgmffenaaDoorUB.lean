/-
  Plain: how the document reads bytes, against the decoder's steps; forms are told as what they are forms of.
-/
import Derived.Test.YtijjifdgmffenaaDoorUA
namespace Go.Proofs.YtijjifdgmffenaaDoor

def sizeF (b : Nat) : Nat := if b < 128 then 1 else if 192 ≤ b ∧ b < 224 then 2 else if 224 ≤ b ∧ b < 240 then 3 else if 240 ≤ b ∧ b < 248 then 4 else 0
def baseF (b : Nat) : Nat := if sizeF b = 2 then b - 192 else if sizeF b = 3 then b - 224 else if sizeF b = 4 then b - 240 else b
/-- the bytes behind the first one: do they go on? -/
def fineR (t : List Nat) : Nat → Bool
  | 0 => true
  | j + 1 => fineR t j && isPartF (t.getD (j + 1) 0)
/-- what they come to, whatever they are -/
def lowR (t : List Nat) : Nat → Int
  | 0 => (baseF (t.getD 0 0) : Nat)
  | j + 1 => lowR t j * 64 + (t.getD (j + 1) 0 : Nat) - 128
def lowN (t : List Nat) : Nat → Nat
  | 0 => baseF (t.getD 0 0)
  | j + 1 => lowN t j * 64 + t.getD (j + 1) 0 % 64
theorem lowR_fine {t : List Nat} : ∀ {j : Nat}, fineR t j = true → lowR t j = (lowN t j : Int)
  | 0, _ => rfl
  | j + 1, h => by
    unfold fineR at h
    simp only [Bool.and_eq_true] at h
    have h1 := lowR_fine h.1
    have h2 := h.2
    unfold isPartF at h2
    simp only [decide_eq_true_eq] at h2
    show lowR t j * 64 + (t.getD (j + 1) 0 : Nat) - 128 = ((lowN t j * 64 + t.getD (j + 1) 0 % 64 : Nat) : Int)
    rw [h1]
    omega
/-- the state that so many bytes come to -/
def stR (t : List Nat) (j : Nat) : Dc := ⟨j + 1, sizeF (t.getD 0 0) - (j + 1), lowN t j⟩
def goodR (t : List Nat) (j : Nat) : Bool := fineR t j && (stR t j).begins
/-- the longest that is good: how many; whole? -/
def downF (t : List Nat) (n : Nat) : Nat → Nat × Bool
  | 0 => (1, false)
  | k + 1 => if goodR t k then (k + 1, decide (k + 1 = n)) else downF t n k
def readF (t : List Nat) : Nat × Bool := downF t (sizeF (t.getD 0 0)) (min (sizeF (t.getD 0 0)) t.length)
def beginsF (t : List Nat) : Bool := !((readF t).2 || (readF t).1 != t.length || decide (sizeF (t.getD 0 0) ≤ t.length)) && (decide (1 < t.length) || decide (194 ≤ t.getD 0 0) && decide (t.getD 0 0 ≤ 244))

theorem sizeF_cases (b : Nat) : (sizeF b = 1 ∧ b < 128) ∨ (sizeF b = 2 ∧ 192 ≤ b ∧ b < 224) ∨ (sizeF b = 3 ∧ 224 ≤ b ∧ b < 240) ∨ (sizeF b = 4 ∧ 240 ≤ b ∧ b < 248) ∨ (sizeF b = 0 ∧ (128 ≤ b ∧ b < 192 ∨ 248 ≤ b)) := by
  unfold sizeF
  by_cases h1 : b < 128
  · rw [if_pos h1]; omega
  · rw [if_neg h1]
    by_cases h2 : 192 ≤ b ∧ b < 224
    · rw [if_pos h2]; omega
    · rw [if_neg h2]
      by_cases h3 : 224 ≤ b ∧ b < 240
      · rw [if_pos h3]; omega
      · rw [if_neg h3]
        by_cases h4 : 240 ≤ b ∧ b < 248
        · rw [if_pos h4]; omega
        · rw [if_neg h4]; omega
theorem sizeF_le (b : Nat) : sizeF b ≤ 4 := by have := sizeF_cases b; omega
theorem dc_eq {a b c d e f : Nat} (h1 : a = d) (h2 : b = e) (h3 : c = f) : Dc.mk a b c = ⟨d, e, f⟩ := by rw [h1, h2, h3]
theorem begunF_of {b : Nat} (h : sizeF b ≠ 0) : begunF b = ⟨1, sizeF b - 1, baseF b⟩ ∧ isPartF b = false := by
  have e := sizeF_cases b
  have hp : isPartF b = false := by unfold isPartF; simp only [decide_eq_false_iff_not]; omega
  refine ⟨?_, hp⟩
  unfold baseF
  rcases e with ⟨e1, e2⟩ | ⟨e1, e2, e3⟩ | ⟨e1, e2, e3⟩ | ⟨e1, e2, e3⟩ | ⟨e1, _⟩
  · unfold begunF; rw [e1, if_pos e2]; rfl
  · unfold begunF; rw [e1, if_neg (show ¬ b < 128 by omega), if_pos e3]; exact dc_eq rfl rfl (show b % 64 = b - 192 by omega)
  · unfold begunF; rw [e1, if_neg (show ¬ b < 128 by omega), if_neg (show ¬ b < 224 by omega), if_pos e3]; exact dc_eq rfl rfl (show b % 32 = b - 224 by omega)
  · unfold begunF; rw [e1, if_neg (show ¬ b < 128 by omega), if_neg (show ¬ b < 224 by omega), if_neg (show ¬ b < 240 by omega)]; exact dc_eq rfl rfl (show b % 16 = b - 240 by omega)
  · exact absurd e1 h
theorem may_none {b : Nat} (h : sizeF b = 0) (hb : b < 256) : Dc.no.may b = false := by
  have e : 128 ≤ b ∧ b < 192 ∨ 248 ≤ b := by have := sizeF_cases b; omega
  unfold Dc.may
  rcases e with e | e
  · have hp : isPartF b = true := by unfold isPartF; simp only [decide_eq_true_eq]; exact e
    rw [hp]; rfl
  · have hn : (Dc.no.next b).begins = false := by
      show (begunF b).begins = false
      unfold begunF
      rw [if_neg (show ¬ b < 128 by omega), if_neg (show ¬ b < 224 by omega), if_neg (show ¬ b < 240 by omega)]
      have hn : ¬ (b % 16 * 262144 ≤ 1114111) := by omega
      unfold Dc.begins
      simp only [decide_eq_false_iff_not]
      exact fun h => hn h.2.1
    rw [hn, Bool.and_false]
theorem may_no {b : Nat} (h : sizeF b ≠ 0) : Dc.no.may b = (begunF b).begins := by
  unfold Dc.may
  rw [(begunF_of h).2]
  show ((false == decide (0 < 0)) && (begunF b).begins) = _
  simp
theorem no_step (b : Nat) : Dc.no.step b = step0 b := by
  unfold Dc.step step0
  split
  · rfl
  · rfl

/-- fewer bytes are good where more are -/
theorem good_less {t : List Nat} {j : Nat} (hn : j + 2 ≤ sizeF (t.getD 0 0)) (h : goodR t (j + 1) = true) : goodR t j = true := by
  unfold goodR at h ⊢
  simp only [Bool.and_eq_true] at h ⊢
  have hf := h.1
  unfold fineR at hf
  simp only [Bool.and_eq_true] at hf
  refine ⟨hf.1, ?_⟩
  have hb := h.2
  have h4 := sizeF_le (t.getD 0 0)
  unfold stR at hb ⊢
  generalize sizeF (t.getD 0 0) = n at *
  have hv : lowN t (j + 1) = lowN t j * 64 + t.getD (j + 1) 0 % 64 := rfl
  rw [hv] at hb
  have hr : t.getD (j + 1) 0 % 64 < 64 := Nat.mod_lt _ (by omega)
  generalize t.getD (j + 1) 0 % 64 = r at *
  generalize lowN t j = v at *
  unfold Dc.begins at hb ⊢
  simp only [decide_eq_true_eq] at hb ⊢
  rw [show j + 1 + 1 + (n - (j + 1 + 1)) = n by omega] at hb
  rw [show j + 1 + (n - (j + 1)) = n by omega]
  have ho : openF (n - (j + 1)) = openF (n - (j + 1 + 1)) * 64 := by
    have : n - (j + 1) = n - (j + 1 + 1) + 1 := by omega
    rw [this]
    have h5 : n - (j + 1 + 1) ≤ 2 := by omega
    generalize n - (j + 1 + 1) = q at *
    match q, h5 with
    | 0, _ => rfl
    | 1, _ => rfl
    | 2, _ => rfl
  rw [ho]
  have h0 : 1 ≤ openF (n - (j + 1 + 1)) := by unfold openF; split <;> (try omega); split <;> (try omega); split <;> omega
  generalize openF (n - (j + 1 + 1)) = q at *
  have e1 : (v * 64 + r) * q = v * (q * 64) + r * q := by rw [Nat.add_mul, Nat.mul_assoc, Nat.mul_comm 64 q]
  rw [e1] at hb
  have e2 : r * q + (q - 1) ≤ q * 64 - 1 := by
    have : r * q ≤ 63 * q := Nat.mul_le_mul_right q (by omega)
    omega
  generalize v * (q * 64) = x at *
  generalize r * q = y at *
  generalize topF n = T at *
  generalize topF (n - 1) = U at *
  omega
/-- the step behind a good state -/
theorem stR_next {t : List Nat} {j : Nat} : (stR t j).next (t.getD (j + 1) 0) = stR t (j + 1) := by
  unfold Dc.next stR
  rw [if_neg (by simp)]
  show Dc.mk (j + 1 + 1) (sizeF (t.getD 0 0) - (j + 1) - 1) (lowN t j * 64 + t.getD (j + 1) 0 % 64) = _
  congr 1
theorem stR_may {t : List Nat} {j : Nat} (hg : goodR t j = true) : (stR t j).may (t.getD (j + 1) 0) = goodR t (j + 1) := by
  unfold Dc.may
  rw [stR_next]
  unfold goodR at hg ⊢
  simp only [Bool.and_eq_true] at hg
  show ((isPartF (t.getD (j + 1) 0) == decide (0 < j + 1)) && (stR t (j + 1)).begins) = ((fineR t j && isPartF (t.getD (j + 1) 0)) && (stR t (j + 1)).begins)
  rw [hg.1]
  simp
theorem good_zero {t : List Nat} (hs : sizeF (t.getD 0 0) ≠ 0) : goodR t 0 = Dc.no.may (t.getD 0 0) ∧ stR t 0 = Dc.no.next (t.getD 0 0) := by
  have h := begunF_of hs
  have e : stR t 0 = begunF (t.getD 0 0) := by rw [h.1]; rfl
  refine ⟨?_, e⟩
  rw [may_no hs, ← e]
  rfl

theorem take_succ_getD {t : List Nat} {k : Nat} (h : k < t.length) : t.take (k + 1) = t.take k ++ [t.getD k 0] := by
  rw [List.take_add_one, List.getElem?_eq_getElem h]
  simp [List.getD, h]
/-- so many good bytes are read -/
theorem run_good {t : List Nat} : ∀ {j : Nat}, j + 1 ≤ t.length → j + 1 ≤ sizeF (t.getD 0 0) → goodR t j = true → Dc.no.run (t.take (j + 1)) = if j + 1 = sizeF (t.getD 0 0) then (Dc.no, [lowN t j]) else (stR t j, [])
  | 0, hl, hn, h => by
    obtain ⟨h1, h2⟩ := good_zero (t := t) (by omega)
    rw [take_succ_getD (by omega)]
    show (((Dc.no.step (t.getD 0 0)).1), (Dc.no.step (t.getD 0 0)).2 ++ []) = _
    rw [no_step, List.append_nil]
    unfold step0
    rw [← h1, if_pos h, ← h2]
    show (if sizeF (t.getD 0 0) - 1 = 0 then (Dc.no, [lowN t 0]) else (stR t 0, [])) = _
    by_cases e : sizeF (t.getD 0 0) = 1
    · rw [if_pos (by omega), if_pos (by omega)]
    · rw [if_neg (by omega), if_neg (by omega)]
  | j + 1, hl, hn, h => by
    have hg := good_less hn h
    have ih := run_good (j := j) (by omega) (by omega) hg
    rw [if_neg (by omega)] at ih
    rw [take_succ_getD (by omega), Dc.run_append, ih]
    show ((((stR t j).step (t.getD (j + 1) 0)).1), ([] ++ (((stR t j).step (t.getD (j + 1) 0)).2 ++ []))) = _
    rw [List.append_nil, List.nil_append]
    unfold Dc.step
    rw [stR_may hg, if_pos h, stR_next]
    show (if sizeF (t.getD 0 0) - (j + 1 + 1) = 0 then (Dc.no, [lowN t (j + 1)]) else (stR t (j + 1), [])) = _
    by_cases e : sizeF (t.getD 0 0) = j + 1 + 1
    · rw [if_pos (by omega), if_pos (by omega)]
    · rw [if_neg (by omega), if_neg (by omega)]

theorem downF_cases (t : List Nat) (n : Nat) : ∀ m, (downF t n m = (1, false) ∧ ∀ j, j < m → goodR t j = false) ∨ ∃ j, j < m ∧ goodR t j = true ∧ downF t n m = (j + 1, decide (j + 1 = n)) ∧ ∀ i, j < i → i < m → goodR t i = false
  | 0 => Or.inl ⟨rfl, fun j hj => absurd hj (Nat.not_lt_zero _)⟩
  | m + 1 => by
    by_cases h : goodR t m = true
    · exact Or.inr ⟨m, Nat.lt_succ_self _, h, by rw [downF, if_pos h], fun i h1 h2 => by omega⟩
    · have hf : goodR t m = false := by simpa using h
      rcases downF_cases t n m with ⟨h1, h2⟩ | ⟨j, h1, h2, h3, h4⟩
      · refine Or.inl ⟨by rw [downF, if_neg h]; exact h1, fun j hj => ?_⟩
        by_cases e : j = m
        · subst e; exact hf
        · exact h2 j (by omega)
      · refine Or.inr ⟨j, by omega, h2, by rw [downF, if_neg h]; exact h3, fun i h5 h6 => ?_⟩
        by_cases e : i = m
        · subst e; exact hf
        · exact h4 i h5 (by omega)
theorem good_first {t : List Nat} (h : 2 ≤ sizeF (t.getD 0 0)) : goodR t 0 = true ↔ 194 ≤ t.getD 0 0 ∧ t.getD 0 0 ≤ 244 := by
  unfold goodR fineR stR
  show (true && _) = true ↔ _
  rw [Bool.true_and]
  show (Dc.mk (0 + 1) (sizeF (t.getD 0 0) - (0 + 1)) (baseF (t.getD 0 0))).begins = true ↔ _
  generalize t.getD 0 0 = b at *
  unfold baseF
  have e : sizeF b = 2 ∧ 192 ≤ b ∧ b < 224 ∨ sizeF b = 3 ∧ 224 ≤ b ∧ b < 240 ∨ sizeF b = 4 ∧ 240 ≤ b ∧ b < 248 := by have := sizeF_cases b; omega
  unfold Dc.begins
  simp only [decide_eq_true_eq]
  rcases e with ⟨e1, e2, e3⟩ | ⟨e1, e2, e3⟩ | ⟨e1, e2, e3⟩ <;> rw [e1]
  · show (_ ∨ topF 1 < (b - 192) * 64 + 63) ∧ (b - 192) * 64 ≤ topF 2 ∧ ((b - 192) * 64 < 55296 ∨ 57343 < (b - 192) * 64 + 63) ↔ _
    show ((0 + 1 + 1 = 1) ∨ 127 < (b - 192) * 64 + 63) ∧ (b - 192) * 64 ≤ 2047 ∧ ((b - 192) * 64 < 55296 ∨ 57343 < (b - 192) * 64 + 63) ↔ _
    omega
  · show ((0 + 1 + 2 = 1) ∨ 2047 < (b - 224) * 4096 + 4095) ∧ (b - 224) * 4096 ≤ 65535 ∧ ((b - 224) * 4096 < 55296 ∨ 57343 < (b - 224) * 4096 + 4095) ↔ _
    omega
  · show ((0 + 1 + 3 = 1) ∨ 65535 < (b - 240) * 262144 + 262143) ∧ (b - 240) * 262144 ≤ 1114111 ∧ ((b - 240) * 262144 < 55296 ∨ 57343 < (b - 240) * 262144 + 262143) ↔ _
    omega
theorem good_one {t : List Nat} (h : sizeF (t.getD 0 0) = 1) : goodR t 0 = true := by
  unfold goodR fineR stR
  rw [h]
  have hb : t.getD 0 0 < 128 := by have := sizeF_cases (t.getD 0 0); omega
  have hl : lowN t 0 = t.getD 0 0 := by show baseF _ = _; unfold baseF; rw [h]; rfl
  rw [hl]
  rw [Bool.true_and]
  unfold Dc.begins
  refine decide_eq_true ⟨Or.inl rfl, ?_, Or.inl ?_⟩
  · show t.getD 0 0 * 1 ≤ 127; omega
  · show t.getD 0 0 * 1 < 55296; omega

/-- what the decoder does where a state is not gone on -/
theorem run_not {d : Dc} {b : Nat} {bs : List Nat} (h0 : d.h ≠ 0) (hm : d.may b = false) : d.run (b :: bs) = ((Dc.no.run (b :: bs)).1, 65533 :: (Dc.no.run (b :: bs)).2) := by
  simp only [Dc.run]
  have e : d.step b = ((Dc.no.step b).1, 65533 :: (Dc.no.step b).2) := by
    rw [no_step]
    conv => lhs; unfold Dc.step
    rw [hm, if_neg h0]
    rfl
  rw [e]
  rfl
/-- one reading of the document, told by the decoder's steps -/
theorem read_run {t : List Nat} (ht : t ≠ []) (hb : ∀ x ∈ t, x < 256) :
    (∃ j, j < t.length ∧ readF t = (j + 1, true) ∧ Dc.no.run t = ((Dc.no.run (t.drop (j + 1))).1, lowN t j :: (Dc.no.run (t.drop (j + 1))).2) ∧ lowN t j < 1114112) ∨
    (∃ j, j < t.length ∧ readF t = (j + 1, false) ∧ j + 1 = t.length ∧ beginsF t = true ∧ (Dc.no.run t).2 = [] ∧ (Dc.no.run t).1.h = t.length) ∨
    (∃ j, j < t.length ∧ readF t = (j + 1, false) ∧ (j + 1 = t.length → beginsF t = false) ∧ Dc.no.run t = ((Dc.no.run (t.drop (j + 1))).1, 65533 :: (Dc.no.run (t.drop (j + 1))).2)) := by
  have hlen : 0 < t.length := List.length_pos_iff.2 ht
  have hd : ∀ k, k ≤ t.length → t = t.take k ++ t.drop k := fun k _ => (List.take_append_drop k t).symm
  have hcase := downF_cases t (sizeF (t.getD 0 0)) (min (sizeF (t.getD 0 0)) t.length)
  rcases hcase with ⟨h1, h2⟩ | ⟨j, hj, hg, h3, h4⟩
  · have hr : readF t = (1, false) := h1
    refine Or.inr (Or.inr ⟨0, hlen, hr, fun e => ?_, ?_⟩)
    · unfold beginsF
      by_cases hs : sizeF (t.getD 0 0) ≤ t.length
      · rw [decide_eq_true hs]; simp
      · have hs2 : 2 ≤ sizeF (t.getD 0 0) := by omega
        have hng := h2 0 (by omega)
        have : ¬ (194 ≤ t.getD 0 0 ∧ t.getD 0 0 ≤ 244) := fun h => by rw [(good_first hs2).2 h] at hng; cases hng
        have h1l : decide (1 < t.length) = false := by simp; omega
        rw [h1l]
        by_cases ha : 194 ≤ t.getD 0 0
        · rw [decide_eq_false (show ¬ t.getD 0 0 ≤ 244 by omega)]; simp
        · rw [decide_eq_false ha]; simp
    · have hm : Dc.no.may (t.getD 0 0) = false := by
        by_cases hs : sizeF (t.getD 0 0) = 0
        · exact may_none hs (hb _ (by cases t with | nil => exact absurd rfl ht | cons x t => exact List.mem_cons_self ..))
        · rw [← (good_zero hs).1]; exact h2 0 (by omega)
      cases t with
      | nil => exact absurd rfl ht
      | cons x t =>
        have e : Dc.no.step x = (Dc.no, [65533]) := by rw [no_step]; unfold step0; rw [show Dc.no.may x = false from hm]; rfl
        show ((((Dc.no.step x).1).run t).1, (Dc.no.step x).2 ++ (((Dc.no.step x).1).run t).2) = _
        rw [e]
        rfl
  · have hjn : j + 1 ≤ sizeF (t.getD 0 0) := by omega
    have hjl : j + 1 ≤ t.length := by omega
    have hrun := run_good hjl hjn hg
    by_cases hw : j + 1 = sizeF (t.getD 0 0)
    · left
      have hr : readF t = (j + 1, true) := by unfold readF; rw [h3, decide_eq_true hw]
      rw [if_pos hw] at hrun
      refine ⟨j, by omega, hr, ?_, ?_⟩
      · conv => lhs; rw [hd (j + 1) hjl]
        rw [Dc.run_append, hrun]
        rfl
      · have hp := Dc.run_pt no_ok (t.take (j + 1)) (lowN t j) (by rw [hrun]; exact List.mem_singleton.2 rfl)
        have := hp.2.1
        omega
    · right
      have hr : readF t = (j + 1, false) := by unfold readF; rw [h3, decide_eq_false hw]
      rw [if_neg hw] at hrun
      by_cases hl : j + 1 = t.length
      · left
        refine ⟨j, by omega, hr, hl, ?_, ?_, ?_⟩
        · unfold beginsF
          rw [hr]
          have e1 : decide (sizeF (t.getD 0 0) ≤ t.length) = false := decide_eq_false (by omega)
          rw [e1]
          have e2 : (j + 1 != t.length) = false := by simp [hl]
          simp only [e2, Bool.or_self, Bool.not_false, Bool.true_and]
          by_cases h1 : 1 < t.length
          · rw [decide_eq_true h1]; rfl
          · obtain rfl : j = 0 := by omega
            have h2s : 2 ≤ sizeF (t.getD 0 0) := Nat.lt_of_le_of_ne hjn hw
            have := (good_first (t := t) h2s).1 hg
            rw [decide_eq_true this.1, decide_eq_true this.2]
            simp
        · rw [hl, List.take_length] at hrun; rw [hrun]
        · rw [hl, List.take_length] at hrun; rw [hrun]; exact hl
      · right
        refine ⟨j, by omega, hr, fun e => absurd e hl, ?_⟩
        have hng : goodR t (j + 1) = false := h4 (j + 1) (by omega) (by omega)
        have hm : (stR t j).may (t.getD (j + 1) 0) = false := by rw [stR_may hg]; exact hng
        have hdr : t.drop (j + 1) = t.getD (j + 1) 0 :: t.drop (j + 1 + 1) := by
          rw [List.drop_eq_getElem_cons (show j + 1 < t.length by omega)]
          congr 1
          simp [List.getD, show j + 1 < t.length by omega]
        conv => lhs; rw [hd (j + 1) hjl]
        rw [Dc.run_append, hrun]
        show ((((stR t j)).run (t.drop (j + 1))).1, [] ++ ((stR t j).run (t.drop (j + 1))).2) = _
        rw [List.nil_append, hdr, run_not (d := stR t j) (by show j + 1 ≠ 0; omega) hm]

end Go.Proofs.YtijjifdgmffenaaDoor
