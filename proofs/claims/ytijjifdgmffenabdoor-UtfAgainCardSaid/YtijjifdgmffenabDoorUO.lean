/-
  Plain: a code point's form, byte by byte; forms one behind the other.
-/
import Derived.Test.YtijjifdgmffenabDoorUB
namespace Go.Proofs.YtijjifdgmffenabDoor

theorem form_facts (n : Nat) (hn : IsPt (n : Int)) : (formF n).length = sizeF ((formF n).getD 0 0) ∧ 1 ≤ (formF n).length ∧ (formF n).length ≤ 4 ∧ goodR (formF n) ((formF n).length - 1) = true ∧ lowN (formF n) ((formF n).length - 1) = n := by
  obtain ⟨_, h1, h2⟩ := hn
  have key : ∀ (t : List Nat) (s : Nat), sizeF (t.getD 0 0) = s + 1 → fineR t s = true → lowN t s = n → (s = 0 ∨ topF s < n) → n ≤ topF (s + 1) → goodR t s = true := by
    intro t s e0 e1 e2 e3 e4
    unfold goodR
    rw [e1, Bool.true_and]
    unfold stR Dc.begins
    simp only [decide_eq_true_eq]
    rw [e0, e2, Nat.sub_self]
    have eo : openF 0 = 1 := rfl
    rw [eo]
    refine ⟨?_, by rw [Nat.mul_one]; exact e4, by omega⟩
    rcases e3 with e3 | e3
    · left; omega
    · right; show topF (s + 1 + 0 - 1) < _; rw [show s + 1 + 0 - 1 = s from by omega]; omega
  unfold formF
  by_cases c1 : n < 128
  · rw [if_pos c1]
    have e0 : sizeF n = 1 := by unfold sizeF; rw [if_pos c1]
    have el : lowN [n] 0 = n := by show baseF n = n; unfold baseF; rw [e0]; rfl
    exact ⟨e0.symm, by simp, by simp, key [n] 0 e0 rfl el (Or.inl rfl) (by show n ≤ 127; omega), el⟩
  · rw [if_neg c1]
    by_cases c2 : n < 2048
    · rw [if_pos c2]
      have e0 : sizeF (192 + n / 64) = 2 := by unfold sizeF; rw [if_neg (by omega), if_pos (by omega)]
      have ef : fineR [192 + n / 64, 128 + n % 64] 1 = true := by
        show (true && isPartF (128 + n % 64)) = true
        unfold isPartF
        simp only [Bool.true_and, decide_eq_true_eq]; omega
      have el : lowN [192 + n / 64, 128 + n % 64] 1 = n := by
        show baseF (192 + n / 64) * 64 + (128 + n % 64) % 64 = n
        unfold baseF; rw [e0, if_pos rfl]; omega
      exact ⟨e0.symm, by simp, by simp, key _ 1 e0 ef el (Or.inr (by show 127 < n; omega)) (by show n ≤ 2047; omega), el⟩
    · rw [if_neg c2]
      by_cases c3 : n < 65536
      · rw [if_pos c3]
        have e0 : sizeF (224 + n / 4096) = 3 := by unfold sizeF; rw [if_neg (by omega), if_neg (by omega), if_pos (by omega)]
        have ef : fineR [224 + n / 4096, 128 + n / 64 % 64, 128 + n % 64] 2 = true := by
          show ((true && isPartF (128 + n / 64 % 64)) && isPartF (128 + n % 64)) = true
          unfold isPartF
          simp only [Bool.true_and, Bool.and_eq_true, decide_eq_true_eq]; omega
        have el : lowN [224 + n / 4096, 128 + n / 64 % 64, 128 + n % 64] 2 = n := by
          show (baseF (224 + n / 4096) * 64 + (128 + n / 64 % 64) % 64) * 64 + (128 + n % 64) % 64 = n
          unfold baseF; rw [e0, if_neg (by decide), if_pos rfl]; omega
        exact ⟨e0.symm, by simp, by simp, key _ 2 e0 ef el (Or.inr (by show 2047 < n; omega)) (by show n ≤ 65535; omega), el⟩
      · rw [if_neg c3]
        have e0 : sizeF (240 + n / 262144) = 4 := by unfold sizeF; rw [if_neg (by omega), if_neg (by omega), if_neg (by omega), if_pos (by omega)]
        have ef : fineR [240 + n / 262144, 128 + n / 4096 % 64, 128 + n / 64 % 64, 128 + n % 64] 3 = true := by
          show (((true && isPartF (128 + n / 4096 % 64)) && isPartF (128 + n / 64 % 64)) && isPartF (128 + n % 64)) = true
          unfold isPartF
          simp only [Bool.true_and, Bool.and_eq_true, decide_eq_true_eq]; omega
        have el : lowN [240 + n / 262144, 128 + n / 4096 % 64, 128 + n / 64 % 64, 128 + n % 64] 3 = n := by
          show ((baseF (240 + n / 262144) * 64 + (128 + n / 4096 % 64) % 64) * 64 + (128 + n / 64 % 64) % 64) * 64 + (128 + n % 64) % 64 = n
          unfold baseF; rw [e0, if_neg (by decide), if_neg (by decide), if_pos rfl]; omega
        exact ⟨e0.symm, by simp, by simp, key _ 3 e0 ef el (Or.inr (by show 65535 < n; omega)) (by show n ≤ 1114111; omega), el⟩

theorem good_upto {t : List Nat} (hs : t.length = sizeF (t.getD 0 0)) : ∀ (k : Nat), k + 1 ≤ t.length → goodR t (t.length - 1) = true → goodR t (t.length - 1 - k) = true := by
  intro k
  induction k with
  | zero => intro _ h; exact h
  | succ k ih =>
    intro hk h
    have h1 := ih (by omega) h
    rw [show t.length - 1 - k = (t.length - 1 - (k + 1)) + 1 from by omega] at h1
    exact good_less (by omega) h1
/-- so many bytes of a form -/
theorem form_run (n : Nat) (hn : IsPt (n : Int)) (k : Nat) (hk : k + 1 ≤ (formF n).length) : (k + 1 < (formF n).length → (Dc.no.run ((formF n).take (k + 1))).2 = [] ∧ (Dc.no.run ((formF n).take (k + 1))).1.h = k + 1) ∧ (k + 1 = (formF n).length → Dc.no.run (formF n) = (Dc.no, [n])) := by
  obtain ⟨f1, f2, f3, f4, f5⟩ := form_facts n hn
  have hg := good_upto f1 ((formF n).length - 1 - k) (by omega) f4
  rw [show (formF n).length - 1 - ((formF n).length - 1 - k) = k from by omega] at hg
  have hr := run_good hk (by omega) hg
  constructor
  · intro h
    rw [hr, if_neg (by omega)]
    exact ⟨rfl, rfl⟩
  · intro h
    rw [if_pos (by omega), h, List.take_length] at hr
    rw [hr]
    have e : k = (formF n).length - 1 := by omega
    rw [e, f5]
theorem form_whole (n : Nat) (hn : IsPt (n : Int)) : Dc.no.run (formF n) = (Dc.no, [n]) := by
  have f := form_facts n hn
  exact (form_run n hn ((formF n).length - 1) (by omega)).2 (by omega)
/-- the decoder behind so many bytes of a form -/
def dcAt (n k : Nat) : Dc := (Dc.no.run ((formF n).take k)).1
theorem dcAt_zero (n : Nat) : dcAt n 0 = Dc.no := rfl
theorem dcAt_ok (n k : Nat) : (dcAt n k).ok := Dc.run_ok no_ok _
theorem at_told (n : Nat) (hn : IsPt (n : Int)) (k : Nat) (hk : k + 1 ≤ (formF n).length) : (Dc.no.run ((formF n).take k)).2 = [] ∧ (dcAt n k).h = k := by
  cases k with
  | zero => exact ⟨rfl, rfl⟩
  | succ k => exact (form_run n hn k (by omega)).1 (by omega)
theorem dcAt_step (n : Nat) (hn : IsPt (n : Int)) (k : Nat) (hk : k + 2 ≤ (formF n).length) : (dcAt n k).run (((formF n).drop k).take 1) = (dcAt n (k + 1), []) := by
  have h1 := at_told n hn k (by omega)
  have h2 := at_told n hn (k + 1) (by omega)
  have e : (formF n).take (k + 1) = (formF n).take k ++ ((formF n).drop k).take 1 := by rw [List.take_add]
  have h3 : (Dc.no.run ((formF n).take k ++ ((formF n).drop k).take 1)).2 = [] := by rw [← e]; exact h2.1
  rw [Dc.run_append] at h3
  simp only at h3
  have h4 := (List.append_eq_nil_iff.1 h3).2
  refine Prod.ext ?_ h4
  unfold dcAt
  rw [e, Dc.run_append]
theorem dcAt_last (n : Nat) (hn : IsPt (n : Int)) : (dcAt n ((formF n).length - 1)).run ((formF n).drop ((formF n).length - 1)) = (Dc.no, [n]) := by
  have f := form_facts n hn
  have h1 := at_told n hn ((formF n).length - 1) (by omega)
  have h2 := form_whole n hn
  rw [← List.take_append_drop ((formF n).length - 1) (formF n), Dc.run_append] at h2
  rw [h1.1, List.nil_append] at h2
  exact h2
/-- forms, one behind the other -/
def formsF (ns : List Nat) : List Nat := (ns.map formF).flatten
theorem formsF_append (a b : List Nat) : formsF (a ++ b) = formsF a ++ formsF b := by simp [formsF]
theorem formsF_one (n : Nat) : formsF [n] = formF n := by simp [formsF]
theorem forms_run (ns : List Nat) (h : ∀ x ∈ ns, IsPt (x : Int)) : Dc.no.run (formsF ns) = (Dc.no, ns) := by
  induction ns with
  | nil => rfl
  | cons n ns ih =>
    have e : formsF (n :: ns) = formF n ++ formsF ns := by simp [formsF]
    rw [e, Dc.run_append, form_whole n (h n (List.mem_cons_self ..))]
    simp only
    rw [ih fun x hx => h x (List.mem_cons_of_mem _ hx)]
    rfl
theorem forms_utf (ns : List Nat) (h : ∀ x ∈ ns, IsPt (x : Int)) : utfF (formsF ns) = ns := by
  unfold utfF
  rw [forms_run ns h]
  show ns ++ [] = ns
  rw [List.append_nil]
theorem formsF_length (ns : List Nat) (h : ∀ x ∈ ns, IsPt (x : Int)) : (formsF ns).length ≤ 4 * ns.length := by
  induction ns with
  | nil => exact Nat.le_refl _
  | cons n ns ih =>
    have e : formsF (n :: ns) = formF n ++ formsF ns := by simp [formsF]
    have f := form_facts n (h n (List.mem_cons_self ..))
    have i := ih fun x hx => h x (List.mem_cons_of_mem _ hx)
    rw [e, List.length_append, List.length_cons]
    omega
end Go.Proofs.YtijjifdgmffenabDoor
