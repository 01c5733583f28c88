/-
  Plain: code points out of bytes: forms, a decoder's state, step by step.
-/
import Derived.Test.YtijjifdgmffenaaDoorChecked
namespace Go.Proofs.YtijjifdgmffenaaDoor

/-- a code point -/
def IsPt (c : Int) : Prop := 0 ≤ c ∧ c ≤ 1114111 ∧ (c < 55296 ∨ 57343 < c)
instance (c : Int) : Decidable (IsPt c) := by unfold IsPt; infer_instance
/-- the code point whose form is told -/
def ptF (c : Int) : Nat := if IsPt c then c.toNat else 65533
/-- a code point's form -/
def formF (n : Nat) : List Nat :=
  if n < 128 then [n] else if n < 2048 then [192 + n / 64, 128 + n % 64] else if n < 65536 then [224 + n / 4096, 128 + n / 64 % 64, 128 + n % 64]
  else [240 + n / 262144, 128 + n / 4096 % 64, 128 + n / 64 % 64, 128 + n % 64]
theorem ptF_pt (c : Int) : IsPt (ptF c : Int) := by
  unfold ptF
  split
  · rename_i h
    have := h.1
    rw [Int.toNat_of_nonneg this]
    exact h
  · decide
theorem ptF_lt (c : Int) : ptF c < 1114112 := by have := (ptF_pt c).2.1; omega
theorem ptF_id {n : Nat} (h : IsPt (n : Int)) : ptF (n : Int) = n := by unfold ptF; rw [if_pos h]; rfl
theorem ptF_bad {c : Int} (h : ¬ IsPt c) : ptF c = 65533 := by unfold ptF; rw [if_neg h]

/-- a decoder: how many bytes it holds, how many are lacking, what they tell of the code point -/
structure Dc where
  h : Nat
  l : Nat
  v : Nat
deriving DecidableEq
def Dc.no : Dc := ⟨0, 0, 0⟩
def topF (n : Nat) : Nat := if n = 0 then 0 else if n = 1 then 127 else if n = 2 then 2047 else if n = 3 then 65535 else 1114111
/-- a byte alone -/
def begunF (b : Nat) : Dc := if b < 128 then ⟨1, 0, b⟩ else if b < 224 then ⟨1, 1, b % 64⟩ else if b < 240 then ⟨1, 2, b % 32⟩ else ⟨1, 3, b % 16⟩
/-- how many the open bytes are -/
def openF (l : Nat) : Nat := if l = 0 then 1 else if l = 1 then 64 else if l = 2 then 4096 else 262144
/-- begins a form, or is one: the least form's number is 0, not -1, of size 1 -/
def Dc.begins (d : Dc) : Bool :=
  decide ((d.h + d.l = 1 ∨ topF (d.h + d.l - 1) < d.v * openF d.l + (openF d.l - 1)) ∧ d.v * openF d.l ≤ topF (d.h + d.l) ∧ (d.v * openF d.l < 55296 ∨ 57343 < d.v * openF d.l + (openF d.l - 1)))
def isPartF (b : Nat) : Bool := decide (128 ≤ b ∧ b < 192)
/-- a byte more -/
def Dc.next (d : Dc) (b : Nat) : Dc := if d.h = 0 then begunF b else ⟨d.h + 1, d.l - 1, d.v * 64 + b % 64⟩
def Dc.may (d : Dc) (b : Nat) : Bool := (isPartF b == decide (0 < d.h)) && (d.next b).begins
/-- where nothing is held -/
def step0 (b : Nat) : Dc × List Nat := if Dc.no.may b then (if (Dc.no.next b).l = 0 then (Dc.no, [(Dc.no.next b).v]) else (Dc.no.next b, [])) else (Dc.no, [65533])
def Dc.step (d : Dc) (b : Nat) : Dc × List Nat :=
  if d.may b then (if (d.next b).l = 0 then (Dc.no, [(d.next b).v]) else (d.next b, [])) else if d.h = 0 then (Dc.no, [65533]) else ((step0 b).1, 65533 :: (step0 b).2)
def Dc.run (d : Dc) : List Nat → Dc × List Nat
  | [] => (d, [])
  | b :: bs => (((d.step b).1.run bs).1, (d.step b).2 ++ ((d.step b).1.run bs).2)
/-- what is left at the end -/
def Dc.end (d : Dc) : List Nat := if d.h = 0 then [] else [65533]
/-- all code points of bytes -/
def utfF (bs : List Nat) : List Nat := (Dc.no.run bs).2 ++ (Dc.no.run bs).1.end

/-- what a decoder may be -/
def Dc.ok (d : Dc) : Prop := d = Dc.no ∨ 1 ≤ d.h ∧ 1 ≤ d.l ∧ d.h + d.l ≤ 4 ∧ d.begins = true
theorem no_ok : Dc.no.ok := Or.inl rfl
theorem Dc.run_append (d : Dc) (a b : List Nat) : d.run (a ++ b) = (((d.run a).1.run b).1, (d.run a).2 ++ ((d.run a).1.run b).2) := by
  induction a generalizing d with
  | nil => rfl
  | cons x a ih => simp only [List.cons_append, Dc.run, ih, List.append_assoc]
theorem begunF_size (b : Nat) : (begunF b).h = 1 ∧ (begunF b).l ≤ 3 := by
  unfold begunF
  split
  · exact ⟨rfl, Nat.zero_le _⟩
  · split
    · exact ⟨rfl, Nat.le_add_left _ _⟩
    · split
      · exact ⟨rfl, Nat.le_add_left _ _⟩
      · exact ⟨rfl, Nat.le_refl _⟩
theorem Dc.next_ok {d : Dc} (h : d.ok) {b : Nat} (hm : d.may b = true) (hl : (d.next b).l ≠ 0) : (d.next b).ok := by
  right
  unfold Dc.may at hm
  simp only [Bool.and_eq_true] at hm
  have hb := hm.2
  refine ⟨?_, by omega, ?_, hb⟩
  · unfold Dc.next; split
    · have := (begunF_size b).1; omega
    · simp
  · unfold Dc.next at hl ⊢
    split
    · have := begunF_size b; omega
    · rename_i h0
      rcases h with rfl | ⟨h1, h2, h3, _⟩
      · exact absurd rfl h0
      · simp only [if_neg h0] at hl
        show d.h + 1 + (d.l - 1) ≤ 4
        omega
theorem step0_ok (b : Nat) : (step0 b).1.ok := by
  unfold step0
  split
  · split
    · exact no_ok
    · rename_i h1 h2
      exact Dc.next_ok no_ok h1 h2
  · exact no_ok
theorem Dc.step_ok {d : Dc} (h : d.ok) (b : Nat) : (d.step b).1.ok := by
  unfold Dc.step
  split
  · split
    · exact no_ok
    · rename_i h1 h2
      exact Dc.next_ok h h1 h2
  · split
    · exact no_ok
    · exact step0_ok b
theorem Dc.run_ok {d : Dc} (h : d.ok) (bs : List Nat) : (d.run bs).1.ok := by
  induction bs generalizing d with
  | nil => exact h
  | cons b bs ih => exact ih (Dc.step_ok h b)

theorem topF_le (n : Nat) : topF n ≤ 1114111 := by
  unfold topF
  split
  · omega
  · split
    · omega
    · split
      · omega
      · split
        · omega
        · omega
/-- every number that is told is a code point -/
theorem next_pt {d : Dc} (h : d.ok) {b : Nat} (hm : d.may b = true) (hl : (d.next b).l = 0) : IsPt ((d.next b).v : Int) := by
  have hs : 1 ≤ (d.next b).h ∧ (d.next b).h ≤ 4 := by
    unfold Dc.next at hl ⊢
    split
    · have := begunF_size b; omega
    · rename_i h0
      rcases h with rfl | ⟨h1, h2, h3, _⟩
      · exact absurd rfl h0
      · show 1 ≤ d.h + 1 ∧ d.h + 1 ≤ 4
        omega
  unfold Dc.may at hm
  simp only [Bool.and_eq_true] at hm
  have hb := hm.2
  generalize d.next b = e at *
  obtain ⟨eh, el, ev⟩ := e
  simp only at hl hs
  subst hl
  unfold Dc.begins at hb
  simp only [decide_eq_true_eq] at hb
  unfold IsPt
  have e1 : openF 0 = 1 := rfl
  rw [e1] at hb
  have h4 := topF_le (eh + 0)
  show 0 ≤ (ev : Int) ∧ (ev : Int) ≤ 1114111 ∧ ((ev : Int) < 55296 ∨ 57343 < (ev : Int))
  omega
theorem step0_pt (b : Nat) : ∀ x ∈ (step0 b).2, IsPt (x : Int) := by
  intro x hx
  unfold step0 at hx
  split at hx
  · split at hx
    · rename_i h1 h2
      rw [List.mem_singleton] at hx
      subst hx
      exact next_pt no_ok h1 h2
    · cases hx
  · rw [List.mem_singleton] at hx
    subst hx
    decide
theorem Dc.step_pt {d : Dc} (h : d.ok) (b : Nat) : ∀ x ∈ (d.step b).2, IsPt (x : Int) := by
  intro x hx
  unfold Dc.step at hx
  split at hx
  · split at hx
    · rename_i h1 h2
      rw [List.mem_singleton] at hx
      subst hx
      exact next_pt h h1 h2
    · cases hx
  · split at hx
    · rw [List.mem_singleton] at hx
      subst hx
      decide
    · rcases List.mem_cons.1 hx with e | e
      · subst e; decide
      · exact step0_pt b x e
theorem Dc.run_pt {d : Dc} (h : d.ok) (bs : List Nat) : ∀ x ∈ (d.run bs).2, IsPt (x : Int) := by
  induction bs generalizing d with
  | nil => intro x hx; cases hx
  | cons b bs ih =>
    intro x hx
    rcases List.mem_append.1 hx with e | e
    · exact Dc.step_pt h b x e
    · exact ih (Dc.step_ok h b) x e
theorem utfF_pt (bs : List Nat) : ∀ x ∈ utfF bs, IsPt (x : Int) := by
  intro x hx
  rcases List.mem_append.1 hx with e | e
  · exact Dc.run_pt no_ok bs x e
  · unfold Dc.end at e
    split at e
    · cases e
    · rw [List.mem_singleton] at e; subst e; decide

/-- how many are told -/
theorem step0_len (b : Nat) : (step0 b).2.length + (step0 b).1.h ≤ 1 ∧ 1 ≤ 4 * (step0 b).2.length + (step0 b).1.h := by
  unfold step0
  split
  · split
    · exact ⟨Nat.le_refl _, by show 1 ≤ 4 * 1 + 0; omega⟩
    · show 0 + (Dc.no.next b).h ≤ 1 ∧ 1 ≤ 4 * 0 + (Dc.no.next b).h
      have : (Dc.no.next b).h = 1 := (begunF_size b).1
      omega
  · exact ⟨Nat.le_refl _, by show 1 ≤ 4 * 1 + 0; omega⟩
theorem Dc.ok_le {d : Dc} (h : d.ok) : d.h ≤ 3 := by
  rcases h with rfl | ⟨a1, a2, a3, _⟩
  · exact Nat.zero_le _
  · omega
def Dc.one (d : Dc) : Nat := if d.h = 0 then 0 else 1
theorem Dc.one_le (d : Dc) : d.one ≤ d.h := by unfold Dc.one; split <;> omega
theorem Dc.step_len {d : Dc} (h : d.ok) (b : Nat) : (d.step b).2.length + (d.step b).1.one ≤ d.one + 1 ∧ d.h + 1 ≤ 4 * (d.step b).2.length + (d.step b).1.h := by
  unfold Dc.step
  split
  · split
    · rename_i h1 h2
      refine ⟨by show 1 + 0 ≤ _; omega, ?_⟩
      show d.h + 1 ≤ 4 * 1 + 0
      rcases h with rfl | ⟨a1, a2, a3, _⟩
      · decide
      · omega
    · rename_i h1 h2
      have hn : (d.next b).h = d.h + 1 := by
        unfold Dc.next; split
        · rename_i h0; rw [(begunF_size b).1, h0]
        · rfl
      refine ⟨?_, by show d.h + 1 ≤ 4 * 0 + (d.next b).h; omega⟩
      show 0 + (d.next b).one ≤ d.one + 1
      have : (d.next b).one ≤ 1 := by unfold Dc.one; split <;> omega
      omega
  · split
    · rename_i h0
      exact ⟨by show 1 + 0 ≤ _; omega, by show d.h + 1 ≤ 4 * 1 + 0; omega⟩
    · rename_i h0
      have h1 := step0_len b
      have h2 := (step0 b).1.one_le
      have h3 : d.one = 1 := by unfold Dc.one; rw [if_neg h0]
      have h4 := Dc.ok_le h
      exact ⟨by show (step0 b).2.length + 1 + (step0 b).1.one ≤ _; omega, by show d.h + 1 ≤ 4 * ((step0 b).2.length + 1) + (step0 b).1.h; omega⟩
theorem Dc.run_len {d : Dc} (h : d.ok) (bs : List Nat) : (d.run bs).2.length + (d.run bs).1.one ≤ d.one + bs.length ∧ d.h + bs.length ≤ 4 * (d.run bs).2.length + (d.run bs).1.h := by
  induction bs generalizing d with
  | nil => exact ⟨by show 0 + d.one ≤ _; omega, by show d.h + 0 ≤ 4 * 0 + d.h; omega⟩
  | cons b bs ih =>
    have h1 := Dc.step_len h b
    have h2 := ih (Dc.step_ok h b)
    simp only [Dc.run, List.length_append, List.length_cons]
    omega
theorem utfF_len (bs : List Nat) : (utfF bs).length ≤ bs.length ∧ bs.length ≤ 4 * (utfF bs).length := by
  have h1 := Dc.run_len no_ok bs
  have h2 := Dc.ok_le (Dc.run_ok no_ok bs)
  unfold utfF
  rw [List.length_append]
  have e0 : Dc.no.one = 0 := rfl
  have e1 : Dc.no.h = 0 := rfl
  rw [e0, e1] at h1
  unfold Dc.one at h1
  unfold Dc.end
  split <;> simp_all <;> omega

end Go.Proofs.YtijjifdgmffenaaDoor
