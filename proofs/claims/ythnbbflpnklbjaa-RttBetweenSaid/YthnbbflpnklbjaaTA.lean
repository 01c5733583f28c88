/-
  Plain: numbers brought into bounds, meters, what they are behind samples.
-/
import Derived.Test.YthnbbflpnklbjaaBE
namespace Go.Proofs.Ythnbbflpnklbjaa
open Go.RowKit

/-- a number brought into bounds -/
def clF (lo hi n : Int) : Int := if hi < (if lo > n then lo else n) then hi else (if lo > n then lo else n)
theorem clF_in {lo hi n : Int} (h1 : lo ≤ n) (h2 : n ≤ hi) : clF lo hi n = n := by unfold clF; rw [if_neg (by omega : ¬ lo > n), if_neg (by omega)]
theorem clF_lo {lo hi n : Int} (h1 : n ≤ lo) (h2 : lo ≤ hi) : clF lo hi n = lo := by
  unfold clF
  by_cases h : lo > n
  · rw [if_pos h, if_neg (by omega)]
  · rw [if_neg h, if_neg (by omega)]; omega
theorem clF_hi {lo hi n : Int} (h1 : lo ≤ hi) (h2 : hi ≤ n) : clF lo hi n = hi := by
  unfold clF
  rw [if_neg (by omega : ¬ lo > n)]
  by_cases h : hi < n
  · rw [if_pos h]
  · rw [if_neg h]; omega
theorem clF_eq {lo hi n : Int} (h : lo ≤ hi) : clF lo hi n = n ↔ lo ≤ n ∧ n ≤ hi := by
  constructor
  · intro e
    unfold clF at e
    repeat' split at e
    all_goals omega
  · exact fun ⟨h1, h2⟩ => clF_in h1 h2

/-- a meter -/
structure Me where
  a : Int
  b : Int
  c : Int
def Me.none : Me := ⟨0, 0, 0⟩
abbrev Me.may (m : Me) : Prop := 0 ≤ m.a ∧ m.a ≤ 1073741824 ∧ 0 ≤ m.b ∧ m.b ≤ 480007 ∧ 0 ≤ m.c ∧ m.c ≤ 480007 ∧ (m.a = 0 → m.b = 0 ∧ m.c = 0)
/-- each number brought into its bounds -/
def Me.brought (m : Me) : Me := ⟨clF 0 1073741824 m.a, clF 0 480007 m.b, clF 0 480007 m.c⟩
theorem Me.brought_eq (m : Me) : m.brought = m ↔ 0 ≤ m.a ∧ m.a ≤ 1073741824 ∧ 0 ≤ m.b ∧ m.b ≤ 480007 ∧ 0 ≤ m.c ∧ m.c ≤ 480007 := by
  obtain ⟨a, b, c⟩ := m
  simp only [Me.brought, Me.mk.injEq]
  rw [clF_eq (by omega), clF_eq (by omega), clF_eq (by omega)]
  omega

abbrev Samp (s : Int) : Prop := 0 ≤ s ∧ s ≤ 60000

/-- how far off -/
def absF (d : Int) : Int := if -d > d then -d else d
/-- a meter behind one sample more -/
def Me.one (m : Me) (s : Int) : Me :=
  if m.a = 0 then ⟨1, 8 * s, 2 * s⟩
  else ⟨if m.a < 1073741824 then m.a + 1 else m.a, m.b + (s - m.b / 8), if 480007 < m.c - m.c / 4 + absF (s - m.b / 8) then 480007 else m.c - m.c / 4 + absF (s - m.b / 8)⟩

theorem Me.one_zero {m : Me} (h : m.a = 0) (s : Int) : m.one s = ⟨1, 8 * s, 2 * s⟩ := if_pos h
theorem Me.may_none {m : Me} (h : m.may) (h0 : m.a = 0) : m = Me.none := by
  obtain ⟨a, b, c⟩ := m
  obtain ⟨_, _, _, _, _, _, h7⟩ := h
  simp only at h0 h7
  obtain ⟨rfl, rfl⟩ := h7 h0
  subst h0
  rfl
/-- the program's way to it -/
theorem Me.one_brought {m : Me} {s : Int} (h : m.may) (hs : Samp s) (h0 : m.a ≠ 0) : (Me.mk (m.a + 1) (m.b + (s - m.b / 8)) (m.c - m.c / 4 + absF (s - m.b / 8))).brought = m.one s := by
  obtain ⟨h1, h2, h3, h4, h5, h6, _⟩ := h
  obtain ⟨s1, s2⟩ := hs
  unfold Me.one Me.brought
  rw [if_neg h0]
  simp only
  have hd : 0 ≤ absF (s - m.b / 8) := by unfold absF; split <;> omega
  congr 1
  · by_cases h : m.a < 1073741824
    · rw [if_pos h, clF_in (by omega) (by omega)]
    · rw [if_neg h, clF_hi (by omega) (by omega)]; omega
  · exact clF_in (by omega) (by omega)
  · by_cases h : 480007 < m.c - m.c / 4 + absF (s - m.b / 8)
    · rw [if_pos h, clF_hi (by omega) (by omega)]
    · rw [if_neg h, clF_in (by omega) (by omega)]
theorem Me.may_one {m : Me} {s : Int} (h : m.may) (hs : Samp s) : (m.one s).may ∧ 0 < (m.one s).a := by
  by_cases h0 : m.a = 0
  · rw [Me.one_zero h0]
    obtain ⟨s1, s2⟩ := hs
    refine ⟨⟨?_, ?_, ?_, ?_, ?_, ?_, ?_⟩, ?_⟩ <;> simp only <;> omega
  · have hb := Me.one_brought h hs h0
    have h' := h
    obtain ⟨h1, h2, h3, h4, h5, h6, _⟩ := h'
    have ha : 0 < (m.one s).a := by
      unfold Me.one
      rw [if_neg h0]
      simp only
      split <;> omega
    have hbb : (m.one s).brought = m.one s := by
      rw [← hb]
      have hcl : ∀ {lo hi n : Int}, lo ≤ hi → clF lo hi (clF lo hi n) = clF lo hi n := fun {lo hi n} hlh => clF_in (by unfold clF; repeat' split <;> omega) (by unfold clF; repeat' split <;> omega)
      simp only [Me.brought, Me.mk.injEq]
      exact ⟨hcl (by omega), hcl (by omega), hcl (by omega)⟩
    have := (Me.brought_eq _).1 hbb
    exact ⟨⟨this.1, this.2.1, this.2.2.1, this.2.2.2.1, this.2.2.2.2.1, this.2.2.2.2.2, fun e => by omega⟩, ha⟩

/-- a meter behind samples -/
def Me.all (m : Me) (l : List Int) : Me := l.foldl Me.one m
theorem Me.all_append (m : Me) (x y : List Int) : m.all (x ++ y) = (m.all x).all y := List.foldl_append
theorem Me.may_all : ∀ (l : List Int) {m : Me}, m.may → (∀ s ∈ l, Samp s) → (m.all l).may
  | [], _, h, _ => h
  | s :: l, _, h, hl => Me.may_all l (Me.may_one h (hl s (List.mem_cons_self ..))).1 fun x hx => hl x (List.mem_cons_of_mem _ hx)

theorem Me.all_take (m : Me) (l : List Int) (k : Nat) (h : k < l.length) : m.all (l.take (k + 1)) = (m.all (l.take k)).one (l.getD k 0) := by
  rw [List.take_add_one, Me.all_append]
  simp [Me.all, List.getD, h]

/-- what Hear tells -/
def hearM (m : Me) (l : List Int) : Me := if m.may ∧ ∀ s ∈ l, Samp s then m.all l else Me.none
def hearE (m : Me) (l : List Int) : Int := if m.may ∧ ∀ s ∈ l, Samp s then 0 else 2

def meanF (m : Me) : Int := if m.may then m.b / 8 else 0
def waitF (m : Me) : Int := if m.may ∧ m.a ≠ 0 then clF 50 1000 (m.b / 8 + m.c) else 1000

/-- a meter as it lies in memory -/
abbrev meC (m : Me) : List Value := [.int .i64 m.a, .int .i64 m.b, .int .i64 m.c]
abbrev meV (m : Me) : Value := .agg #[.int .i64 m.a, .int .i64 m.b, .int .i64 m.c]

end Go.Proofs.Ythnbbflpnklbjaa
