/-
  Plain facts on a key's columns, with nothing of the program in them; the reference's rounds are the program's.
-/
import Derived.Test.YtflakgigekfgcaaRC
import Derived.Test.YtflakgigekfgcaaEQ
namespace Go.Proofs.Ytflakgigekfgcaa
open Go.RowKit

theorem list_ext {a b : List Nat} (hl : a.length = b.length) (h : ∀ i, i < a.length → a.getD i 0 = b.getD i 0) : a = b := by
  apply List.ext_getElem hl
  intro i h1 h2
  have := h i h1
  simpa [List.getD, h1, h2] using this
theorem part_at (T : List Nat) (n i j : Nat) (h : T.length = n) (hi : i ≤ n) (_hj : j < n) : (part T n i).getD j 0 = if j < i then T.getD j 0 else 0 := by
  by_cases hji : j < i
  · rw [if_pos hji]; exact part_get' T n i j h hji hi
  · rw [if_neg hji]
    simp only [part, List.getD, List.getElem?_append, List.length_take, h]
    rw [if_neg (by omega), List.getElem?_replicate]
    split <;> rfl
theorem set_is (l : List Nat) (i j x : Nat) (hi : i < l.length) : (l.set i x).getD j 0 = if i = j then x else l.getD j 0 := by
  by_cases e : i = j
  · subst e; rw [if_pos rfl]; exact set_at l i x hi
  · rw [if_neg e]; exact set_ne l i j x e

/-- the rounds' bytes, one behind the other -/
def tF (s key : List Nat) : List Nat := flF (rdF s key) 11
theorem tF_length {s key : List Nat} (h : key.length = 16) : (tF s key).length = 176 := flF_length (rdF_length h) 11
theorem tF_at {s key : List Nat} (h : key.length = 16) {j t : Nat} (hj : j < 11) (ht : t < 16) : (tF s key).getD (16 * j + t) 0 = (rdF s key j).getD t 0 := by
  have := flF_row (rdF_length (s := s) h) j t ht 11 hj
  simp only [List.getD, tF, this]
theorem tF_lt {s key : List Nat} (hs : ∀ i, s.getD i 0 < 256) (hk : Blk key) (j : Nat) : (tF s key).getD j 0 < 256 := by
  by_cases h : j < 176
  · have := tF_at (s := s) hk.len (show j / 16 < 11 by omega) (show j % 16 < 16 by omega)
    rw [show 16 * (j / 16) + j % 16 = j by omega] at this
    rw [this]
    exact rdF_lt hs hk.lt _ _
  · rw [List.getD, List.getElem?_eq_none (by rw [tF_length hk.len]; omega)]
    show (0 : Nat) < 256
    omega

/-- the first byte of a round's first column, ahead of what is added to it -/
def uF (s key : List Nat) (i : Nat) : Nat := (tF s key).getD ((i - 4) * 4) 0 ^^^ s.getD ((tF s key).getD ((i - 1) * 4 + 1) 0) 0
def wF (s key : List Nat) (i : Nat) : List Nat := if 4 ≤ i ∧ i % 4 = 0 ∧ i < 44 then (tF s key).set (i * 4) (uF s key i) else tF s key
def pF (i : Nat) : Nat := rcF ((i + 3) / 4 - 1)

theorem wF_else {s key : List Nat} {i : Nat} (h : ¬ (4 ≤ i ∧ i % 4 = 0 ∧ i < 44)) : wF s key i = tF s key := by rw [wF, if_neg h]
theorem wF_then {s key : List Nat} {i : Nat} (h : 4 ≤ i ∧ i % 4 = 0 ∧ i < 44) : wF s key i = (tF s key).set (i * 4) (uF s key i) := by rw [wF, if_pos h]

theorem col_at (s b : List Nat) (p k : Nat) (hk : k < 4) : (colF s b p).getD k 0 = if k = 0 then s.getD (b.getD 13 0) 0 ^^^ p else s.getD (b.getD (12 + (k + 1) % 4) 0) 0 := by
  rcases (show k = 0 ∨ k = 1 ∨ k = 2 ∨ k = 3 by omega) with rfl | rfl | rfl | rfl <;> rfl

/-- a byte of a first column -/
theorem tF_first {s key : List Nat} (hl : key.length = 16) {r k : Nat} (h1 : 1 ≤ r) (hr : r < 11) (hk : k < 4) :
    (tF s key).getD (16 * r + k) 0 = (if k = 0 then s.getD ((tF s key).getD (16 * (r - 1) + 13) 0) 0 ^^^ rcF (r - 1) else s.getD ((tF s key).getD (16 * (r - 1) + (12 + (k + 1) % 4)) 0) 0) ^^^ (tF s key).getD (16 * (r - 1) + k) 0 := by
  obtain ⟨q, rfl⟩ : ∃ q, r = q + 1 := ⟨r - 1, by omega⟩
  rw [Nat.add_sub_cancel, tF_at hl hr (by omega), tF_at hl (by omega) (by omega), tF_at hl (by omega) (by omega), tF_at hl (by omega) (by omega)]
  show (nxL s (rdF s key q) (rcF q)).getD k 0 = _
  rw [nx_first _ _ _ _ hk, col_at _ _ _ _ hk]
/-- .. of another one -/
theorem tF_next {s key : List Nat} (hl : key.length = 16) {r m : Nat} (h1 : 1 ≤ r) (hr : r < 11) (hm : m + 4 < 16) :
    (tF s key).getD (16 * r + (m + 4)) 0 = (tF s key).getD (16 * r + m) 0 ^^^ (tF s key).getD (16 * (r - 1) + (m + 4)) 0 := by
  obtain ⟨q, rfl⟩ : ∃ q, r = q + 1 := ⟨r - 1, by omega⟩
  rw [Nat.add_sub_cancel, tF_at hl hr (by omega), tF_at hl hr (by omega), tF_at hl (by omega) (by omega)]
  exact nx_next s (rdF s key q) (rcF q) m hm

theorem uF_lt {s key : List Nat} (hs : ∀ i, s.getD i 0 < 256) (hk : Blk key) (i : Nat) : uF s key i < 256 := xor_lt8 (tF_lt hs hk _) (hs _)
theorem wF_length {s key : List Nat} (hl : key.length = 16) (i : Nat) : (wF s key i).length = 176 := by
  by_cases h : 4 ≤ i ∧ i % 4 = 0 ∧ i < 44
  · rw [wF_then h, List.length_set, tF_length hl]
  · rw [wF_else h, tF_length hl]
theorem wF_at {s key : List Nat} (hl : key.length = 16) (i j : Nat) : (wF s key i).getD j 0 = if (4 ≤ i ∧ i % 4 = 0 ∧ i < 44) ∧ i * 4 = j then uF s key i else (tF s key).getD j 0 := by
  by_cases h : 4 ≤ i ∧ i % 4 = 0 ∧ i < 44
  · rw [wF_then h, set_is _ _ _ _ (by rw [tF_length hl]; omega)]
    by_cases e : i * 4 = j
    · rw [if_pos e, if_pos ⟨h, e⟩]
    · rw [if_neg e, if_neg (fun x => e x.2)]
  · rw [wF_else h, if_neg (fun x => h x.1)]

theorem uF_last {s key : List Nat} (hl : key.length = 16) {i : Nat} (h4 : 4 ≤ i) (hi : i < 44) (h0 : i % 4 = 0) : uF s key i ^^^ pF i = (tF s key).getD (i * 4) 0 := by
  have h := tF_first (s := s) hl (show 1 ≤ i / 4 by omega) (show i / 4 < 11 by omega) (show (0 : Nat) < 4 by omega)
  rw [if_pos rfl] at h
  rw [show i * 4 = 16 * (i / 4) + 0 by omega, h, uF, pF, show (i - 4) * 4 = 16 * (i / 4 - 1) + 0 by omega, show (i - 1) * 4 + 1 = 16 * (i / 4 - 1) + 13 by omega, show (i + 3) / 4 - 1 = i / 4 - 1 by omega]
  rw [Nat.xor_assoc, Nat.xor_comm]

theorem cols_is {key : List Nat} (hk : Blk key) : Cols key swT (tF swT key) (wF swT key) pF where
  tl := tF_length hk.len
  tb := tF_lt sw_lt hk
  wl := wF_length hk.len
  wb := fun i j => by
    rw [wF_at hk.len]
    split
    · exact uF_lt sw_lt hk i
    · exact tF_lt sw_lt hk j
  first := fun i => by
    by_cases hi : i * 4 ≤ 176
    · refine list_ext (by rw [part_length _ _ _ (tF_length hk.len) hi, part_length _ _ _ (wF_length hk.len i) hi]) fun j hj => ?_
      rw [part_length _ _ _ (tF_length hk.len) hi] at hj
      rw [part_at _ _ _ _ (tF_length hk.len) hi hj, part_at _ _ _ _ (wF_length hk.len i) hi hj, wF_at hk.len]
      by_cases hji : j < i * 4
      · rw [if_pos hji, if_pos hji, if_neg (by omega)]
      · rw [if_neg hji, if_neg hji]
    · rw [wF_else (by omega)]
  old := fun i j hj => by rw [wF_at hk.len, if_neg (by omega)]
  v0 := fun i k hi hk4 => by
    have h := tF_at (s := swT) hk.len (show (0 : Nat) < 11 by omega) (show 4 * i + k < 16 by omega)
    rw [wF_at hk.len, if_neg (by omega), show i * 4 + k = 16 * 0 + (4 * i + k) by omega, h]
    rfl
  v4 := fun i k h4 hi hk4 h0 => by
    rw [wF_at hk.len]
    by_cases e : k = 0
    · subst e
      rw [if_pos ⟨⟨h4, h0, hi⟩, rfl⟩, uF]
      rfl
    · rw [if_neg (by omega)]
      have h := tF_first (s := swT) hk.len (show 1 ≤ i / 4 by omega) (show i / 4 < 11 by omega) hk4
      rw [if_neg e] at h
      rw [show i * 4 + k = 16 * (i / 4) + k by omega, h, Nat.xor_comm, show 16 * (i / 4 - 1) + k = (i - 4) * 4 + k by omega, show 16 * (i / 4 - 1) + (12 + (k + 1) % 4) = (i - 1) * 4 + (k + 1) % 4 by omega]
  v1 := fun i k h4 hi hk4 h0 => by
    rw [wF_at hk.len, if_neg (fun x => h0 x.1.2.1)]
    have h := tF_next (s := swT) hk.len (show 1 ≤ i / 4 by omega) (show i / 4 < 11 by omega) (show 4 * (i % 4 - 1) + k + 4 < 16 by omega)
    rw [show i * 4 + k = 16 * (i / 4) + (4 * (i % 4 - 1) + k + 4) by omega, h, Nat.xor_comm, show 16 * (i / 4) + (4 * (i % 4 - 1) + k) = (i - 1) * 4 + k by omega, show 16 * (i / 4 - 1) + (4 * (i % 4 - 1) + k + 4) = (i - 4) * 4 + k by omega]
  last := fun i hi h => by rw [wF_else (fun x => h ⟨x.1, x.2.1⟩), Nat.succ_mul]
  lastP := fun i h4 hi h0 => by
    have hw := wF_length (s := swT) hk.len i
    have ht := tF_length (s := swT) hk.len
    rw [wF_at hk.len, if_pos ⟨⟨h4, h0, hi⟩, rfl⟩, uF_last hk.len h4 hi h0]
    refine list_ext (by rw [List.length_set, part_length _ _ _ hw (by omega), part_length _ _ _ ht (by omega)]) fun j hj => ?_
    rw [List.length_set, part_length _ _ _ hw (by omega)] at hj
    rw [set_is _ _ _ _ (by rw [part_length _ _ _ hw (by omega)]; omega), part_at _ _ _ _ hw (by omega) hj, part_at _ _ _ _ ht (by omega) hj, wF_at hk.len]
    by_cases e : i * 4 = j
    · rw [if_pos e, if_pos (by omega), e]
    · rw [if_neg e]
      by_cases hji : j < i * 4 + 4
      · rw [if_pos hji, if_neg (fun x => e x.2), if_pos (by omega)]
      · rw [if_neg hji, if_neg (by omega)]
  p0 := rfl
  pb := fun i => rcF_lt _
  pn := fun i h => by
    rw [pF, pF]
    congr 1
    by_cases h0 : i % 4 = 0
    · have : i < 4 := by omega
      omega
    · omega
  pp := fun i h4 h0 => by
    rw [pF, pF, tm_two (rcF_lt _), show (i + 1 + 3) / 4 - 1 = ((i + 3) / 4 - 1) + 1 by omega]
    rfl

theorem rrounds_any (key : List Nat) (w : World) (hk : Blk key) :
    Calls Try.prog 22 #[.agg (u8s key).toArray, .agg (u8s swT).toArray] w fun e w' => e = .returned (.agg (u8s (flF (rdF swT key) 11)).toArray) ∧ Below w.heap.size w w' :=
  rrounds_of key swT (tF swT key) (wF swT key) pF w hk.len swT_length sw_lt (cols_is hk)

end Go.Proofs.Ytflakgigekfgcaa
