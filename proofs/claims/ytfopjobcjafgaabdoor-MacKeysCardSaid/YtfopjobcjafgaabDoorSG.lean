/-
  Plain facts, with nothing of the program in them: a block's spread, its turns, the block taken into eight words; bytes of a digest.
-/
import Derived.Test.YtfopjobcjafgaabDoorSE
namespace Go.Proofs.YtfopjobcjafgaabDoor
open Go.RowKit

/-- four bytes as a word -/
def w4 (b : List Nat) (i : Nat) : Nat := b.getD (4 * i) 0 * 16777216 + b.getD (4 * i + 1) 0 * 65536 + b.getD (4 * i + 2) 0 * 256 + b.getD (4 * i + 3) 0

/-- the next word of a spread -/
def nextW (b l : List Nat) (i : Nat) : Nat :=
  if i < 16 then w4 b i else (l.getD (i - 16) 0 + rot2 (l.getD (i - 15) 0) 7 18 3 + l.getD (i - 7) 0 + rot2 (l.getD (i - 2) 0) 17 19 10) % 4294967296

def ws (b : List Nat) : Nat → List Nat
  | 0 => []
  | i + 1 => ws b i ++ [nextW b (ws b i) i]

/-- a block's spread -/
def spreadF (b : List Nat) : List Nat := ws b 64

theorem ws_length (b : List Nat) (i : Nat) : (ws b i).length = i := by induction i with
  | zero => rfl
  | succ i ih => simp [ws, ih]

theorem ws_take (b : List Nat) : ∀ n i, i ≤ n → (ws b n).take i = ws b i := by
  intro n
  induction n with
  | zero => intro i hi; have : i = 0 := by omega
            subst this; rfl
  | succ n ih =>
    intro i hi
    by_cases e : i = n + 1
    · subst e; rw [List.take_of_length_le (by rw [ws_length]; omega)]
    · rw [ws, List.take_append_of_le_length (by rw [ws_length]; omega), ih i (by omega)]

theorem getD_take (l : List Nat) (i j : Nat) (h : j < i) : (l.take i).getD j 0 = l.getD j 0 := by
  simp [List.getD, h]

theorem nextW_take (b l : List Nat) (i : Nat) : nextW b (l.take i) i = nextW b l i := by
  unfold nextW
  by_cases h : i < 16
  · rw [if_pos h, if_pos h]
  · rw [if_neg h, if_neg h, getD_take _ _ _ (by omega), getD_take _ _ _ (by omega), getD_take _ _ _ (by omega), getD_take _ _ _ (by omega)]

theorem spread_length (b : List Nat) : (spreadF b).length = 64 := ws_length b 64

theorem spread_at (b : List Nat) (i : Nat) (hi : i < 64) : (spreadF b).getD i 0 = nextW b (spreadF b) i := by
  have h1 : (spreadF b).getD i 0 = (ws b (i + 1)).getD i 0 := by
    rw [← ws_take b 64 (i + 1) (by omega), getD_take _ _ _ (by omega)]; rfl
  rw [h1, ws]
  have h2 : (ws b i ++ [nextW b (ws b i) i]).getD i 0 = nextW b (ws b i) i := by
    simp [List.getD, ws_length]
  rw [h2, ← ws_take b 64 i (by omega)]
  exact nextW_take b _ i

theorem byte_getD {b : List Nat} (h : ∀ x ∈ b, x < 256) (j : Nat) : b.getD j 0 < 256 := by
  by_cases hj : j < b.length
  · simp only [List.getD, List.getElem?_eq_getElem hj, Option.getD_some]; exact h _ (List.getElem_mem hj)
  · simp [List.getD, List.getElem?_eq_none (by omega : b.length ≤ j)]

theorem w4_lt {b : List Nat} (h : ∀ x ∈ b, x < 256) (i : Nat) : w4 b i < 4294967296 := by
  have h1 := byte_getD h (4 * i)
  have h2 := byte_getD h (4 * i + 1)
  have h3 := byte_getD h (4 * i + 2)
  have h4 := byte_getD h (4 * i + 3)
  unfold w4
  omega

theorem spread_lt {b : List Nat} (h : ∀ x ∈ b, x < 256) (i : Nat) : (spreadF b).getD i 0 < 4294967296 := by
  by_cases hi : i < 64
  · rw [spread_at b i hi, nextW]
    split
    · exact w4_lt h i
    · exact Nat.mod_lt _ (by omega)
  · have : (spreadF b).getD i 0 = 0 := by simp [List.getD, List.getElem?_eq_none (show (spreadF b).length ≤ i by rw [spread_length]; omega)]
    omega

/-- words -/
def Words (l : List Nat) : Prop := ∀ x ∈ l, x < 4294967296

theorem Words.getD {l : List Nat} (h : Words l) (j : Nat) : l.getD j 0 < 4294967296 := by
  by_cases hj : j < l.length
  · simp only [List.getD, List.getElem?_eq_getElem hj, Option.getD_some]; exact h _ (List.getElem_mem hj)
  · simp [List.getD, List.getElem?_eq_none (by omega : l.length ≤ j)]

def chF (e f g : Nat) : Nat := (e &&& f) ^^^ ((4294967295 ^^^ e) &&& g)
def majF (a b c : Nat) : Nat := ((a &&& b) ^^^ (a &&& c)) ^^^ (b &&& c)
def uF (e f g h k w : Nat) : Nat := (h + rot3 e 6 11 25 + chF e f g + k + w) % 4294967296
def vF (a b c : Nat) : Nat := (rot3 a 2 13 22 + majF a b c) % 4294967296

/-- a turn of eight words -/
def stepW (x : List Nat) (k w : Nat) : List Nat :=
  [(uF (x.getD 4 0) (x.getD 5 0) (x.getD 6 0) (x.getD 7 0) k w + vF (x.getD 0 0) (x.getD 1 0) (x.getD 2 0)) % 4294967296, x.getD 0 0, x.getD 1 0, x.getD 2 0,
   (x.getD 3 0 + uF (x.getD 4 0) (x.getD 5 0) (x.getD 6 0) (x.getD 7 0) k w) % 4294967296, x.getD 4 0, x.getD 5 0, x.getD 6 0]

/-- so many turns -/
def turnsF (h b : List Nat) : Nat → List Nat
  | 0 => h
  | i + 1 => stepW (turnsF h b i) (turnT.getD i 0) ((spreadF b).getD i 0)

/-- word by word, added -/
def addW (x h : List Nat) : List Nat := (List.range 8).map fun i => (x.getD i 0 + h.getD i 0) % 4294967296

/-- a block taken into eight words -/
def blockF (h b : List Nat) : List Nat := addW (turnsF h b 64) h

theorem stepW_length (x : List Nat) (k w : Nat) : (stepW x k w).length = 8 := rfl
theorem stepW_words {x : List Nat} (h : Words x) (k w : Nat) : Words (stepW x k w) := by
  intro y hy
  simp only [stepW, List.mem_cons, List.not_mem_nil, or_false] at hy
  rcases hy with e | e | e | e | e | e | e | e
  · subst e; exact Nat.mod_lt _ (by omega)
  · subst e; exact h.getD _
  · subst e; exact h.getD _
  · subst e; exact h.getD _
  · subst e; exact Nat.mod_lt _ (by omega)
  · subst e; exact h.getD _
  · subst e; exact h.getD _
  · subst e; exact h.getD _
theorem turnsF_length {h b : List Nat} (hl : h.length = 8) (i : Nat) : (turnsF h b i).length = 8 := by
  cases i with
  | zero => exact hl
  | succ i => rfl
theorem turnsF_words {h b : List Nat} (hw : Words h) (i : Nat) : Words (turnsF h b i) := by
  induction i with
  | zero => exact hw
  | succ i ih => exact stepW_words ih _ _
theorem blockF_length (h b : List Nat) : (blockF h b).length = 8 := by simp [blockF, addW]
theorem blockF_words (h b : List Nat) : Words (blockF h b) := by
  intro y hy
  simp only [blockF, addW, List.mem_map] at hy
  obtain ⟨i, _, rfl⟩ := hy
  exact Nat.mod_lt _ (by omega)

theorem eight {l : List Nat} (h : l.length = 8) : ∃ a b c d e f g h, l = [a, b, c, d, e, f, g, h] := by
  match l, h with
  | [a, b, c, d, e, f, g, h], _ => exact ⟨a, b, c, d, e, f, g, h, rfl⟩

theorem chF_lt {e f g : Nat} (he : e < 4294967296) : chF e f g < 4294967296 := xor_lt32 (and_lt32 he) (and_lt32 (xor_lt32 (by omega) he))
theorem majF_lt {a b c : Nat} (ha : a < 4294967296) (hb : b < 4294967296) : majF a b c < 4294967296 := xor_lt32 (xor_lt32 (and_lt32 ha) (and_lt32 ha)) (and_lt32 hb)

theorem ch_eq (e f g : Nat) (he : e < 4294967296) (hf : f < 4294967296) (hg : g < 4294967296) :
    bits .xor .u32 (bits .and .u32 (e : Int) (f : Int)) (bits .and .u32 (bits .xor .u32 IntKind.u32.max (e : Int)) (g : Int)) = ((chF e f g : Nat) : Int) := by
  rw [show IntKind.u32.max = ((4294967295 : Nat) : Int) from rfl, u32_and_nat e f he hf, u32_xor_nat 4294967295 e (by omega) he, u32_and_nat _ g (xor_lt32 (by omega) he) hg, u32_xor_nat _ _ (and_lt32 he) (and_lt32 (xor_lt32 (by omega) he))]
  rfl
theorem maj_eq (a b c : Nat) (ha : a < 4294967296) (hb : b < 4294967296) (hc : c < 4294967296) :
    bits .xor .u32 (bits .xor .u32 (bits .and .u32 (a : Int) (b : Int)) (bits .and .u32 (a : Int) (c : Int))) (bits .and .u32 (b : Int) (c : Int)) = ((majF a b c : Nat) : Int) := by
  rw [u32_and_nat a b ha hb, u32_and_nat a c ha hc, u32_and_nat b c hb hc, u32_xor_nat _ _ (and_lt32 ha) (and_lt32 ha), u32_xor_nat _ _ (xor_lt32 (and_lt32 ha) (and_lt32 ha)) (and_lt32 hb)]
  rfl
theorem u_eq (e f g h k w : Nat) :
    IntKind.u32.wrap (IntKind.u32.wrap (IntKind.u32.wrap (IntKind.u32.wrap ((h : Int) + ((rot3 e 6 11 25 : Nat) : Int)) + ((chF e f g : Nat) : Int)) + (k : Int)) + (w : Int)) = ((uF e f g h k w : Nat) : Int) := by
  simp only [IntKind.wrap_u32', uF]
  omega
theorem v_eq (a b c : Nat) : IntKind.u32.wrap (((rot3 a 2 13 22 : Nat) : Int) + ((majF a b c : Nat) : Int)) = ((vF a b c : Nat) : Int) := by
  simp only [IntKind.wrap_u32', vF]
  omega

/-- so many of the eight sums -/
def addTo (x h : List Nat) (i : Nat) : List Nat := (addW x h).take i ++ x.drop i
theorem addTo_zero (x h : List Nat) : addTo x h 0 = x := by simp [addTo]
theorem addTo_full (x h : List Nat) (hx : x.length = 8) : addTo x h 8 = addW x h := by
  rw [addTo, List.take_of_length_le (by simp [addW]), List.drop_eq_nil_of_le (by omega), List.append_nil]
theorem addTo_length (x h : List Nat) (hx : x.length = 8) (i : Nat) (hi : i ≤ 8) : (addTo x h i).length = 8 := by simp [addTo, addW, hx]; omega
theorem addTo_at (x h : List Nat) (i : Nat) (hi : i < 8) : (addTo x h i).getD i 0 = x.getD i 0 := by
  simp [addTo, addW, List.getD, List.getElem?_append, Nat.min_eq_left (Nat.le_of_lt hi)]
theorem addTo_set (x h : List Nat) (hx : x.length = 8) (i : Nat) (hi : i < 8) : (addTo x h i).set i ((x.getD i 0 + h.getD i 0) % 4294967296) = addTo x h (i + 1) := by
  apply List.ext_getElem
  · simp [addTo, addW, hx]; omega
  · intro k h1 h2
    simp only [addTo, addW, List.getElem_set, List.getElem_append, List.length_take, List.length_map, List.length_range]
    by_cases e : i = k
    · subst e
      simp [show i < min (i + 1) 8 by omega]
    · by_cases hk : k < i
      · simp [e, show k < min i 8 by omega, show k < min (i + 1) 8 by omega]
      · simp [e, show ¬ k < min i 8 by omega, show ¬ k < min (i + 1) 8 by omega]
        congr 1
        omega

end Go.Proofs.YtfopjobcjafgaabDoor
