/-
  Plain numbers for layer 5: a counted block, what a stream's round brings, a stream's bytes, a text turned.
-/
import Derived.Test.YtflakgigekfgcaaEJ
import Derived.Test.YtflakgigekfgcaaBC
namespace Go.Proofs.Ytflakgigekfgcaa
open Go.RowKit

/-- the nonce in eight bytes and the block's number in eight bytes, the highest first -/
def cbF (nn i : Nat) : List Nat := (List.range 16).map fun j => if j < 8 then nn / 2 ^ (8 * (7 - j)) % 256 else i / 2 ^ (8 * (15 - j)) % 256
/-- .. so many bytes of each -/
def cbP (nn i k : Nat) : List Nat := (List.range 16).map fun j => if j < 8 then (if j < k then nn / 2 ^ (8 * (7 - j)) % 256 else 0) else (if j < 8 + k then i / 2 ^ (8 * (15 - j)) % 256 else 0)

theorem range_at (n : Nat) (g : Nat → Nat) (i : Nat) : ((List.range n).map g).getD i 0 = if i < n then g i else 0 := by
  by_cases h : i < n
  · simp [List.getD, h]
  · simp [List.getD, h]
theorem cbF_blk (nn i : Nat) : Blk (cbF nn i) := range16_blk fun j _ => by split <;> exact Nat.mod_lt _ (by omega)
theorem cbP_length (nn i k : Nat) : (cbP nn i k).length = 16 := by simp [cbP]
theorem cbP_blk (nn i k : Nat) : Blk (cbP nn i k) := range16_blk fun j _ => by
  split <;> split <;> first | exact Nat.mod_lt _ (by omega) | omega
theorem cbP_zero (nn i : Nat) : cbP nn i 0 = z16 := by
  apply List.ext_getElem
  · simp [cbP, z16]
  · intro j h1 h2
    have hj : j < 16 := by simpa [cbP] using h1
    refine Eq.trans ?_ (show 0 = z16[j]'h2 from by simp only [z16, List.getElem_replicate])
    simp only [cbP, List.getElem_map, List.getElem_range]
    by_cases h8 : j < 8
    · simp [h8]
    · simp [h8]
theorem cbP_full (nn i : Nat) : cbP nn i 8 = cbF nn i := by
  apply List.ext_getElem
  · simp [cbP, cbF]
  · intro j h1 h2
    have hj : j < 16 := by simpa [cbP] using h1
    simp only [cbP, cbF, List.getElem_map, List.getElem_range]
    by_cases h8 : j < 8
    · simp [h8]
    · simp [h8, show j < 8 + 8 by omega]
theorem cbP_step (nn i k : Nat) (hk : k < 8) : ((cbP nn i k).set k (nn / 2 ^ (8 * (7 - k)) % 256)).set (8 + k) (i / 2 ^ (8 * (7 - k)) % 256) = cbP nn i (k + 1) := by
  apply List.ext_getElem
  · simp [cbP]
  · intro j h1 h2
    have hj : j < 16 := by simpa [cbP] using h2
    simp only [cbP, List.getElem_set, List.getElem_map, List.getElem_range]
    by_cases e1 : 8 + k = j
    · subst e1
      rw [if_pos rfl, if_neg (show ¬ 8 + k < 8 by omega), if_pos (show 8 + k < 8 + (k + 1) by omega), show 15 - (8 + k) = 7 - k by omega]
    · rw [if_neg e1]
      by_cases e2 : k = j
      · subst e2
        rw [if_pos rfl, if_pos hk, if_pos (show k < k + 1 by omega)]
      · rw [if_neg e2]
        by_cases h8 : j < 8
        · simp only [h8, if_true]
          by_cases h3 : j < k
          · rw [if_pos h3, if_pos (show j < k + 1 by omega)]
          · rw [if_neg h3, if_neg (show ¬ j < k + 1 by omega)]
        · simp only [h8, if_false]
          by_cases h3 : j < 8 + k
          · rw [if_pos h3, if_pos (show j < 8 + (k + 1) by omega)]
          · rw [if_neg h3, if_neg (show ¬ j < 8 + (k + 1) by omega)]

/-- the block i of a stream -/
def hbF (key : List Nat) (nn i : Nat) : List Nat := hdF (rdF swT key) (cbF nn i) 10
theorem hbF_blk {key : List Nat} (hk : Blk key) (nn i : Nat) : Blk (hbF key nn i) := hdF_blk (rd_blk sw_lt hk) (cbF_blk nn i) 10

/-- n bytes of a stream, from a place on -/
def stF (B : Nat → List Nat) (f n : Nat) : List Nat := (List.range n).map fun j => (B ((f + j) / 16)).getD ((f + j) % 16) 0
theorem stF_length (B : Nat → List Nat) (f n : Nat) : (stF B f n).length = n := by simp [stF]
theorem stF_at (B : Nat → List Nat) (f n j : Nat) : (stF B f n).getD j 0 = if j < n then (B ((f + j) / 16)).getD ((f + j) % 16) 0 else 0 := range_at _ _ _
theorem stF_bytes {B : Nat → List Nat} (hB : ∀ i, Blk (B i)) (f n : Nat) : BytesN (stF B f n) := by
  intro x hx
  obtain ⟨j, _, rfl⟩ := List.mem_map.1 hx
  exact (hB _).lt _
theorem stF_add (B : Nat → List Nat) (f n m : Nat) : stF B f (n + m) = stF B f n ++ stF B (f + n) m := by
  rw [stF, stF, stF, List.range_add, List.map_append, List.map_map]
  congr 1
  apply List.map_congr_left
  intro j _
  simp only [Function.comp]
  rw [show f + (n + j) = f + n + j by omega]

/-- what a round brings: the row behind it, and from where the next block is taken -/
def rnF (n : Nat) (B : Nat → List Nat) (st : List Nat × Nat) (x : Nat) : List Nat × Nat := (st.1 ++ ((B x).take (min 16 (st.2 + n - st.1.length))).drop st.2, 0)
def outS (n : Nat) (B : Nat → List Nat) (s0 : Nat) (xs : List Nat) : List Nat × Nat := xs.foldl (rnF n B) ([], s0)
theorem outS_snoc (n : Nat) (B : Nat → List Nat) (s0 : Nat) (xs : List Nat) (x : Nat) : outS n B s0 (xs ++ [x]) = rnF n B (outS n B s0 xs) x := by simp [outS, List.foldl_append]

theorem snoc_ind {α : Type} {p : List α → Prop} (h0 : p []) (h1 : ∀ xs x, p xs → p (xs ++ [x])) : ∀ xs, p xs := fun xs => by
  have h : ∀ ys : List α, p ys.reverse := fun ys => by
    induction ys with
    | nil => exact h0
    | cons y ys ih => rw [List.reverse_cons]; exact h1 _ _ ih
  have := h xs.reverse
  rwa [List.reverse_reverse] at this

theorem outS_len {n s0 : Nat} {B : Nat → List Nat} (hB : ∀ i, (B i).length = 16) (hs : s0 < 16) (xs : List Nat) :
    (outS n B s0 xs).1.length = min n (16 * xs.length - s0) ∧ (outS n B s0 xs).2 = (if xs.length = 0 then s0 else 0) := by
  refine snoc_ind (p := fun xs => (outS n B s0 xs).1.length = min n (16 * xs.length - s0) ∧ (outS n B s0 xs).2 = (if xs.length = 0 then s0 else 0)) ?_ ?_ xs
  · simp [outS]
  · rintro xs x ⟨h1, h2⟩
    rw [outS_snoc]
    refine ⟨?_, by simp [rnF]⟩
    simp only [rnF, List.length_append, List.length_drop, List.length_take, hB, h1, h2, List.length_cons, List.length_nil]
    split
    · rename_i h0
      rw [h0]
      omega
    · omega

theorem outS_ok {n s0 : Nat} {B : Nat → List Nat} (hB : ∀ i, (B i).length = 16) (hs : s0 < 16) (xs : List Nat) :
    (outS n B s0 xs).1.length ≤ n ∧ (outS n B s0 xs).2 < 16 ∧ (outS n B s0 xs).2 ≤ min 16 ((outS n B s0 xs).2 + n - (outS n B s0 xs).1.length) := by
  obtain ⟨h1, h2⟩ := outS_len (n := n) hB hs xs
  rw [h1, h2]
  split <;> omega

theorem drop_take_is (b : List Nat) (hb : b.length = 16) (s m : Nat) (h1 : s ≤ m) (h2 : m ≤ 16) : (b.take m).drop s = (List.range (m - s)).map fun j => b.getD (s + j) 0 := by
  apply List.ext_getElem
  · simp; omega
  · intro j h3 h4
    have hj : j < m - s := by simpa using h4
    simp [List.getD, show s + j < b.length by omega]

theorem stF_piece (B : Nat → List Nat) (hB : ∀ i, (B i).length = 16) (f m : Nat) (hm : f % 16 + m ≤ 16) : ((B (f / 16)).take (f % 16 + m)).drop (f % 16) = stF B f m := by
  rw [drop_take_is _ (hB _) _ _ (by omega) hm, Nat.add_sub_cancel_left, stF]
  apply List.map_congr_left
  intro j hj
  have hj' : j < m := by simpa using hj
  rw [show (f + j) / 16 = f / 16 by omega, show (f + j) % 16 = f % 16 + j by omega]

theorem outS_is {B : Nat → List Nat} (hB : ∀ i, (B i).length = 16) (f n : Nat) : ∀ k, (outS n B (f % 16) ((List.range k).map (f / 16 + ·))).1 = stF B f (min n (16 * k - f % 16)) := by
  intro k
  induction k with
  | zero => simp [outS, stF]
  | succ k ih =>
    have hs : f % 16 < 16 := Nat.mod_lt _ (by omega)
    obtain ⟨h1, h2⟩ := outS_len (n := n) hB hs ((List.range k).map (f / 16 + ·))
    simp only [List.length_map, List.length_range] at h1 h2
    rw [List.range_succ, List.map_append, List.map_singleton, outS_snoc]
    simp only [rnF, h1, h2]
    rw [ih]
    by_cases h0 : k = 0
    · subst h0
      simp only [Nat.mul_zero, Nat.zero_sub, Nat.min_zero, if_true, Nat.add_zero, Nat.sub_zero, Nat.zero_add, Nat.mul_one]
      have e0 : stF B f 0 = [] := rfl
      rw [e0, List.nil_append]
      have e1 : min 16 (f % 16 + n) = f % 16 + min n (16 - f % 16) := by omega
      rw [e1]
      exact stF_piece B hB f _ (by omega)
    · rw [if_neg h0, List.drop_zero]
      have e1 : min n (16 * (k + 1) - f % 16) = min n (16 * k - f % 16) + min 16 (0 + n - min n (16 * k - f % 16)) := by omega
      rw [e1, stF_add]
      congr 1
      by_cases hz : n ≤ 16 * k - f % 16
      · have e2 : min 16 (0 + n - min n (16 * k - f % 16)) = 0 := by omega
        rw [e2, List.take_zero]; rfl
      · have e3 : min n (16 * k - f % 16) = 16 * k - f % 16 := by omega
        rw [e3]
        have e4 : (f + (16 * k - f % 16)) % 16 = 0 := by omega
        have e5 : (f + (16 * k - f % 16)) / 16 = f / 16 + k := by omega
        have := stF_piece B hB (f + (16 * k - f % 16)) (min 16 (0 + n - (16 * k - f % 16))) (by omega)
        rw [e4, e5, Nat.zero_add, List.drop_zero] at this
        exact this

/-- .. and behind the last one -/
theorem outS_all {B : Nat → List Nat} (hB : ∀ i, (B i).length = 16) (f n : Nat) : (outS n B (f % 16) ((List.range ((f + n + 15) / 16 - f / 16)).map (f / 16 + ·))).1 = stF B f n := by
  rw [outS_is hB]
  congr 1
  omega

/-- a text turned, from a place on -/
def trF (B : Nat → List Nat) (f : Nat) (xs : List Nat) : List Nat := (List.range xs.length).map fun j => xs.getD j 0 ^^^ (B ((f + j) / 16)).getD ((f + j) % 16) 0
theorem trF_length (B : Nat → List Nat) (f : Nat) (xs : List Nat) : (trF B f xs).length = xs.length := by simp [trF]
theorem trF_at (B : Nat → List Nat) (f : Nat) (xs : List Nat) {j : Nat} (hj : j < xs.length) : (trF B f xs).getD j 0 = xs.getD j 0 ^^^ (B ((f + j) / 16)).getD ((f + j) % 16) 0 := by rw [trF, range_at, if_pos hj]
theorem getD_byte {xs : List Nat} (h : BytesN xs) (j : Nat) : xs.getD j 0 < 256 := by
  by_cases hj : j < xs.length
  · have := h xs[j] (List.getElem_mem hj)
    simpa [List.getD, hj] using this
  · simp [List.getD, hj]
theorem trF_bytes {B : Nat → List Nat} (hB : ∀ i, Blk (B i)) (f : Nat) {xs : List Nat} (hx : BytesN xs) : BytesN (trF B f xs) := by
  intro x h
  obtain ⟨j, _, rfl⟩ := List.mem_map.1 h
  exact xor_lt8 (getD_byte hx j) ((hB _).lt _)

end Go.Proofs.Ytflakgigekfgcaa
