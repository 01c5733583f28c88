/-
  Plain facts on blocks and rounds, with nothing of the program in them: the round behind a round, byte by byte; unlike keys have unlike rounds.
-/
import Derived.Test.YtflakgigekfgcaaEJ
namespace Go.Proofs.Ytflakgigekfgcaa
open Go.RowKit

theorem blk_ext {a b : List Nat} (ha : Blk a) (hb : Blk b) (h : ∀ i, i < 16 → a.getD i 0 = b.getD i 0) : a = b := by
  apply List.ext_getElem (by rw [ha.len, hb.len])
  intro i h1 h2
  have := h i (by rw [ha.len] at h1; exact h1)
  simpa [List.getD, h1, h2] using this

theorem blk_split {b : List Nat} (h : b.length = 16) : ∃ k0 k1 k2 k3 k4 k5 k6 k7 k8 k9 k10 k11 k12 k13 k14 k15, b = [k0, k1, k2, k3, k4, k5, k6, k7, k8, k9, k10, k11, k12, k13, k14, k15] := by
  match b, h with
  | [k0, k1, k2, k3, k4, k5, k6, k7, k8, k9, k10, k11, k12, k13, k14, k15], _ => exact ⟨k0, k1, k2, k3, k4, k5, k6, k7, k8, k9, k10, k11, k12, k13, k14, k15, rfl⟩

/-- a byte of the round behind, but for the first column -/
theorem nx_next (s b : List Nat) (p m : Nat) (hm : m + 4 < 16) : (nxL s b p).getD (m + 4) 0 = (nxL s b p).getD m 0 ^^^ b.getD (m + 4) 0 := by
  rw [nxL_at _ _ _ _ hm, nxL_at _ _ _ _ (by omega)]
  generalize colF s b p = c
  have e0 : (m + 4) % 4 = m % 4 := by omega
  rw [e0]
  rw [show m + 4 + 1 = (m + 4) + 1 from rfl, nC, if_pos e0]
  rw [show m + 4 = (m + 3) + 1 from rfl, nC, if_neg (by omega)]
  rw [show m + 3 = (m + 2) + 1 from rfl, nC, if_neg (by omega)]
  rw [show m + 2 = (m + 1) + 1 from rfl, nC, if_neg (by omega)]
theorem nx_first (s b : List Nat) (p i : Nat) (hi : i < 4) : (nxL s b p).getD i 0 = (colF s b p).getD i 0 ^^^ b.getD i 0 := by
  rw [nxL_at _ _ _ _ (by omega)]
  generalize colF s b p = c
  rcases (show i = 0 ∨ i = 1 ∨ i = 2 ∨ i = 3 by omega) with rfl | rfl | rfl | rfl <;> simp [nC]

theorem xor_left_inj {x y z : Nat} (h : x ^^^ y = x ^^^ z) : y = z := by
  have := congrArg (fun t => x ^^^ t) h
  simpa [← Nat.xor_assoc] using this

theorem nx_inj {s b b' : List Nat} {p : Nat} (hb : Blk b) (hb' : Blk b') (h : nxL s b p = nxL s b' p) : b = b' := by
  have hi4 : ∀ m, m + 4 < 16 → b.getD (m + 4) 0 = b'.getD (m + 4) 0 := fun m hm => by
    have h1 := nx_next s b p m hm
    have h2 := nx_next s b' p m hm
    rw [h] at h1
    exact xor_left_inj (h1.symm.trans h2)
  have hc : colF s b p = colF s b' p := by
    unfold colF
    rw [hi4 8 (by omega), hi4 9 (by omega), hi4 10 (by omega), hi4 11 (by omega)]
  refine blk_ext hb hb' fun i hi => ?_
  by_cases h4 : i < 4
  · have h1 := nx_first s b p i h4
    have h2 := nx_first s b' p i h4
    rw [h, hc] at h1
    exact xor_left_inj (h1.symm.trans h2)
  · have := hi4 (i - 4) (by omega)
    rw [show i - 4 + 4 = i by omega] at this
    exact this

theorem rd_inj {s k k' : List Nat} (hs : ∀ i, s.getD i 0 < 256) (hk : Blk k) (hk' : Blk k') : ∀ j, rdF s k j = rdF s k' j → k = k'
  | 0, h => h
  | j + 1, h => rd_inj hs hk hk' j (nx_inj (rd_blk hs hk j) (rd_blk hs hk' j) h)

end Go.Proofs.Ytflakgigekfgcaa
