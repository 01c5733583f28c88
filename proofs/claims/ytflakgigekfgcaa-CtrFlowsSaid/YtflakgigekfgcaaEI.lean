/-
  Walks: a key's rounds by all bytes swapped; a block hidden.
-/
import Derived.Test.YtflakgigekfgcaaEH
namespace Go.Proofs.Ytflakgigekfgcaa
open Go.RowKit

theorem sw_lt (i : Nat) : swT.getD i 0 < 256 := getD_lt swT_lt (by omega) i
theorem rdF_length {s key : List Nat} (h : key.length = 16) : ∀ j, (rdF s key j).length = 16
  | 0 => h
  | _ + 1 => nxL_length _ _ _
theorem range16_at (g : Nat → Nat) (i : Nat) : ((List.range 16).map g).getD i 0 = if i < 16 then g i else 0 := by
  by_cases h : i < 16
  · simp [List.getD, h]
  · simp [List.getD, h]
theorem rdF_lt {s key : List Nat} (hs : ∀ i, s.getD i 0 < 256) (hk : ∀ i, key.getD i 0 < 256) : ∀ j i, (rdF s key j).getD i 0 < 256
  | 0, i => hk i
  | j + 1, i => by
    show (nxL s (rdF s key j) (rcF j)).getD i 0 < 256
    rw [nxL, range16_at]
    split
    · exact nC_lt (colF_lt hs (rcF_lt j)) (rdF_lt hs hk j) _ _
    · omega


end Go.Proofs.Ytflakgigekfgcaa
