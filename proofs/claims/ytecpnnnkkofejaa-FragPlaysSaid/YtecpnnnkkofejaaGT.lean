/-
  Small laws for the laws' walks: strings one behind the other; what is cut.
-/
import Derived.Test.YtecpnnnkkofejaaRows
import Derived.Test.YtecpnnnkkofejaaGR
import Derived.Lib.SmallJoins
namespace Go.Proofs.Ytecpnnnkkofejaa
open Go.RowKit

theorem strF_append (a b : List Nat) : strF (a ++ b) = strF a ++ strF b := by
  apply ByteArray.ext
  simp [strF, strOfNums]
theorem strF_size (a : List Nat) : (strF a).size = a.length := by
  show (strF a).data.size = _
  simp [strF, strOfNums]

theorem cut_big {n s : Nat} (hs : 1 ≤ s) (h : 256 < (n + s - 1) / s) : 256 * s < n := by
  have h1 := (Nat.lt_div_iff_mul_lt (by omega : 0 < s)).1 h
  rw [Nat.mul_comm] at h1
  omega

end Go.Proofs.Ytecpnnnkkofejaa
