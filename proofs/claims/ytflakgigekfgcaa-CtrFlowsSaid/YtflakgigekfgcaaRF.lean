/-
  The reference's block hidden is the program's, with nothing of the program's walk in it.
-/
import Derived.Test.YtflakgigekfgcaaRE
import Derived.Test.YtflakgigekfgcaaRD
namespace Go.Proofs.Ytflakgigekfgcaa
open Go.RowKit

theorem mix_at {X : List Nat} (hX : Blk X) {c q : Nat} (hc : c < 4) (hq : q < 4) : (mixL [2, 3, 1, 1] X).getD (4 * c + q) 0 =
    ((tmF 2 (X.getD (4 * c + q) 0) ^^^ tmF 3 (X.getD (4 * c + (q + 1) % 4) 0)) ^^^ X.getD (4 * c + (q + 2) % 4) 0) ^^^ X.getD (4 * c + (q + 3) % 4) 0 := by
  rw [mixL, range16_at, if_pos (by omega)]
  show (((0 ^^^ tmF (X.getD (4 * c + q - (4 * c + q) % 4 + ((4 * c + q) % 4 + 0) % 4) 0) 2) ^^^ tmF (X.getD (4 * c + q - (4 * c + q) % 4 + ((4 * c + q) % 4 + 1) % 4) 0) 3) ^^^ tmF (X.getD (4 * c + q - (4 * c + q) % 4 + ((4 * c + q) % 4 + 2) % 4) 0) 1) ^^^ tmF (X.getD (4 * c + q - (4 * c + q) % 4 + ((4 * c + q) % 4 + 3) % 4) 0) 1 = _
  have e0 : 4 * c + q - (4 * c + q) % 4 + ((4 * c + q) % 4 + 0) % 4 = 4 * c + q := by omega
  have e1 : 4 * c + q - (4 * c + q) % 4 + ((4 * c + q) % 4 + 1) % 4 = 4 * c + (q + 1) % 4 := by omega
  have e2 : 4 * c + q - (4 * c + q) % 4 + ((4 * c + q) % 4 + 2) % 4 = 4 * c + (q + 2) % 4 := by omega
  have e3 : 4 * c + q - (4 * c + q) % 4 + ((4 * c + q) % 4 + 3) % 4 = 4 * c + (q + 3) % 4 := by omega
  rw [e0, e1, e2, e3, Nat.zero_xor, tm_one (hX.lt _), tm_one (hX.lt _), tm_comm (hX.lt _) (show 2 < 256 by omega), tm_comm (hX.lt _) (show 3 < 256 by omega)]

theorem hds_is {key b : List Nat} (hk : Blk key) (hb : Blk b) :
    Hds (rdF swT key) (hdF (rdF swT key) b) (fun r => movL 1 (eachL swT (hdF (rdF swT key) b r))) (fun r => mixL [2, 3, 1, 1] (movL 1 (eachL swT (hdF (rdF swT key) b r)))) swT b (flF (rdF swT key) 11) where
  hL := rfl
  fb := rd_blk sw_lt hk
  bb := hdF_blk (rd_blk sw_lt hk) hb
  xb := fun _ => (eachL_blk sw_lt _).mov 1
  yb := fun _ => ((eachL_blk sw_lt _).mov 1).mix _
  b0 := fun i hi => by
    show (addL b (rdF swT key 0)).getD i 0 = _
    rw [addL, range16_at, if_pos hi]
  x0 := fun r i hi => by
    show (movL 1 (eachL swT (hdF (rdF swT key) b r))).getD i 0 = _
    rw [movL, range16_at, if_pos hi, eachL, range16_at, if_pos (Nat.mod_lt _ (by omega)), show (i + 4 * 1 * (i % 4)) % 16 = 4 * ((i / 4 + i % 4) % 4) + i % 4 by omega]
  y0 := fun _ c q hc hq => mix_at ((eachL_blk sw_lt _).mov 1) hc hq
  b1 := fun r hr i hi => by
    show (hdF (rdF swT key) b (r + 1)).getD i 0 = _
    rw [hdF, if_pos hr, addL, range16_at, if_pos hi]
  b2 := fun r hr i hi => by
    show (hdF (rdF swT key) b (r + 1)).getD i 0 = _
    rw [hdF, if_neg hr, addL, range16_at, if_pos hi]

theorem rhide_any (key b : List Nat) (w : World) (hk : Blk key) (hb : Blk b) :
    Calls Try.prog 32 #[.agg (u8s (flF (rdF swT key) 11)).toArray, .agg (u8s swT).toArray, .agg (u8s b).toArray] w fun e w' => e = .returned (.agg (u8s (hdF (rdF swT key) b 10)).toArray) ∧ Below w.heap.size w w' :=
  rhide_of _ _ _ _ swT b _ w swT_length sw_lt hb (hds_is hk hb)

end Go.Proofs.Ytflakgigekfgcaa
