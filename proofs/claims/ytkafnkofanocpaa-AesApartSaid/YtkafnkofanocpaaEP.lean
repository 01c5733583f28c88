/-
  Plain facts on blocks, with nothing of the program in them: what is hidden is shown again, what is shown is hidden again.
-/
import Derived.Test.YtkafnkofanocpaaEK
import Derived.Test.YtkafnkofanocpaaEQ
namespace Go.Proofs.Ytkafnkofanocpaa
open Go.RowKit

theorem addL_at (a b : List Nat) {i : Nat} (hi : i < 16) : (addL a b).getD i 0 = a.getD i 0 ^^^ b.getD i 0 := by rw [addL, range16_at, if_pos hi]
theorem eachL_at (t b : List Nat) {i : Nat} (hi : i < 16) : (eachL t b).getD i 0 = t.getD (b.getD i 0) 0 := by rw [eachL, range16_at, if_pos hi]
theorem movL_at (t : Nat) (b : List Nat) {i : Nat} (hi : i < 16) : (movL t b).getD i 0 = b.getD ((i + 4 * t * (i % 4)) % 16) 0 := by rw [movL, range16_at, if_pos hi]

theorem add_add {a b : List Nat} (ha : Blk a) (hb : Blk b) : addL (addL a b) b = a :=
  blk_ext ((ha.add hb).add hb) ha fun i hi => by rw [addL_at _ _ hi, addL_at _ _ hi, Nat.xor_assoc, Nat.xor_self, Nat.xor_zero]
theorem each_back {b : List Nat} (hb : Blk b) : eachL bkT (eachL swT b) = b :=
  blk_ext (eachL_blk bk_lt _) hb fun i hi => by rw [eachL_at _ _ hi, eachL_at _ _ hi, bk_sw (hb.lt i)]
theorem each_forth {b : List Nat} (hb : Blk b) : eachL swT (eachL bkT b) = b :=
  blk_ext (eachL_blk sw_lt _) hb fun i hi => by rw [eachL_at _ _ hi, eachL_at _ _ hi, sw_bk (hb.lt i)]
theorem mov_back {b : List Nat} (hb : Blk b) : movL 3 (movL 1 b) = b :=
  blk_ext ((hb.mov 1).mov 3) hb fun i hi => by
    rw [movL_at _ _ hi, movL_at _ _ (by omega)]
    congr 1
    omega
theorem mov_forth {b : List Nat} (hb : Blk b) : movL 1 (movL 3 b) = b :=
  blk_ext ((hb.mov 3).mov 1) hb fun i hi => by
    rw [movL_at _ _ hi, movL_at _ _ (by omega)]
    congr 1
    omega

/-- a byte of a mixed column -/
def mx4 (p q r s a b c d : Nat) : Nat := (((0 ^^^ tmF a p) ^^^ tmF b q) ^^^ tmF c r) ^^^ tmF d s
theorem mixL_is (p q r s k0 k1 k2 k3 k4 k5 k6 k7 k8 k9 k10 k11 k12 k13 k14 k15 : Nat) : mixL [p, q, r, s] [k0, k1, k2, k3, k4, k5, k6, k7, k8, k9, k10, k11, k12, k13, k14, k15] =
    [mx4 p q r s k0 k1 k2 k3, mx4 p q r s k1 k2 k3 k0, mx4 p q r s k2 k3 k0 k1, mx4 p q r s k3 k0 k1 k2,
     mx4 p q r s k4 k5 k6 k7, mx4 p q r s k5 k6 k7 k4, mx4 p q r s k6 k7 k4 k5, mx4 p q r s k7 k4 k5 k6,
     mx4 p q r s k8 k9 k10 k11, mx4 p q r s k9 k10 k11 k8, mx4 p q r s k10 k11 k8 k9, mx4 p q r s k11 k8 k9 k10,
     mx4 p q r s k12 k13 k14 k15, mx4 p q r s k13 k14 k15 k12, mx4 p q r s k14 k15 k12 k13, mx4 p q r s k15 k12 k13 k14] := by kernel_rfl

theorem mx4_tm {a b c d : Nat} (ha : a < 256) (hb : b < 256) (hc : c < 256) (hd : d < 256) {p q r s : Nat} (hp : p < 256) (hq : q < 256) (hr : r < 256) (hs : s < 256) (k : Nat) :
    tmF (mx4 p q r s a b c d) k = ((tmF a (tmF p k) ^^^ tmF b (tmF q k)) ^^^ tmF c (tmF r k)) ^^^ tmF d (tmF s k) := by
  have h1 := tmF_lt p ha
  have h2 := tmF_lt q hb
  have h3 := tmF_lt r hc
  have h4 := tmF_lt s hd
  rw [mx4, Nat.zero_xor, tm_xor_left k (xor_lt8 (xor_lt8 h1 h2) h3) h4, tm_xor_left k (xor_lt8 h1 h2) h3, tm_xor_left k h1 h2, tm_assoc ha hp, tm_assoc hb hq, tm_assoc hc hr, tm_assoc hd hs]

theorem xor_sixteen (a1 a2 a3 a4 b1 b2 b3 b4 c1 c2 c3 c4 d1 d2 d3 d4 : Nat) :
    (((((a1 ^^^ b1) ^^^ c1) ^^^ d1) ^^^ (((b2 ^^^ c2) ^^^ d2) ^^^ a2)) ^^^ (((c3 ^^^ d3) ^^^ a3) ^^^ b3)) ^^^ (((d4 ^^^ a4) ^^^ b4) ^^^ c4) =
    ((a1 ^^^ (a2 ^^^ (a3 ^^^ a4))) ^^^ (b1 ^^^ (b2 ^^^ (b3 ^^^ b4)))) ^^^ ((c1 ^^^ (c2 ^^^ (c3 ^^^ c4))) ^^^ (d1 ^^^ (d2 ^^^ (d3 ^^^ d4)))) := by
  ac_rfl

theorem mx4_comp {a b c d : Nat} (ha : a < 256) (hb : b < 256) (hc : c < 256) (hd : d < 256) {p q r s : Nat} (hp : p < 256) (hq : q < 256) (hr : r < 256) (hs : s < 256) (P Q R S : Nat)
    (e1 : tmF p P ^^^ (tmF s Q ^^^ (tmF r R ^^^ tmF q S)) = 1) (e2 : tmF q P ^^^ (tmF p Q ^^^ (tmF s R ^^^ tmF r S)) = 0) (e3 : tmF r P ^^^ (tmF q Q ^^^ (tmF p R ^^^ tmF s S)) = 0) (e4 : tmF s P ^^^ (tmF r Q ^^^ (tmF q R ^^^ tmF p S)) = 0) :
    mx4 P Q R S (mx4 p q r s a b c d) (mx4 p q r s b c d a) (mx4 p q r s c d a b) (mx4 p q r s d a b c) = a := by
  rw [mx4, mx4_tm ha hb hc hd hp hq hr hs, mx4_tm hb hc hd ha hp hq hr hs, mx4_tm hc hd ha hb hp hq hr hs, mx4_tm hd ha hb hc hp hq hr hs, Nat.zero_xor, xor_sixteen]
  rw [← tm_xor_right a (tmF r R), ← tm_xor_right a (tmF s Q), ← tm_xor_right a (tmF p P), e1]
  rw [← tm_xor_right b (tmF s R), ← tm_xor_right b (tmF p Q), ← tm_xor_right b (tmF q P), e2]
  rw [← tm_xor_right c (tmF p R), ← tm_xor_right c (tmF q Q), ← tm_xor_right c (tmF r P), e3]
  rw [← tm_xor_right d (tmF q R), ← tm_xor_right d (tmF r Q), ← tm_xor_right d (tmF s P), e4]
  rw [tm_one ha, tm_zero, tm_zero, tm_zero]
  simp

theorem mix_there (p q r s P Q R S : Nat) (hp : p < 256) (hq : q < 256) (hr : r < 256) (hs : s < 256)
    (e1 : tmF p P ^^^ (tmF s Q ^^^ (tmF r R ^^^ tmF q S)) = 1) (e2 : tmF q P ^^^ (tmF p Q ^^^ (tmF s R ^^^ tmF r S)) = 0) (e3 : tmF r P ^^^ (tmF q Q ^^^ (tmF p R ^^^ tmF s S)) = 0) (e4 : tmF s P ^^^ (tmF r Q ^^^ (tmF q R ^^^ tmF p S)) = 0)
    {b : List Nat} (hb : Blk b) : mixL [P, Q, R, S] (mixL [p, q, r, s] b) = b := by
  have hl := hb.lt
  obtain ⟨k0, k1, k2, k3, k4, k5, k6, k7, k8, k9, k10, k11, k12, k13, k14, k15, rfl⟩ := blk_split hb.len
  have l0 : k0 < 256 := hl 0
  have l1 : k1 < 256 := hl 1
  have l2 : k2 < 256 := hl 2
  have l3 : k3 < 256 := hl 3
  have l4 : k4 < 256 := hl 4
  have l5 : k5 < 256 := hl 5
  have l6 : k6 < 256 := hl 6
  have l7 : k7 < 256 := hl 7
  have l8 : k8 < 256 := hl 8
  have l9 : k9 < 256 := hl 9
  have l10 : k10 < 256 := hl 10
  have l11 : k11 < 256 := hl 11
  have l12 : k12 < 256 := hl 12
  have l13 : k13 < 256 := hl 13
  have l14 : k14 < 256 := hl 14
  have l15 : k15 < 256 := hl 15
  have C := fun {a b c d : Nat} (ha : a < 256) (hb : b < 256) (hc : c < 256) (hd : d < 256) => mx4_comp ha hb hc hd hp hq hr hs P Q R S e1 e2 e3 e4
  rw [mixL_is, mixL_is, C l0 l1 l2 l3, C l1 l2 l3 l0, C l2 l3 l0 l1, C l3 l0 l1 l2, C l4 l5 l6 l7, C l5 l6 l7 l4, C l6 l7 l4 l5, C l7 l4 l5 l6,
    C l8 l9 l10 l11, C l9 l10 l11 l8, C l10 l11 l8 l9, C l11 l8 l9 l10, C l12 l13 l14 l15, C l13 l14 l15 l12, C l14 l15 l12 l13, C l15 l12 l13 l14]

theorem mix_back {b : List Nat} (hb : Blk b) : mixL [14, 11, 13, 9] (mixL [2, 3, 1, 1] b) = b :=
  mix_there 2 3 1 1 14 11 13 9 (by omega) (by omega) (by omega) (by omega) (by decide +kernel) (by decide +kernel) (by decide +kernel) (by decide +kernel) hb
theorem mix_forth {b : List Nat} (hb : Blk b) : mixL [2, 3, 1, 1] (mixL [14, 11, 13, 9] b) = b :=
  mix_there 14 11 13 9 2 3 1 1 (by omega) (by omega) (by omega) (by omega) (by decide +kernel) (by decide +kernel) (by decide +kernel) (by decide +kernel) hb

/-- what was hidden is shown, round by round -/
theorem sh_hd {f : Nat → List Nat} {b : List Nat} (hf : ∀ j, Blk (f j)) (hb : Blk b) : ∀ k, k ≤ 10 → shF f (hdF f b 10) k = hdF f b (10 - k) := by
  intro k
  induction k with
  | zero => intro _; rfl
  | succ k ih =>
    intro hk
    have hB := hdF_blk hf hb (10 - (k + 1))
    have hE := eachL_blk sw_lt (hdF f b (10 - (k + 1)))
    have hM := hE.mov 1
    have e : hdF f b (10 - k) = addL (if 10 - k < 10 then mixL [2, 3, 1, 1] (movL 1 (eachL swT (hdF f b (10 - (k + 1))))) else movL 1 (eachL swT (hdF f b (10 - (k + 1))))) (f (10 - k)) := by
      rw [show 10 - k = (10 - (k + 1)) + 1 by omega, hdF]
    rw [shF, ih (by omega), e]
    by_cases h : 10 - k < 10
    · rw [if_pos h, if_pos h, add_add (hM.mix _) (hf _), mix_back hM, mov_back hE, each_back hB]
    · rw [if_neg h, if_neg h, add_add hM (hf _), mov_back hE, each_back hB]

theorem show_hide {f : Nat → List Nat} {b : List Nat} (hf : ∀ j, Blk (f j)) (hb : Blk b) : addL (shF f (hdF f b 10) 10) (f 0) = b := by
  rw [sh_hd hf hb 10 (by omega)]
  exact add_add hb (hf 0)

/-- what was shown is hidden, round by round -/
theorem hd_sh {f : Nat → List Nat} {b : List Nat} (hf : ∀ j, Blk (f j)) (hb : Blk b) : ∀ r, r ≤ 10 → hdF f (addL (shF f b 10) (f 0)) r = shF f b (10 - r) := by
  intro r
  induction r with
  | zero => intro _; exact add_add (shF_blk hb 10) (hf 0)
  | succ r ih =>
    intro hr
    have hS := shF_blk (f := f) hb (10 - (r + 1))
    have hA := hS.add (hf (r + 1))
    have e : shF f b (10 - r) = eachL bkT (movL 3 (if r + 1 < 10 then mixL [14, 11, 13, 9] (addL (shF f b (10 - (r + 1))) (f (r + 1))) else addL (shF f b (10 - (r + 1))) (f (r + 1)))) := by
      have e1 : 10 - r = (10 - (r + 1)) + 1 := by omega
      have e2 : 10 - (10 - (r + 1)) = r + 1 := by omega
      rw [e1, shF, e2]
    rw [hdF, ih (by omega), e]
    by_cases h : r + 1 < 10
    · rw [if_pos h, if_pos h, each_forth ((hA.mix _).mov 3), mov_forth (hA.mix _), mix_forth hA, add_add hS (hf _)]
    · rw [if_neg h, if_neg h, each_forth (hA.mov 3), mov_forth hA, add_add hS (hf _)]

theorem hide_show {f : Nat → List Nat} {b : List Nat} (hf : ∀ j, Blk (f j)) (hb : Blk b) : hdF f (addL (shF f b 10) (f 0)) 10 = b := hd_sh hf hb 10 (by omega)

end Go.Proofs.Ytkafnkofanocpaa
