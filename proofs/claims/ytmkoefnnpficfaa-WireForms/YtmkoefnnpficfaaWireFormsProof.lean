/-
  Proved here: the forms of any number, any fixed one, any text are the document's, and new each time (whatever the number, the size and the text; texts of more than 5000 bytes are let go).
-/
import Derived.Test.YtmkoefnnpficfaaRows
import Derived.Test.YtmkoefnnpficfaaWQ
import Derived.ProofKit
import Derived.OpenShut
import Derived.ShutString
import Derived.ChangeOld
import Derived.Below
import Derived.Deep.RegionWith
import Derived.Deep.DrawnRows
import Derived.Deep.LoopGhost
namespace Go.Proofs.Ytmkoefnnpficfaa
namespace WireFormsProof
open Go.ChangeShapes Go.WideShapes Go.ChangeAt Go.RowKit
set_option linter.unusedVariables false
set_option linter.unusedSimpArgs false
attribute [local go_sem ↓] Go.wp_at_zero Go.wp_at_succ

theorem wf_u64 {a : Int} (h : (Lit.int .u64 a).wf = true) : ∃ n : Nat, a = n ∧ n < 18446744073709551616 := by
  have := bounds_u64 h
  exact ⟨a.toNat, by omega, by omega⟩

def fixI (s : Int) (n : Nat) : List Int := if 1 ≤ s ∧ s ≤ 8 then fixF s.toNat n else []

theorem fixI_bytes (s : Int) (n : Nat) : ∀ x ∈ fixI s n, 0 ≤ x ∧ x < 256 := by
  unfold fixI
  split
  · exact fixF_bytes _ _
  · intro x hx; simp at hx

theorem fixed_all (n : Nat) (hn : n < 18446744073709551616) (s : Int) (w : World) :
    Calls Try.prog 11 #[.int .u64 n, .int .i64 s] w fun e w' => ∃ v, e = .returned v ∧ w'.ownsRow w.heap.size 5 1 v (fixI s n).length ((fixI s n).map (Value.int .u8)) ∧ Below w.heap.size w w' := by
  by_cases h : 1 ≤ s ∧ s ≤ 8
  · have e1 : fixI s n = fixF s.toNat n := by rw [fixI, if_pos h]
    obtain ⟨k, rfl⟩ := Int.eq_ofNat_of_zero_le (show 0 ≤ s by omega)
    rw [e1, Int.toNat_natCast, fixF_length]
    exact fixed_in n k hn (by omega) (by omega) w
  · have e1 : fixI s n = [] := by rw [fixI, if_neg h]
    rw [e1]
    refine (fixed_out n s h w).mono ?_
    rintro e w' ⟨rfl, rfl⟩
    exact ⟨_, rfl, World.ownsRow_nil _ _ _ _, Below.refl _ _⟩

theorem reffix_conv (n : Nat) (hn : n < 18446744073709551616) (s : Int) (w : World) :
    Calls Try.prog 14 #[.int .u64 n, .int .i64 s] w fun e w' => ∃ p c k, e = .returned (.slice p k c) ∧ Hid (k = (fixI s n).length) ∧ Below w.heap.size w w' ∧
      (∀ w2, Below w'.heap.size w' w2 → (convert 23 9 (.slice p k c)).run Try.prog w2 = .ok (.string (strOfNums (fixI s n))) w2) := by
  have key : Calls Try.prog 14 #[.int .u64 n, .int .i64 s] w fun e w' => ∃ v, e = .returned v ∧ w'.ownsRow w.heap.size 5 1 v (fixI s n).length ((fixI s n).map (Value.int .u8)) ∧ Below w.heap.size w w' := by
    by_cases h : 1 ≤ s ∧ s ≤ 8
    · have e1 : fixI s n = fixF s.toNat n := by rw [fixI, if_pos h]
      obtain ⟨k, rfl⟩ := Int.eq_ofNat_of_zero_le (show 0 ≤ s by omega)
      rw [e1, Int.toNat_natCast, fixF_length]
      exact reffix_in n k hn (by omega) (by omega) w
    · have e1 : fixI s n = [] := by rw [fixI, if_neg h]
      rw [e1]
      refine (reffix_out n s h w).mono ?_
      rintro e w' ⟨rfl, rfl⟩
      exact ⟨_, rfl, World.ownsRow_nil _ _ _ _, Below.refl _ _⟩
  refine key.mono ?_
  rintro e w' ⟨v, rfl, hown, hb⟩
  obtain ⟨q, c, rfl, _, _, hq, _⟩ := own_bytes hown (fixI_bytes s n)
  exact ⟨q, c, _, rfl, rfl, hb, fun w2 h2 => conv_any (bytes_kept hq (below_grown h2 none) (fun a _ => by simp)) _ c rfl⟩

theorem refnum_conv (n : Nat) (hn : n < 18446744073709551616) (w : World) :
    Calls Try.prog 13 #[.int .u64 n] w fun e w' => ∃ p c k, e = .returned (.slice p k c) ∧ Hid (k = (numF n).length) ∧ Below w.heap.size w w' ∧
      (∀ w2, Below w'.heap.size w' w2 → (convert 23 9 (.slice p k c)).run Try.prog w2 = .ok (.string (strOfNums (numF n))) w2) := by
  refine (refnum_any n hn w).mono ?_
  rintro e w' ⟨v, rfl, hown, hb⟩
  obtain ⟨q, c, rfl, _, _, hq, _⟩ := own_bytes hown (numF_bytes n)
  exact ⟨q, c, _, rfl, rfl, hb, fun w2 h2 => conv_any (bytes_kept hq (below_grown h2 none) (fun a _ => by simp)) _ c rfl⟩

theorem reftext_conv (p : Option Addr) (cap : Nat) (xs : List Int) (w : World) (ha : Arg w p cap xs) (hl : xs.length ≤ 900000) :
    Calls Try.prog 15 #[.slice p xs.length cap] w fun e w' => ∃ q c k, e = .returned (.slice q k c) ∧ Hid (k = (txtF xs).length) ∧ Below w.heap.size w w' ∧
      (∀ w2, Below w'.heap.size w' w2 → (convert 23 9 (.slice q k c)).run Try.prog w2 = .ok (.string (strOfNums (txtF xs))) w2) := by
  refine (reftext_any p cap xs w ha hl).mono ?_
  rintro e w' ⟨v, rfl, hown, hb⟩
  obtain ⟨q, c, rfl, _, _, hq, _⟩ := own_bytes hown (txtF_bytes ha.1.1)
  exact ⟨q, c, _, rfl, rfl, hb, fun w2 h2 => conv_any (bytes_kept hq (below_grown h2 none) (fun a _ => by simp)) _ c rfl⟩

set_option maxHeartbeats 2000000 in
set_option maxRecDepth 100000 in
theorem walk_nat (n : Nat) (hn : n < 18446744073709551616) (s : Int) (p : Option Addr) (cp : Nat) (xs : List Int) (w : World) (ha : Arg w p cp xs) :
    Calls Try.prog 3 #[.int .u64 n, .int .i64 s, .slice p xs.length cp] w fun e w' => e = .returned (.bool true) ∧ Below w.heap.size w w' := by
  have HA := hide ha
  clear ha
  have hs1 := numF_short n hn
  generalize hlx : xs.length = lx at *
  have HLX := hide hlx
  clear hlx
  go_enter Try.func3, Try.ntmps3
  go_wp2_with fail
  refine (known_any _).mono ?_
  rintro e w1 ⟨rfl, hb1⟩
  have HB1 := hide hb1
  clear hb1
  by_cases hbig : 5000 < lx
  · go_wp2
    go_ret
    exact ⟨rfl, HB1.out⟩
  have hno : decide ((5000 : Int) < (lx : Int)) = false := by simp; omega
  have hs3 : (txtF xs).length ≤ 5010 ∧ 1 ≤ (txtF xs).length := by
    have := numF_short xs.length (by rw [HLX.out]; omega)
    have := HLX.out
    simp [txtF]; omega
  have hA1 : Arg w1 p cp xs := ⟨bytes_kept HA.out.1 (below_grown HB1.out none) (fun a _ => by simp), HA.out.2⟩
  have HA1 := hide hA1
  clear hA1
  go_wp2_with (at_builtin; refine wpList_append_bytes rfl (.tmp 18) (.tmp 19) rfl w1.heap.size _ [] rfl 0 rfl (World.ownsRow_made w1 #[] 0 (Nat.le_refl _) (Nat.zero_le _) rfl) p lx cp xs HLX.out rfl ?h1 HA1.out.2.2.2 ?h3 ?h4 ?_)
  case h1 => exact bytes_kept HA1.out.1 (World.grownBy_alloc w1 _ none) (fun a _ => by simp)
  case h3 => omega
  case h4 => simp
  intro vk w2 zk kk hzk hkk hok hgk _
  obtain rfl : zk = xs := by simpa using hzk.out
  obtain rfl : kk = lx := by rw [← hkk.out]; exact HLX.out
  have hb12 : Below w1.heap.size w1 w2 := ((Below.refl _ w1).alloc (Nat.le_refl _) _).trans (grown_below hgk (by simp) (by intro k hk; simp [Value.ownBlock] at hk; omega))
  have HB2 := hide (HB1.out.trans (hb12.mono HB1.out.size))
  obtain ⟨qk, ck, hvk, _, _, hqk, hqb⟩ := own_bytes (xs := zk) (by rw [HLX.out]; exact hok) HA.out.1.1
  rw [HLX.out] at hvk
  subst hvk
  have HQK := hide hqk
  have HQB := hide hqb
  clear hzk hkk hok hgk hb12 hqk hqb HA1 HB1
  go_wp2_with fail
  refine (num_any n hn _).mono ?_
  rintro e w3 ⟨v1, rfl, ho1, hb⟩
  have HB3 := hide (HB2.out.trans (hb.mono HB2.out.size))
  have HO1 := hide ho1
  have HQK3 := hide (bytes_kept HQK.out (below_grown hb none) (fun a _ => by simp))
  have hs23 : w2.heap.size ≤ w3.heap.size := hb.size
  have hw2 : w.heap.size ≤ w2.heap.size := HB2.out.size
  clear ho1 hb HB2 HQK
  go_wp2_with fail
  refine (fixed_all n hn s _).mono ?_
  rintro e w4 ⟨v2, rfl, ho2, hb⟩
  have HB4 := hide (HB3.out.trans (hb.mono HB3.out.size))
  have HO14 := hide (own_below HO1.out hb)
  have HQK4 := hide (bytes_kept HQK3.out (below_grown hb none) (fun a _ => by simp))
  have hs34 : w3.heap.size ≤ w4.heap.size := hb.size
  obtain ⟨q2, c2, rfl, _, _, hq2, _⟩ := own_bytes ho2 (fixI_bytes s n)
  have HQ2 := hide hq2
  clear ho2 hb HB3 HO1 HQK3 hq2
  have hA4 : Arg w4 p cp zk := ⟨bytes_kept HA.out.1 (below_grown HB4.out none) (fun a _ => by simp), HA.out.2⟩
  have htx := text_any p cp zk w4 hA4 (by rw [HLX.out]; omega)
  rw [HLX.out] at htx
  have HTX := hide htx
  clear htx hA4
  go_wp2_with fail
  refine (show Calls _ _ _ _ _ from HTX.out).mono ?_
  rintro e w5 ⟨v3, rfl, ho3, hb⟩
  have HB5 := hide (HB4.out.trans (hb.mono HB4.out.size))
  have HO15 := hide (own_below HO14.out hb)
  have HQK5 := hide (bytes_kept HQK4.out (below_grown hb none) (fun a _ => by simp))
  have HQ25 := hide (bytes_kept HQ2.out (below_grown hb none) (fun a _ => by simp))
  have HO35 := hide ho3
  obtain ⟨g1, c1, rfl, hg1, hg1s, _, _⟩ := own_shape HO15.out (by omega)
  obtain ⟨g3, c3, rfl, hg3, hg3s, _, _⟩ := own_shape HO35.out (by omega)
  have hg13 : g1 < g3 := by
    have := (HO14.out.lt g1 rfl).2
    omega
  have ha1 : BytesIn w5 (some ⟨g1, 0, none⟩) (numF n) := by
    obtain ⟨_, _, e1, _, _, h1, _⟩ := own_bytes HO15.out (numF_bytes n)
    cases e1; exact h1
  have ha3 : BytesIn w5 (some ⟨g3, 0, none⟩) (txtF zk) := by
    obtain ⟨_, _, e1, _, _, h1, _⟩ := own_bytes HO35.out (txtF_bytes HA.out.1.1)
    cases e1; exact h1
  clear ho3 hb HB4 HO14 HQK4 HQ2 HTX
  have HC1 : Hid (∀ w', Hid (Below w5.heap.size w5 w') → (convert 23 9 (.slice (some ⟨g1, 0, none⟩) (numF n).length c1)).run Try.prog w' = .ok (.string (strOfNums (numF n))) w') := fun w' hb => conv_any (bytes_kept ha1 (below_grown hb.out none) (fun a _ => by simp)) _ c1 rfl
  have HC2 : Hid (∀ w', Hid (Below w5.heap.size w5 w') → (convert 23 9 (.slice q2 (fixI s n).length c2)).run Try.prog w' = .ok (.string (strOfNums (fixI s n))) w') := fun w' hb => conv_any (bytes_kept HQ25.out (below_grown hb.out none) (fun a _ => by simp)) _ c2 rfl
  have HC3 : Hid (∀ w', Hid (Below w5.heap.size w5 w') → (convert 23 9 (.slice (some ⟨g3, 0, none⟩) (txtF zk).length c3)).run Try.prog w' = .ok (.string (strOfNums (txtF zk))) w') := fun w' hb => conv_any (bytes_kept ha3 (below_grown hb.out none) (fun a _ => by simp)) _ c3 rfl
  have C1 := hide (fun w' => refnum_conv n hn w')
  have C2 := hide (fun w' => reffix_conv n hn s w')
  have C3 : Hid (∀ w', Hid (Below w5.heap.size w5 w') → Calls Try.prog 15 #[.slice p kk cp] w' fun e w'' => ∃ q c k, e = .returned (.slice q k c) ∧ Hid (k = (txtF zk).length) ∧ Below w'.heap.size w' w'' ∧
      (∀ w2, Below w''.heap.size w'' w2 → (convert 23 9 (.slice q k c)).run Try.prog w2 = .ok (.string (strOfNums (txtF zk))) w2)) := fun w' hb => by
    have h := reftext_conv p cp zk w' ⟨bytes_kept HA.out.1 (below_grown (HB5.out.trans (hb.out.mono HB5.out.size)) none) (fun a _ => by simp), HA.out.2⟩ (by rw [HLX.out]; omega)
    rw [HLX.out] at h
    exact h
  clear ha1 ha3 HQ25
  generalize strOfNums (numF n) = S1 at *
  generalize strOfNums (fixI s n) = S2 at *
  generalize strOfNums (txtF zk) = S3 at *
  generalize hl1 : (numF n).length = l1 at *
  generalize hl3 : (txtF zk).length = l3 at *
  have HL1 := hide hl1
  have HL3 := hide hl3
  clear hl1 hl3
  go_wp2_with fail
  refine wp_region_held_drew (S := fun w' => Hid (Below w5.heap.size w5 w')) (by kernel_rfl) (hide (Below.refl w5.heap.size w5).drew) (fun hHeld => ?_)
  refine take_dstH (i := 0) (d := 28) (v := ?_) rfl rfl (by kernel_rfl) (by kernel_rfl) (by kernel_rfl) (fun _ _ _ h => h) (by rfl) hHeld ?_ ?_
  rotate_left
  · intro w hSw; clear hSw; go_simp; try (with_reducible rfl)
  try simp only [Act.put, List.setIfInBounds_toArray, List.set_cons_zero, List.set_cons_succ]
  refine take_dstH (i := 1) (d := 29) (v := ?_) rfl rfl (by kernel_rfl) (by kernel_rfl) (by kernel_rfl) (fun _ _ _ h => h) (by rfl) hHeld ?_ ?_
  rotate_left
  · intro w hSw; have hfS := HC1.out w hSw; clear hSw; go_simp; try (with_reducible rfl)
  try simp only [Act.put, List.setIfInBounds_toArray, List.set_cons_zero, List.set_cons_succ]
  refine take_dstH (i := 2) (d := 30) (v := ?_) rfl rfl (by kernel_rfl) (by kernel_rfl) (by kernel_rfl) (fun _ _ _ h => h) (by rfl) hHeld ?_ ?_
  rotate_left
  · intro w hSw; clear hSw; go_simp; try (with_reducible rfl)
  try simp only [Act.put, List.setIfInBounds_toArray, List.set_cons_zero, List.set_cons_succ]
  refine wpAnyH_ready (rs := [3]) (by kernel_rfl) (by simp) ?_
  refine (AllReadyH.cons rfl (fun K hK => ?_) AllReadyH.nil)
  go_simp
  refine (C1.out _).mono ?_; rintro e wa ⟨pa, ca, ka, rfl, hka, hba, hca⟩; have HBa : Hid (Below w5.heap.size w5 wa) := (Hid.out hHeld).trans (hba.mono (Hid.out hHeld).size); have hda := hca _ (Below.refl _ _); clear hca hba
  go_wp2_with fail
  refine hK.out _ _ ?_ (fun hHeld => ?_)
  · exact HBa
  clear hK K
  try simp only [Act.put, List.setIfInBounds_toArray, List.set_cons_zero, List.set_cons_succ]
  refine wpAnyH_ready (rs := [4]) (by kernel_rfl) (by simp) ?_
  refine (AllReadyH.cons rfl (fun K hK => ?_) AllReadyH.nil)
  go_simp
  refine hK.out _ _ ?_ (fun hHeld => ?_)
  · exact hHeld
  clear hK K
  try simp only [Act.put, List.setIfInBounds_toArray, List.set_cons_zero, List.set_cons_succ]
  refine take_dstH (i := 5) (d := 33) (v := ?_) rfl rfl (by kernel_rfl) (by kernel_rfl) (by kernel_rfl) (fun _ _ _ h => h) (by rfl) hHeld ?_ ?_
  rotate_left
  · intro w hSw; clear hSw; go_simp; try (with_reducible rfl)
  try simp only [Act.put, List.setIfInBounds_toArray, List.set_cons_zero, List.set_cons_succ]
  refine take_dstH (i := 6) (d := 34) (v := ?_) rfl rfl (by kernel_rfl) (by kernel_rfl) (by kernel_rfl) (fun _ _ _ h => h) (by rfl) hHeld ?_ ?_
  rotate_left
  · intro w hSw; clear hSw; go_simp; try (with_reducible rfl)
  try simp only [Act.put, List.setIfInBounds_toArray, List.set_cons_zero, List.set_cons_succ]
  refine take_dstH (i := 7) (d := 35) (v := ?_) rfl rfl (by kernel_rfl) (by kernel_rfl) (by kernel_rfl) (fun _ _ _ h => h) (by rfl) hHeld ?_ ?_
  rotate_left
  · intro w hSw; clear hSw; go_simp; try (with_reducible rfl)
  try simp only [Act.put, List.setIfInBounds_toArray, List.set_cons_zero, List.set_cons_succ]
  refine take_dstH (i := 8) (d := 36) (v := ?_) rfl rfl (by kernel_rfl) (by kernel_rfl) (by kernel_rfl) (fun _ _ _ h => h) (by rfl) hHeld ?_ ?_
  rotate_left
  · intro w hSw; have hfS := HC2.out w hSw; clear hSw; go_simp; try (with_reducible rfl)
  try simp only [Act.put, List.setIfInBounds_toArray, List.set_cons_zero, List.set_cons_succ]
  refine take_dstH (i := 9) (d := 37) (v := ?_) rfl rfl (by kernel_rfl) (by kernel_rfl) (by kernel_rfl) (fun _ _ _ h => h) (by rfl) hHeld ?_ ?_
  rotate_left
  · intro w hSw; clear hSw; go_simp; try (with_reducible rfl)
  try simp only [Act.put, List.setIfInBounds_toArray, List.set_cons_zero, List.set_cons_succ]
  refine take_dstH (i := 10) (d := 38) (v := ?_) rfl rfl (by kernel_rfl) (by kernel_rfl) (by kernel_rfl) (fun _ _ _ h => h) (by rfl) hHeld ?_ ?_
  rotate_left
  · intro w hSw; clear hSw; go_simp; try (with_reducible rfl)
  try simp only [Act.put, List.setIfInBounds_toArray, List.set_cons_zero, List.set_cons_succ]
  refine wpAnyH_ready (rs := [11]) (by kernel_rfl) (by simp) ?_
  refine (AllReadyH.cons rfl (fun K hK => ?_) AllReadyH.nil)
  go_simp
  clear hda; refine (C2.out _).mono ?_; rintro e wb ⟨pb, cb, kb, rfl, hkb, hbb, hcb⟩; have HBb : Hid (Below w5.heap.size w5 wb) := HBa.out.trans (hbb.mono HBa.out.size); have hdb := hcb _ (Below.refl _ _); clear hcb hbb
  go_wp2_with fail
  refine hK.out _ _ ?_ (fun hHeld => ?_)
  · exact HBb
  clear hK K
  try simp only [Act.put, List.setIfInBounds_toArray, List.set_cons_zero, List.set_cons_succ]
  refine wpAnyH_ready (rs := [12]) (by kernel_rfl) (by simp) ?_
  refine (AllReadyH.cons rfl (fun K hK => ?_) AllReadyH.nil)
  go_simp
  refine hK.out _ _ ?_ (fun hHeld => ?_)
  · exact hHeld
  clear hK K
  try simp only [Act.put, List.setIfInBounds_toArray, List.set_cons_zero, List.set_cons_succ]
  refine take_dstH (i := 13) (d := 41) (v := ?_) rfl rfl (by kernel_rfl) (by kernel_rfl) (by kernel_rfl) (fun _ _ _ h => h) (by rfl) hHeld ?_ ?_
  rotate_left
  · intro w hSw; clear hSw; go_simp; try (with_reducible rfl)
  try simp only [Act.put, List.setIfInBounds_toArray, List.set_cons_zero, List.set_cons_succ]
  refine take_dstH (i := 14) (d := 42) (v := ?_) rfl rfl (by kernel_rfl) (by kernel_rfl) (by kernel_rfl) (fun _ _ _ h => h) (by rfl) hHeld ?_ ?_
  rotate_left
  · intro w hSw; clear hSw; go_simp; try (with_reducible rfl)
  try simp only [Act.put, List.setIfInBounds_toArray, List.set_cons_zero, List.set_cons_succ]
  refine take_dstH (i := 15) (d := 43) (v := ?_) rfl rfl (by kernel_rfl) (by kernel_rfl) (by kernel_rfl) (fun _ _ _ h => h) (by rfl) hHeld ?_ ?_
  rotate_left
  · intro w hSw; clear hSw; go_simp; try (with_reducible rfl)
  try simp only [Act.put, List.setIfInBounds_toArray, List.set_cons_zero, List.set_cons_succ]
  refine take_dstH (i := 16) (d := 44) (v := ?_) rfl rfl (by kernel_rfl) (by kernel_rfl) (by kernel_rfl) (fun _ _ _ h => h) (by rfl) hHeld ?_ ?_
  rotate_left
  · intro w hSw; clear hSw; go_simp; try (with_reducible rfl)
  try simp only [Act.put, List.setIfInBounds_toArray, List.set_cons_zero, List.set_cons_succ]
  refine take_dstH (i := 17) (d := 45) (v := ?_) rfl rfl (by kernel_rfl) (by kernel_rfl) (by kernel_rfl) (fun _ _ _ h => h) (by rfl) hHeld ?_ ?_
  rotate_left
  · intro w hSw; have hfS := HC3.out w hSw; clear hSw; go_simp; try (with_reducible rfl)
  try simp only [Act.put, List.setIfInBounds_toArray, List.set_cons_zero, List.set_cons_succ]
  refine take_dstH (i := 18) (d := 46) (v := ?_) rfl rfl (by kernel_rfl) (by kernel_rfl) (by kernel_rfl) (fun _ _ _ h => h) (by rfl) hHeld ?_ ?_
  rotate_left
  · intro w hSw; clear hSw; go_simp; try (with_reducible rfl)
  try simp only [Act.put, List.setIfInBounds_toArray, List.set_cons_zero, List.set_cons_succ]
  refine wpAnyH_ready (rs := [19]) (by kernel_rfl) (by simp) ?_
  refine (AllReadyH.cons rfl (fun K hK => ?_) AllReadyH.nil)
  go_simp
  clear hdb; refine (C3.out _ HBb).mono ?_; rintro e wc ⟨pc, cc, kc, rfl, hkc, hbc, hcc⟩; have HBc : Hid (Below w5.heap.size w5 wc) := HBb.out.trans (hbc.mono HBb.out.size); have hdc := hcc _ (Below.refl _ _); clear hcc hbc
  go_wp2_with fail
  refine hK.out _ _ ?_ (fun hHeld => ?_)
  · exact HBc
  clear hK K
  try simp only [Act.put, List.setIfInBounds_toArray, List.set_cons_zero, List.set_cons_succ]
  refine wpAnyH_ready (rs := [20]) (by kernel_rfl) (by simp) ?_
  refine (AllReadyH.cons rfl (fun K hK => ?_) AllReadyH.nil)
  go_simp
  refine hK.out _ _ ?_ (fun hHeld => ?_)
  · exact hHeld
  clear hK K
  try simp only [Act.put, List.setIfInBounds_toArray, List.set_cons_zero, List.set_cons_succ]
  refine take_dstH (i := 21) (d := 49) (v := ?_) rfl rfl (by kernel_rfl) (by kernel_rfl) (by kernel_rfl) (fun _ _ _ h => h) (by rfl) hHeld ?_ ?_
  rotate_left
  · intro w hSw; clear hSw; go_simp; try (with_reducible rfl)
  try simp only [Act.put, List.setIfInBounds_toArray, List.set_cons_zero, List.set_cons_succ]
  refine take_dstH (i := 22) (d := 50) (v := ?_) rfl rfl (by kernel_rfl) (by kernel_rfl) (by kernel_rfl) (fun _ _ _ h => h) (by rfl) hHeld ?_ ?_
  rotate_left
  · intro w hSw; clear hSw; go_simp; try (with_reducible rfl)
  try simp only [Act.put, List.setIfInBounds_toArray, List.set_cons_zero, List.set_cons_succ]
  refine wpAnyH_done (by kernel_rfl) ?_ _
  clear hdc HC1 HC2 HC3 C1 C2 C3
  have HR1 : Hid (wc.ownsRow w2.heap.size 5 1 (.slice (some ⟨g1, 0, none⟩) l1 c1) l1 ((numF n).map (Value.int .u8))) := own_below HO15.out HBc.out
  have HR3 : Hid (wc.ownsRow w4.heap.size 5 1 (.slice (some ⟨g3, 0, none⟩) l3 c3) l3 ((txtF zk).map (Value.int .u8))) := own_below HO35.out HBc.out
  have HQKc := hide (bytes_kept HQK5.out (below_grown HBc.out none) (fun a _ => by simp))
  have HBw := hide (HB5.out.trans (HBc.out.mono HB5.out.size))
  clear HO15 HO35 HQK5 HB5 HBc HBa HBb
  have hg1k : ∀ a, qk = some a → zk = [] ∨ a.block < g1 := fun a ha => by
    have := (HQB.out a ha).2
    right; omega
  have HGK := hide hg1k
  clear hg1k
  go_wp2_with fail
  go_loopg [11] 12 (fun r s11 wx => ∃ (i : Nat) (zs : List Int), s11 = .int .i64 i ∧ i ≤ l1 ∧ l1 - i < r ∧ zs.length = l1 ∧ wx.ownsRow w2.heap.size 5 1 (.slice (some ⟨g1, 0, none⟩) l1 c1) l1 (zs.map (Value.int .u8)) ∧ wc.grownBy wx (some g1))
  case atStart => exact ⟨0, numF n, rfl, by omega, by omega, HL1.out, HR1.out, grown_refl _ _⟩
  case round =>
    obtain ⟨i, zs, rfl, hil, hir, hzl, ho, hg⟩ := hrel
    have HO := hide ho
    have HG := hide hg
    have HZL := hide hzl
    clear hzl hg ho
    by_cases hlt : i < l1
    · have ci := (HO.out.cellAt i (by omega)).trans (map_at_u8 (by rw [HZL.out]; exact hlt))
      have fi := HO.out.frozenAt i
      go_wp2
      go_roundg (l1 - i)
      case measure => omega
      case rel =>
        have h2 := HO.out.stored i (.int .u8 77)
        rw [map_set_u8] at h2
        exact ⟨i + 1, zs.set i 77, by go_num, by omega, by omega, by simpa using HZL.out, h2.1, grown_trans HG.out h2.2⟩
    · have HBx := hide (HBw.out.grown HG.out HBw.out.size (by intro k hk; cases hk; omega))
      have HR3x : Hid (wr.ownsRow w4.heap.size 5 1 (.slice (some ⟨g3, 0, none⟩) l3 c3) l3 ((txtF zk).map (Value.int .u8))) := HR3.out.kept HG.out (Or.inr (by simp [Value.ownBlock]; omega))
      have HQKx := hide (bytes_kept HQKc.out HG.out (fun a ha e => by have := HQB.out a ha; simp at e; omega))
      clear HR1 HR3 HQKc HBw HO HG
      generalize hwl : wr = wl at *
      clear hwl HZL
      go_wp2_with fail
      clear hlt hil hir
      go_loopg [12] 6000 (fun r s12 wx => ∃ (i : Nat) (zs : List Int), s12 = .int .i64 i ∧ i ≤ l3 ∧ l3 - i < r ∧ zs.length = l3 ∧ wx.ownsRow w4.heap.size 5 1 (.slice (some ⟨g3, 0, none⟩) l3 c3) l3 (zs.map (Value.int .u8)) ∧ wl.grownBy wx (some g3))
      case atStart => exact ⟨0, txtF zk, rfl, by omega, by omega, HL3.out, HR3x.out, grown_refl _ _⟩
      case round =>
        obtain ⟨i, zs, rfl, hil, hir, hzl, ho, hg⟩ := hrel
        have HO := hide ho
        have HG := hide hg
        have HZL := hide hzl
        clear hzl hg ho
        by_cases hlt : i < l3
        · have ci := (HO.out.cellAt i (by omega)).trans (map_at_u8 (by rw [HZL.out]; exact hlt))
          have fi := HO.out.frozenAt i
          go_wp2
          go_roundg (l3 - i)
          case measure => omega
          case rel =>
            have h2 := HO.out.stored i (.int .u8 77)
            rw [map_set_u8] at h2
            exact ⟨i + 1, zs.set i 77, by go_num, by omega, by omega, by simpa using HZL.out, h2.1, grown_trans HG.out h2.2⟩
        · have HBy := hide (HBx.out.grown HG.out HBx.out.size (by intro k hk; cases hk; omega))
          have HQKy := hide (bytes_kept HQKx.out HG.out (fun a ha e => by have := HQB.out a ha; simp at e; omega))
          clear HBx HR3x HQKx HO HG HZL HQB HGK
          generalize hwm : wr = wm at *
          clear hwm
          have HCS : Hid (∀ w', Hid (Below wm.heap.size wm w') → (convert 23 9 (.slice p kk cp)).run Try.prog w' = .ok (.string (strOfNums zk)) w') := fun w' hb => conv_any (bytes_kept HA.out.1 (below_grown (HBy.out.trans (hb.out.mono HBy.out.size)) none) (fun a _ => by simp)) _ cp HLX.out
          have HCK : Hid (∀ w', Hid (Below wm.heap.size wm w') → (convert 23 9 (.slice qk kk ck)).run Try.prog w' = .ok (.string (strOfNums zk)) w') := fun w' hb => conv_any (bytes_kept HQKy.out (below_grown hb.out none) (fun a _ => by simp)) _ ck HLX.out
          generalize strOfNums zk = SK at *
          have C1 := hide (fun w' => num_conv n hn w')
          have C2 := hide (fun w' => refnum_conv n hn w')
          clear HQKy
          go_wp2
          clear hlt hil hir
          refine wp_region_held_drew (S := fun w' => Hid (Below wm.heap.size wm w')) (by kernel_rfl) (hide (Below.refl wm.heap.size wm).drew) (fun hHeld => ?_)
          refine take_dstH (i := 0) (d := 69) (v := ?_) rfl rfl (by kernel_rfl) (by kernel_rfl) (by kernel_rfl) (fun _ _ _ h => h) (by rfl) hHeld ?_ ?_
          rotate_left
          · intro w hSw; clear hSw; go_simp; try (with_reducible rfl)
          try simp only [Act.put, List.setIfInBounds_toArray, List.set_cons_zero, List.set_cons_succ]
          refine take_dstH (i := 1) (d := 70) (v := ?_) rfl rfl (by kernel_rfl) (by kernel_rfl) (by kernel_rfl) (fun _ _ _ h => h) (by rfl) hHeld ?_ ?_
          rotate_left
          · intro w hSw; have hfS := HCS.out w hSw; clear hSw; go_simp; try (with_reducible rfl)
          try simp only [Act.put, List.setIfInBounds_toArray, List.set_cons_zero, List.set_cons_succ]
          refine take_dstH (i := 2) (d := 71) (v := ?_) rfl rfl (by kernel_rfl) (by kernel_rfl) (by kernel_rfl) (fun _ _ _ h => h) (by rfl) hHeld ?_ ?_
          rotate_left
          · intro w hSw; clear hSw; go_simp; try (with_reducible rfl)
          try simp only [Act.put, List.setIfInBounds_toArray, List.set_cons_zero, List.set_cons_succ]
          refine take_dstH (i := 3) (d := 72) (v := ?_) rfl rfl (by kernel_rfl) (by kernel_rfl) (by kernel_rfl) (fun _ _ _ h => h) (by rfl) hHeld ?_ ?_
          rotate_left
          · intro w hSw; have hfS := HCK.out w hSw; clear hSw; go_simp; try (with_reducible rfl)
          try simp only [Act.put, List.setIfInBounds_toArray, List.set_cons_zero, List.set_cons_succ]
          refine take_dstH (i := 4) (d := 73) (v := ?_) rfl rfl (by kernel_rfl) (by kernel_rfl) (by kernel_rfl) (fun _ _ _ h => h) (by rfl) hHeld ?_ ?_
          rotate_left
          · intro w hSw; clear hSw; go_simp; try (with_reducible rfl)
          try simp only [Act.put, List.setIfInBounds_toArray, List.set_cons_zero, List.set_cons_succ]
          refine take_dstH (i := 5) (d := 74) (v := ?_) rfl rfl (by kernel_rfl) (by kernel_rfl) (by kernel_rfl) (fun _ _ _ h => h) (by rfl) hHeld ?_ ?_
          rotate_left
          · intro w hSw; clear hSw; go_simp; try (with_reducible rfl)
          try simp only [Act.put, List.setIfInBounds_toArray, List.set_cons_zero, List.set_cons_succ]
          refine take_dstH (i := 6) (d := 75) (v := ?_) rfl rfl (by kernel_rfl) (by kernel_rfl) (by kernel_rfl) (fun _ _ _ h => h) (by rfl) hHeld ?_ ?_
          rotate_left
          · intro w hSw; clear hSw; go_simp; try (with_reducible rfl)
          try simp only [Act.put, List.setIfInBounds_toArray, List.set_cons_zero, List.set_cons_succ]
          refine take_dstH (i := 9) (d := 78) (v := ?_) rfl rfl (by kernel_rfl) (by kernel_rfl) (by kernel_rfl) (fun _ _ _ h => h) (by rfl) hHeld ?_ ?_
          rotate_left
          · intro w hSw; clear hSw; go_simp; try (with_reducible rfl)
          try simp only [Act.put, List.setIfInBounds_toArray, List.set_cons_zero, List.set_cons_succ]
          refine wpAnyH_ready (rs := [7]) (by kernel_rfl) (by simp) ?_
          refine (AllReadyH.cons rfl (fun K hK => ?_) AllReadyH.nil)
          go_simp
          refine (C1.out _).mono ?_; rintro e wa ⟨pa, ca, ka, rfl, hka, hba, hca⟩; have HBa : Hid (Below wm.heap.size wm wa) := (Hid.out hHeld).trans (hba.mono (Hid.out hHeld).size); have hda := hca _ (Below.refl _ _); have HCA := hide hca; clear hba hca
          go_wp2_with fail
          refine hK.out _ _ ?_ (fun hHeld => ?_)
          · exact HBa
          clear hK K
          try simp only [Act.put, List.setIfInBounds_toArray, List.set_cons_zero, List.set_cons_succ]
          refine wpAnyH_ready (rs := [8, 10]) (by kernel_rfl) (by simp) ?_
          refine (AllReadyH.cons rfl (fun K hK => ?_) (AllReadyH.cons rfl (fun K hK => ?_) AllReadyH.nil))
          focus
            go_simp
            refine hK.out _ _ ?_ (fun hHeld => ?_)
            · exact hHeld
            clear hK K
            try simp only [Act.put, List.setIfInBounds_toArray, List.set_cons_zero, List.set_cons_succ]
            refine wpAnyH_ready (rs := [10]) (by kernel_rfl) (by simp) ?_
            refine (AllReadyH.cons rfl (fun K hK => ?_) AllReadyH.nil)
            go_simp
            refine (C2.out _).mono ?_; rintro e wb ⟨pb, cb, kb, rfl, hkb, hbb, hcb⟩; have HBb : Hid (Below wm.heap.size wm wb) := HBa.out.trans (hbb.mono HBa.out.size); have hdb := hcb _ (Below.refl _ _); have hdc := HCA.out _ hbb; clear hbb hcb
            go_wp2_with fail
            refine hK.out _ _ ?_ (fun hHeld => ?_)
            · exact HBb
            clear hK K
            try simp only [Act.put, List.setIfInBounds_toArray, List.set_cons_zero, List.set_cons_succ]
            refine wpAnyH_ready (rs := [11]) (by kernel_rfl) (by simp) ?_
            refine (AllReadyH.cons rfl (fun K hK => ?_) AllReadyH.nil)
            go_simp
            refine hK.out _ _ ?_ (fun hHeld => ?_)
            · exact hHeld
            clear hK K
            try simp only [Act.put, List.setIfInBounds_toArray, List.set_cons_zero, List.set_cons_succ]
            refine take_dstH (i := 12) (d := 81) (v := ?_) rfl rfl (by kernel_rfl) (by kernel_rfl) (by kernel_rfl) (fun _ _ _ h => h) (by rfl) hHeld ?_ ?_
            rotate_left
            · intro w hSw; clear hSw; go_simp; try (with_reducible rfl)
            try simp only [Act.put, List.setIfInBounds_toArray, List.set_cons_zero, List.set_cons_succ]
            refine take_dstH (i := 13) (d := 82) (v := ?_) rfl rfl (by kernel_rfl) (by kernel_rfl) (by kernel_rfl) (fun _ _ _ h => h) (by rfl) hHeld ?_ ?_
            rotate_left
            · intro w hSw; clear hSw; go_simp; try (with_reducible rfl)
            try simp only [Act.put, List.setIfInBounds_toArray, List.set_cons_zero, List.set_cons_succ]
            refine take_dstH (i := 14) (d := 6) (v := ?_) rfl rfl (by kernel_rfl) (by kernel_rfl) (by kernel_rfl) (fun _ _ _ h => h) (by rfl) hHeld ?_ ?_
            rotate_left
            · intro w hSw; clear hSw; go_simp; try (with_reducible rfl)
            try simp only [Act.put, List.setIfInBounds_toArray, List.set_cons_zero, List.set_cons_succ]
            refine wpAnyH_done (by kernel_rfl) ?_ _
          rotate_left 1
          focus
            go_simp
            refine (C2.out _).mono ?_; rintro e wb ⟨pb, cb, kb, rfl, hkb, hbb, hcb⟩; have HBb : Hid (Below wm.heap.size wm wb) := HBa.out.trans (hbb.mono HBa.out.size); have hdb := hcb _ (Below.refl _ _); have hdc := HCA.out _ hbb; clear hbb hcb
            go_wp2_with fail
            refine hK.out _ _ ?_ (fun hHeld => ?_)
            · exact HBb
            clear hK K
            try simp only [Act.put, List.setIfInBounds_toArray, List.set_cons_zero, List.set_cons_succ]
            refine wpAnyH_ready (rs := [8, 11]) (by kernel_rfl) (by simp) ?_
            refine (AllReadyH.cons rfl (fun K hK => ?_) (AllReadyH.cons rfl (fun K hK => ?_) AllReadyH.nil))
            focus
              go_simp
              refine hK.out _ _ ?_ (fun hHeld => ?_)
              · exact hHeld
              clear hK K
              try simp only [Act.put, List.setIfInBounds_toArray, List.set_cons_zero, List.set_cons_succ]
              refine wpAnyH_ready (rs := [11]) (by kernel_rfl) (by simp) ?_
              refine (AllReadyH.cons rfl (fun K hK => ?_) AllReadyH.nil)
              go_simp
              refine hK.out _ _ ?_ (fun hHeld => ?_)
              · exact hHeld
              clear hK K
              try simp only [Act.put, List.setIfInBounds_toArray, List.set_cons_zero, List.set_cons_succ]
              refine take_dstH (i := 12) (d := 81) (v := ?_) rfl rfl (by kernel_rfl) (by kernel_rfl) (by kernel_rfl) (fun _ _ _ h => h) (by rfl) hHeld ?_ ?_
              rotate_left
              · intro w hSw; clear hSw; go_simp; try (with_reducible rfl)
              try simp only [Act.put, List.setIfInBounds_toArray, List.set_cons_zero, List.set_cons_succ]
              refine take_dstH (i := 13) (d := 82) (v := ?_) rfl rfl (by kernel_rfl) (by kernel_rfl) (by kernel_rfl) (fun _ _ _ h => h) (by rfl) hHeld ?_ ?_
              rotate_left
              · intro w hSw; clear hSw; go_simp; try (with_reducible rfl)
              try simp only [Act.put, List.setIfInBounds_toArray, List.set_cons_zero, List.set_cons_succ]
              refine take_dstH (i := 14) (d := 6) (v := ?_) rfl rfl (by kernel_rfl) (by kernel_rfl) (by kernel_rfl) (fun _ _ _ h => h) (by rfl) hHeld ?_ ?_
              rotate_left
              · intro w hSw; clear hSw; go_simp; try (with_reducible rfl)
              try simp only [Act.put, List.setIfInBounds_toArray, List.set_cons_zero, List.set_cons_succ]
              refine wpAnyH_done (by kernel_rfl) ?_ _
            rotate_left 1
            focus
              go_simp
              refine hK.out _ _ ?_ (fun hHeld => ?_)
              · exact hHeld
              clear hK K
              try simp only [Act.put, List.setIfInBounds_toArray, List.set_cons_zero, List.set_cons_succ]
              refine wpAnyH_ready (rs := [8]) (by kernel_rfl) (by simp) ?_
              refine (AllReadyH.cons rfl (fun K hK => ?_) AllReadyH.nil)
              go_simp
              refine hK.out _ _ ?_ (fun hHeld => ?_)
              · exact hHeld
              clear hK K
              try simp only [Act.put, List.setIfInBounds_toArray, List.set_cons_zero, List.set_cons_succ]
              refine take_dstH (i := 12) (d := 81) (v := ?_) rfl rfl (by kernel_rfl) (by kernel_rfl) (by kernel_rfl) (fun _ _ _ h => h) (by rfl) hHeld ?_ ?_
              rotate_left
              · intro w hSw; clear hSw; go_simp; try (with_reducible rfl)
              try simp only [Act.put, List.setIfInBounds_toArray, List.set_cons_zero, List.set_cons_succ]
              refine take_dstH (i := 13) (d := 82) (v := ?_) rfl rfl (by kernel_rfl) (by kernel_rfl) (by kernel_rfl) (fun _ _ _ h => h) (by rfl) hHeld ?_ ?_
              rotate_left
              · intro w hSw; clear hSw; go_simp; try (with_reducible rfl)
              try simp only [Act.put, List.setIfInBounds_toArray, List.set_cons_zero, List.set_cons_succ]
              refine take_dstH (i := 14) (d := 6) (v := ?_) rfl rfl (by kernel_rfl) (by kernel_rfl) (by kernel_rfl) (fun _ _ _ h => h) (by rfl) hHeld ?_ ?_
              rotate_left
              · intro w hSw; clear hSw; go_simp; try (with_reducible rfl)
              try simp only [Act.put, List.setIfInBounds_toArray, List.set_cons_zero, List.set_cons_succ]
              refine wpAnyH_done (by kernel_rfl) ?_ _
          all_goals
            have HBz : Hid (Below w.heap.size w wb) := HBy.out.trans (HBb.out.mono HBy.out.size)
            clear hda hdb hdc HCA HBa HBb HCS HCK C1 C2
            go_wp2
            go_ret
            exact ⟨rfl, HBz.out⟩

theorem walk (a0 a1 : Int) (p : Option Addr) (cp : Nat) (xs : List Int) (w : World) (w0 : (Lit.int .u64 a0).wf = true) (w1 : (Lit.int .i64 a1).wf = true) (w2 : Arg w p cp xs) :
    Calls Try.prog 3 #[.int .u64 a0, .int .i64 a1, .slice p xs.length cp] w fun e w' => e = .returned (.bool true) ∧ Below w.heap.size w w' := by
  obtain ⟨n, rfl, hn⟩ := wf_u64 w0
  exact walk_nat n hn a1 p cp xs w w2

theorem own : ownKnob Try.prog.godebug = none := by kernel_rfl
theorem laidOut : laidOutB Try.prog = true := by kernel_rfl
set_option maxRecDepth 100000 in
theorem lifted (os : Os) (started : os.Started) (H : Type) (enc : TypeId × Value → H) :
    ReturnsInHanded {} Try.checked os 3 .any (Rows.wireFormsSpec.pre6 enc Try.prog Try.f3 Rows.wireFormsRow.domain false) (Rows.wireFormsSpec.post enc Try.prog Try.f3 false true false false) := by
  refine returnsInHanded_of_change (C := Try.checked) own started (by kernel_rfl) Try.func3
    (ChangeSpec.witness6 (enc := enc) (C := Try.checked) false ⟨#[], #[.int .u64 0, .int .i64 0, .slice none 0 0], []⟩ 8 (by kernel_rfl) (by kernel_rfl) (by kernel_rfl) (by kernel_rfl)) ?_
  intro W base args ds gs before hval0 hW hcnd _
  have hval : ∀ (j : Nat) t v, Try.f3.params[j]? = some t → args[j]? = some v → Value.okWide Try.prog W .any base t v := hval0
  have hW' := hW
  obtain ⟨p, q, hA0, hV, rfl, hfz, hnd⟩ := hW
  have hA : DataW.TrodAll enc Try.prog W 0 (fun _ => true) true Try.f3.params.toList args.toList ds p := hA0
  rw [Try.params3] at hA hval
  obtain ⟨v0, vs0, d0, ds0, p0, q0, hargs, rfl, rfl, h0, r0⟩ := trodAll_cons hA
  obtain ⟨v1, vs1, d1, ds1, p1, q1, rfl, rfl, rfl, h1, r1⟩ := trodAll_cons r0
  obtain ⟨v2, vs2, d2, ds2, p2, q2, rfl, rfl, rfl, h2, r2⟩ := trodAll_cons r1
  obtain ⟨rfl, rfl, rfl⟩ := trodAll_nil r2
  obtain rfl : args = #[v0, v1, v2] := by cases args; simp_all
  obtain ⟨rfl, rfl⟩ := trodVars_none hV
  obtain ⟨a0, rfl, rfl, rfl, w0⟩ := open_int Try.underlying22 (hval 0 22 v0 rfl rfl) h0
  obtain ⟨a1, rfl, rfl, rfl, w1⟩ := open_int Try.underlying3 (hval 1 3 v1 rfl rfl) h1
  obtain ⟨a2, len2, cap2, rfl⟩ := okWide_slice Try.underlying23 (hval 2 23 v2 rfl rfl)
  have k2 := h2
  have lt2 : ∀ x ∈ p2, x.block < W.heap.size := by obtain ⟨m, hm⟩ := k2; exact DataW.trod_lt m _ _ _ hm
  obtain ⟨z2, hz2, w2⟩ : ∃ xs : List Int, xs.length = len2 ∧ Arg W a2 cap2 xs := by
    obtain ⟨fuel, hf⟩ := h2
    rcases open_ints Try.underlying23 Try.underlying5 (by kernel_rfl) hf with ⟨hcs, _⟩ | ⟨x, l, c, zs, hcs, _, hl, hm, hz, _, hcell, hwz⟩
    · simp [Value.cells] at hcs
      obtain ⟨rfl, rfl, rfl⟩ := hcs
      exact ⟨[], rfl, ⟨by simp, Or.inl rfl⟩, Nat.le_refl _, Nat.zero_le _, fun _ => rfl⟩
    · simp [Value.cells] at hcs
      obtain ⟨rfl, rfl, rfl⟩ := hcs
      exact bytes_of_row hl hm (by simpa using hz) hcell hwz
  subst hz2
  clear hA0 hval0
  refine (walk a0 a1 a2 cap2 z2 W w0 w1 w2).mono fun e W' ⟨he, bel⟩ => ?_
  subst he
  exact ⟨_, rfl, _, _, _, [], _, [], hW', trodAll_mk1 (shut_bool Try.underlying4 _), (trodAll_cons_mk (shut_int Try.underlying22 w0) (trodAll_cons_mk (shut_int Try.underlying3 w1) (trodAll_cons_mk (Below.trod laidOut (by kernel_rfl) (of_decide_eq_true (by kernel_rfl)) k2 bel lt2) trodAll_mk0))), rfl, bel.frame _, fun h => by cases h⟩

theorem over : Rows.wireFormsRow.holds Try.pinned (OpenSpec.ofChange Rows.wireFormsSpec) :=
  OpenClaim.holds_of_wide 3 Try.f3 rfl rfl rfl rfl rfl rfl rfl ⟨rfl, rfl, rfl, rfl, rfl⟩ rfl rfl rfl rfl rfl (by kernel_rfl) Try.func3 (by kernel_rfl)
    (of_decide_eq_true (by kernel_rfl)) (by unfold Func.isWrapper; first | (rw [if_pos (by decide +kernel)]; kernel_rfl) | (rw [if_neg (by decide +kernel)]; exact ⟨rfl, rfl⟩))
    (fun os started H enc _ => lifted os started H enc)

end WireFormsProof

/-- The forms of any number, any fixed one, any text are the document's, and new each time. -/
theorem wireForms_holds : Rows.WireFormsSaid := WireFormsProof.over

#print axioms wireForms_holds
end Go.Proofs.Ytmkoefnnpficfaa
