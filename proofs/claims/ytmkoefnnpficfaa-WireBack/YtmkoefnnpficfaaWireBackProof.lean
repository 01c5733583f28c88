/-
  Proved here: what was put is read again, one behind the other, whatever stands behind it; cut anywhere within it is ErrBytes (whatever the numbers, the texts and the place; texts of more than 2000 bytes are let go).
-/
import Derived.Test.YtmkoefnnpficfaaRows
import Derived.Test.YtmkoefnnpficfaaWS
import Derived.ProofKit
import Derived.OpenShut
import Derived.ShutString
import Derived.ChangeOld
import Derived.Below
import Derived.Deep.RegionWith
import Derived.Deep.DeepCutAuto
import Derived.Deep.DrawnRows
import Derived.BigQuiet
import Derived.Deep.QuietTactic
namespace Go.Proofs.Ytmkoefnnpficfaa
namespace WireBackProof
open Go.ChangeShapes Go.WideShapes Go.ChangeAt Go.RowKit
set_option linter.unusedVariables false
set_option linter.unusedSimpArgs false
attribute [local go_sem ↓] Go.wp_at_zero Go.wp_at_succ

theorem wf_u64 {a : Int} (h : (Lit.int .u64 a).wf = true) : ∃ n : Nat, a = n ∧ n < 18446744073709551616 := by
  have := bounds_u64 h
  exact ⟨a.toNat, by omega, by omega⟩

set_option maxHeartbeats 2000000 in
set_option maxRecDepth 100000 in
theorem walk_long (n m : Nat) (p : Option Addr) (cp : Nat) (xs : List Int) (q : Option Addr) (cq : Nat) (ys : List Int) (cut : Int) (w : World) (hbig : 2000 < xs.length ∨ 2000 < ys.length) :
    Calls Try.prog 6 #[.int .u64 n, .int .u64 m, .slice p xs.length cp, .slice q ys.length cq, .int .i64 cut] w fun e w' => e = .returned (.bool true) ∧ Below w.heap.size w w' := by
  generalize xs.length = lx at *
  generalize ys.length = ly at *
  go_enter Try.func6, Try.ntmps6
  go_wp2_with fail
  refine (known_any _).mono ?_
  rintro e w1 ⟨rfl, hb1⟩
  by_cases h1 : 2000 < lx
  · clear hbig
    go_wp2
    go_ret
    exact ⟨rfl, hb1⟩
  · have h1' : decide (2000 < lx) = false := by simp; omega
    have h1'' : decide ((2000 : Int) < (lx : Int)) = false := by simp; omega
    have h2 : 2000 < ly := by omega
    clear hbig
    go_wp2
    go_ret
    exact ⟨rfl, hb1⟩

set_option maxHeartbeats 2000000 in
set_option maxRecDepth 100000 in
theorem walk_nat (n m : Nat) (hn : n < 18446744073709551616) (hm : m < 18446744073709551616) (p : Option Addr) (cp : Nat) (xs : List Int) (q : Option Addr) (cq : Nat) (ys : List Int) (cut : Int) (w : World)
    (ha : Arg w p cp xs) (ha' : Arg w q cq ys) (hx : xs.length ≤ 2000) (hy : ys.length ≤ 2000) :
    Calls Try.prog 6 #[.int .u64 n, .int .u64 m, .slice p xs.length cp, .slice q ys.length cq, .int .i64 cut] w fun e w' => e = .returned (.bool true) ∧ Below w.heap.size w w' := by
  have HA := hide ha
  have HA' := hide ha'
  have hs1 := numF_short n hn
  have hs2 := numF_short m hm
  have hs3 : (txtF xs).length ≤ 2010 ∧ 1 ≤ (txtF xs).length := by
    have := numF_short xs.length (by omega)
    simp [txtF]; omega
  have htb := txtF_bytes ha.1.1
  have HTB := hide htb
  have hl8 := fixF_length 8 m
  have HL8 := hide hl8
  have htx := fun w' (h : Arg w' p cp xs) => text_any p cp xs w' h (by omega)
  have HTX := hide htx
  clear ha ha' htb hl8 htx
  generalize hf1 : numF n = f1 at *
  generalize hf2 : numF m = f2 at *
  generalize hf3 : txtF xs = f3 at *
  generalize hf4 : fixF 8 m = f4 at *
  have HF1 := hide hf1
  have HF2 := hide hf2
  have HF3 := hide hf3
  have HF4 := hide hf4
  clear hf1 hf2 hf3 hf4
  generalize hlx : xs.length = lx at *
  generalize hly : ys.length = ly at *
  generalize hl1 : f1.length = l1 at *
  generalize hl2 : f2.length = l2 at *
  generalize hl3 : f3.length = l3 at *
  have HLX := hide hlx
  have HLY := hide hly
  have HL1 := hide hl1
  have HL2 := hide hl2
  have HL3 := hide hl3
  clear hlx hly hl1 hl2 hl3
  have d1 : decide ((2000 : Int) < (lx : Int)) = false := by simp; omega
  have d2 : decide ((2000 : Int) < (ly : Int)) = false := by simp; omega
  go_enter Try.func6, Try.ntmps6
  go_wp2_with fail
  refine (known_any _).mono ?_
  rintro e w1 ⟨rfl, hb1⟩
  have HB1 := hide hb1
  clear hb1
  go_wp2_with fail
  refine (num_any n hn _).mono ?_
  rintro e w2 ⟨v1, rfl, ho, hb⟩
  rw [HF1.out, HL1.out] at ho
  have HO1 := hide (own_base ho HB1.out.size)
  have HB2 := hide (HB1.out.trans (hb.mono HB1.out.size))
  clear ho hb HB1
  go_wp2_with fail
  have hf := fixed_in m 8 hm (by decide) (by decide) w2
  rw [show ((8 : Nat) : Int) = 8 from rfl, HF4.out] at hf
  refine hf.mono ?_
  rintro e w3 ⟨v2, rfl, ho, hb⟩
  clear hf
  have HO1' := hide (own_below HO1.out hb)
  have HB3 := hide (HB2.out.trans (hb.mono HB2.out.size))
  obtain ⟨q2, c2, hv, ha2⟩ := own_arg (xs := f4) (by rw [HL8.out]; exact ho) (by rw [← HF4.out]; exact fixF_bytes 8 m)
  rw [HL8.out] at hv
  subst hv
  have HA2 := hide ha2
  obtain ⟨g1, c1, rfl, hg1, _⟩ := own_shape HO1'.out (by omega)
  clear ho hb HO1 HB2 ha2
  go_wp2_with (at_builtin; refine wpList_append_bytes rfl (.tmp 24) (.tmp 26) rfl w.heap.size _ f1 rfl l1 HL1.out HO1'.out q2 8 c2 f4 HL8.out rfl HA2.out.1 HA2.out.2.2.2 ?h3 ?h4 ?_)
  case h3 => omega
  case h4 => exact HB3.out.size
  intro v3 w4 z3 k3 hz3 hk3 ho3 hg3 _
  have HB4 := hide (HB3.out.grown hg3 HB3.out.size (by intro k hk; simp [Value.ownBlock] at hk; subst hk; exact hg1))
  have hk3' : k3 = l1 + 8 := by rw [← hk3.out, hz3.out, List.length_append, HL1.out, HL8.out]
  have HO3 := hide ho3
  have HK3 := hide hk3'
  have hk3b : k3 ≤ 100 := by omega
  have hk3c : 1 ≤ k3 := by omega
  have HA4 : Hid (Arg w4 p cp xs) := ⟨bytes_kept HA.out.1 (below_grown HB4.out none) (fun a _ => by simp), HA.out.2⟩
  clear ho3 hg3 HO1' HB3 HA2 hk3'
  go_wp2_with fail
  refine (HTX.out w4 HA4.out).mono ?_
  rintro e w5 ⟨v4, rfl, ho, hb⟩
  have HO3' := hide (own_below HO3.out hb)
  have HB5 := hide (HB4.out.trans (hb.mono HB4.out.size))
  obtain ⟨q4, c4, rfl, ha4⟩ := own_arg (xs := f3) (by rw [HL3.out]; exact ho) HTB.out
  rw [HL3.out]
  have HA5 := hide ha4
  obtain ⟨g3, c3, rfl, hg3, _⟩ := own_shape HO3'.out (by omega)
  clear ho hb HO3 HB4 ha4 HA4 HTX
  go_wp2_with (at_builtin; refine wpList_append_bytes rfl (.tmp 27) (.tmp 29) rfl w.heap.size _ z3 rfl k3 hk3.out HO3'.out q4 l3 c4 f3 HL3.out rfl HA5.out.1 HA5.out.2.2.2 ?h3 ?h4 ?_)
  case h3 => omega
  case h4 => exact HB5.out.size
  intro v5 w6 z5 k5 hz5 hk5 ho5 hg5 _
  have HB6 := hide (HB5.out.grown hg5 HB5.out.size (by intro k hk; simp [Value.ownBlock] at hk; subst hk; exact hg3))
  have hk5' : k5 = k3 + l3 := by rw [← hk5.out, hz5.out, List.length_append, hk3.out, HL3.out]
  have HO5 := hide ho5
  have hk5b : k5 ≤ 3000 := by omega
  have hk5c : 1 ≤ k5 := by omega
  clear ho5 hg5 HO3' HB5 HA5 hk5'
  go_wp2_with fail
  refine (num_any m hm _).mono ?_
  rintro e w7 ⟨v6, rfl, ho, hb⟩
  rw [HF2.out] at ho
  have HO5' := hide (own_below HO5.out hb)
  have HB7 := hide (HB6.out.trans (hb.mono HB6.out.size))
  obtain ⟨q6, c6, rfl, ha6⟩ := own_arg (xs := f2) ho (by rw [← HF2.out]; exact numF_bytes m)
  rw [HL2.out]
  have HA6 := hide ha6
  obtain ⟨g5, c5, rfl, hg5, _⟩ := own_shape HO5'.out (by omega)
  clear ho hb HO5 HB6 ha6
  go_wp2_with (at_builtin; refine wpList_append_bytes rfl (.tmp 30) (.tmp 32) rfl w.heap.size _ z5 rfl k5 hk5.out HO5'.out q6 l2 c6 f2 HL2.out rfl HA6.out.1 HA6.out.2.2.2 ?h3 ?h4 ?_)
  case h3 => omega
  case h4 => exact HB7.out.size
  intro v7 w8 z7 k7 hz7 hk7 ho7 hg7 _
  have HB8 := hide (HB7.out.grown hg7 HB7.out.size (by intro k hk; simp [Value.ownBlock] at hk; subst hk; exact hg5))
  have hk7' : k7 = k5 + l2 := by rw [← hk7.out, hz7.out, List.length_append, hk5.out, HL2.out]
  have hk7b : k7 ≤ 4000 := by omega
  have hk7c : 1 ≤ k7 := by omega
  obtain ⟨g7, c7, rfl, hg7, hg7s, hc7, hc7m⟩ := own_shape ho7 (by omega)
  have hZ : z7 = ((numF n ++ fixF 8 m) ++ txtF xs) ++ numF m := by rw [hz7.out, hz5.out, hz3.out, HF1.out, HF2.out, HF3.out, HF4.out]
  have HZ := hide hZ
  have hzb : ∀ c ∈ z7, 0 ≤ c ∧ c < 256 := by
    rw [hZ]
    intro c hc
    simp only [List.mem_append] at hc
    rcases hc with ((hc | hc) | hc) | hc
    · exact numF_bytes n c hc
    · exact fixF_bytes 8 m c hc
    · rw [HF3.out] at hc; exact HTB.out c hc
    · exact numF_bytes m c hc
  have HZB := hide hzb
  have hq7 : BytesIn w8 (some ⟨g7, 0, none⟩) z7 := by
    obtain ⟨_, _, e7, _, _, h7, _⟩ := own_bytes (xs := z7) (by rw [hk7.out]; exact ho7) hzb
    cases e7
    exact h7
  have HQ7 := hide hq7
  have HK7 := hide hk7.out
  unfold maxLen at hc7m
  clear ho7 hk7' HO5' HB7 HA6 hZ hzb hq7 hk7 hz7 hz5 hk5 hz3 hk3 HF1 HF4 HL8 HL1 HL3 hk5b hk5c hk3b hk3c hs3 HK3
  go_wp2_with (at_builtin; refine wpList_append_bytes rfl (.tmp 34) (.tmp 35) rfl w8.heap.size _ [] rfl 0 rfl (World.ownsRow_made w8 #[] 0 (Nat.le_refl _) (Nat.zero_le _) rfl) (some ⟨g7, 0, none⟩) k7 c7 z7 HK7.out rfl ?h1 ?h2 ?h3 ?h4 ?_)
  case h1 => exact bytes_kept HQ7.out (World.grownBy_alloc w8 _ none) (fun a _ => by simp)
  case h2 => intro h; cases h
  case h3 => omega
  case h4 => simp
  intro v9 w9 z9 k9 hz9 hk9 ho9 hg9 _
  obtain rfl : z9 = z7 := by simpa using hz9.out
  obtain rfl : k9 = k7 := by rw [← hk9.out]; exact HK7.out
  have hb89 : Below w8.heap.size w8 w9 := ((Below.refl _ w8).alloc (Nat.le_refl _) _).trans (grown_below hg9 (by simp) (by intro k hk; simp [Value.ownBlock] at hk; omega))
  have HB9 := hide (HB8.out.trans (hb89.mono HB8.out.size))
  have HQ9 := hide (bytes_kept HQ7.out (below_grown hb89 none) (fun a _ => by simp))
  have HA9 : Hid (Arg w9 q cq ys) := ⟨bytes_kept HA'.out.1 (below_grown HB9.out none) (fun a _ => by simp), HA'.out.2⟩
  obtain ⟨g9, c9, rfl, hg9', _⟩ := own_shape ho9 (by omega)
  have HO9 := hide ho9
  have hsz89 : w8.heap.size ≤ w9.heap.size := hb89.size
  have hw8 : w.heap.size ≤ w8.heap.size := HB8.out.size
  clear ho9 hg9 hb89 hz9 hk9 HB8 HQ7
  go_wp2_with (at_builtin; refine wpList_append_bytes rfl (.tmp 36) (.tmp 37) rfl w8.heap.size _ z9 rfl k9 HK7.out HO9.out q ly cq ys HLY.out rfl HA9.out.1 HA9.out.2.2.2 ?h3 ?h4 ?_)
  case h3 => omega
  case h4 => exact hsz89
  intro v10 w10 z10 k10 hz10 hk10 ho10 hg10 _
  have HB10 := hide (HB9.out.grown hg10 HB9.out.size (by intro k hk; simp [Value.ownBlock] at hk; subst hk; omega))
  have HQ10 := hide (bytes_kept HQ9.out hg10 (fun a ha => by cases ha; simp [Value.ownBlock]; omega))
  have hyb : ∀ c ∈ z10, 0 ≤ c ∧ c < 256 := by
    rw [hz10.out]
    intro c hc
    rcases List.mem_append.1 hc with hc | hc
    · exact HZB.out c hc
    · exact HA'.out.1.1 c hc
  have hk10' : k10 = k9 + ly := by rw [← hk10.out, hz10.out, List.length_append, HK7.out, HLY.out]
  obtain ⟨q10, c10, hv10, ha10⟩ := own_arg (xs := z10) (by rw [hk10.out]; exact ho10) hyb
  rw [hk10.out] at hv10
  subst hv10
  have hop := open_far q10 c10 z10 w10 (by rw [hk10.out]; omega) ha10.1
  rw [hk10.out] at hop
  have HOP := hide hop
  clear hk10'
  have hw10 : g7 < w10.heap.size := by
    have := HQ10.out
    rcases bytes_lt this with h | ⟨b, o, h, hlt⟩
    · have := HK7.out; rw [h] at this; simp at this; omega
    · cases h; exact hlt
  clear hop ho10 hg10 ha10 HO9 HB9 HQ9 HA9 hyb
  go_wp2_with fail
  refine (show Calls _ _ _ _ _ from HOP.out).mono ?_
  rintro e w11 ⟨rb, rfl, hrb, hrd, hb11, hfar⟩
  have HB11 := hide (HB10.out.trans (hb11.mono HB10.out.size))
  have HQ11 := hide (bytes_kept HQ10.out (below_grown hb11 none) (fun a _ => by simp))
  have HR11 := hide hrd
  have hrbw : w.heap.size ≤ rb := Nat.le_trans HB10.out.size hrb
  have hrbg : rb ≠ g7 := by omega
  have hz : z10 = numF n ++ (fixF 8 m ++ (txtF xs ++ (numF m ++ ys))) := by rw [hz10.out, HZ.out]; simp
  have C1 := hide (fun w' (h : Rd w' rb z10 0) => rnum_any rb z10 0 w' h)
  rw [hz, sNum_form n hn] at C1
  have C2 := hide (fun w' (h : Rd w' rb (fixF 8 m ++ (txtF xs ++ (numF m ++ ys))) 0) => rfix_any rb 8 _ 0 w' h)
  rw [sFix_form m hm] at C2
  have C3 := hide (fun w' (h : Rd w' rb (txtF xs ++ (numF m ++ ys)) 0) => rtxt_any rb (xs.length : Int) (by have := HLX.out; omega) _ 0 w' h)
  rw [sTxt_form xs _ (by have := HLX.out; omega)] at C3
  have C4 := hide (fun w' (h : Rd w' rb (numF m ++ ys) 0) => rnum_any rb _ 0 w' h)
  rw [sNum_form m hm] at C4
  have C5 := hide (fun w' (h : Rd w' rb ys 0) => rest_any rb ys 0 w' h)
  rw [show sRest ys 0 = (ys, [], 0) from rfl] at C5
  rw [HLX.out] at C3
  rw [HLY.out] at C5
  rw [hz] at HR11
  generalize fixF 8 m ++ (txtF xs ++ (numF m ++ ys)) = r1 at *
  generalize txtF xs ++ (numF m ++ ys) = r2 at *
  generalize numF m ++ ys = r3 at *
  have HCS : Hid (∀ w', Hid (Below w.heap.size w w') → (convert 23 9 (.slice p lx cp)).run Try.prog w' = .ok (.string (strOfNums xs)) w') := fun w' hb => conv_any (bytes_kept HA.out.1 (below_grown hb.out none) (fun a _ => by simp)) _ cp HLX.out
  have HCB : Hid (∀ w', Hid (Below w.heap.size w w') → (convert 23 9 (.slice q ly cq)).run Try.prog w' = .ok (.string (strOfNums ys)) w') := fun w' hb => conv_any (bytes_kept HA'.out.1 (below_grown hb.out none) (fun a _ => by simp)) _ cq HLY.out
  clear hrd hb11 hfar HOP HB10 HQ10 hk10 hrb hz hz10
  go_wp2_with fail
  refine wp_region_held_drew (S := fun w' => Hid (Below w.heap.size w w')) (by kernel_rfl) (hide HB11.out.drew) (fun hHeld => ?_)
  refine take_dstH (i := 0) (d := 40) (v := ?_) rfl rfl (by kernel_rfl) (by kernel_rfl) (by kernel_rfl) (fun _ _ _ h => h) (by rfl) hHeld ?_ ?_
  rotate_left
  · intro w hSw; clear hSw; go_simp; try (with_reducible rfl)
  try simp only [Act.put, List.setIfInBounds_toArray, List.set_cons_zero, List.set_cons_succ]
  refine take_dstH (i := 1) (d := 41) (v := ?_) rfl rfl (by kernel_rfl) (by kernel_rfl) (by kernel_rfl) (fun _ _ _ h => h) (by rfl) hHeld ?_ ?_
  rotate_left
  · intro w hSw; clear hSw; go_simp; try (with_reducible rfl)
  try simp only [Act.put, List.setIfInBounds_toArray, List.set_cons_zero, List.set_cons_succ]
  refine take_dstH (i := 2) (d := 42) (v := ?_) rfl rfl (by kernel_rfl) (by kernel_rfl) (by kernel_rfl) (fun _ _ _ h => h) (by rfl) hHeld ?_ ?_
  rotate_left
  · intro w hSw; clear hSw; go_simp; try (with_reducible rfl)
  try simp only [Act.put, List.setIfInBounds_toArray, List.set_cons_zero, List.set_cons_succ]
  refine take_dstH (i := 3) (d := 43) (v := ?_) rfl rfl (by kernel_rfl) (by kernel_rfl) (by kernel_rfl) (fun _ _ _ h => h) (by rfl) hHeld ?_ ?_
  rotate_left
  · intro w hSw; clear hSw; go_simp; try (with_reducible rfl)
  try simp only [Act.put, List.setIfInBounds_toArray, List.set_cons_zero, List.set_cons_succ]
  refine take_dstH (i := 5) (d := 45) (v := ?_) rfl rfl (by kernel_rfl) (by kernel_rfl) (by kernel_rfl) (fun _ _ _ h => h) (by rfl) hHeld ?_ ?_
  rotate_left
  · intro w hSw; clear hSw; go_simp; try (with_reducible rfl)
  try simp only [Act.put, List.setIfInBounds_toArray, List.set_cons_zero, List.set_cons_succ]
  refine wpAnyH_ready (rs := [4]) (by kernel_rfl) (by simp) ?_
  refine (AllReadyH.cons rfl (fun K hK => ?_) AllReadyH.nil)
  go_simp
  refine (C1.out _ (show Rd w11.drew rb _ 0 from HR11.out)).mono ?_; rintro e wa ⟨rfl, hra, hga⟩; have HRa := hide hra; have HBa := hide (Below.grown (Hid.out hHeld) hga (Hid.out hHeld).size (by intro k hk; cases hk; exact hrbw)); have HQa := hide (bytes_kept (show BytesIn w11.drew _ z9 from HQ11.out) hga (fun a ha => by cases ha; simp; omega)); clear hra hga
  go_wp2_with fail
  refine hK.out _ _ ?_ (fun hHeld => ?_)
  · exact HBa
  clear hK K
  try simp only [Act.put, List.setIfInBounds_toArray, List.set_cons_zero, List.set_cons_succ]
  refine take_dstH (i := 6) (d := 46) (v := ?_) rfl rfl (by kernel_rfl) (by kernel_rfl) (by kernel_rfl) (fun _ _ _ h => h) (by rfl) hHeld ?_ ?_
  rotate_left
  · intro w hSw; clear hSw; go_simp; try (with_reducible rfl)
  try simp only [Act.put, List.setIfInBounds_toArray, List.set_cons_zero, List.set_cons_succ]
  refine take_dstH (i := 7) (d := 47) (v := ?_) rfl rfl (by kernel_rfl) (by kernel_rfl) (by kernel_rfl) (fun _ _ _ h => h) (by rfl) hHeld ?_ ?_
  rotate_left
  · intro w hSw; clear hSw; go_simp; try (with_reducible rfl)
  try simp only [Act.put, List.setIfInBounds_toArray, List.set_cons_zero, List.set_cons_succ]
  refine take_dstH (i := 8) (d := 48) (v := ?_) rfl rfl (by kernel_rfl) (by kernel_rfl) (by kernel_rfl) (fun _ _ _ h => h) (by rfl) hHeld ?_ ?_
  rotate_left
  · intro w hSw; clear hSw; go_simp; try (with_reducible rfl)
  try simp only [Act.put, List.setIfInBounds_toArray, List.set_cons_zero, List.set_cons_succ]
  refine take_dstH (i := 9) (d := 49) (v := ?_) rfl rfl (by kernel_rfl) (by kernel_rfl) (by kernel_rfl) (fun _ _ _ h => h) (by rfl) hHeld ?_ ?_
  rotate_left
  · intro w hSw; clear hSw; go_simp; try (with_reducible rfl)
  try simp only [Act.put, List.setIfInBounds_toArray, List.set_cons_zero, List.set_cons_succ]
  refine take_dstH (i := 11) (d := 51) (v := ?_) rfl rfl (by kernel_rfl) (by kernel_rfl) (by kernel_rfl) (fun _ _ _ h => h) (by rfl) hHeld ?_ ?_
  rotate_left
  · intro w hSw; clear hSw; go_simp; try (with_reducible rfl)
  try simp only [Act.put, List.setIfInBounds_toArray, List.set_cons_zero, List.set_cons_succ]
  refine wpAnyH_ready (rs := [10]) (by kernel_rfl) (by simp) ?_
  refine (AllReadyH.cons rfl (fun K hK => ?_) AllReadyH.nil)
  go_simp
  refine (C2.out _ HRa.out).mono ?_; rintro e wb ⟨rfl, hrb, hgb⟩; have HRb := hide hrb; have HBb := hide (HBa.out.grown hgb HBa.out.size (by intro k hk; cases hk; exact hrbw)); have HQb := hide (bytes_kept HQa.out hgb (fun a ha => by cases ha; simp; omega)); clear hrb hgb HRa HQa HBa
  go_wp2_with fail
  refine hK.out _ _ ?_ (fun hHeld => ?_)
  · exact HBb
  clear hK K
  try simp only [Act.put, List.setIfInBounds_toArray, List.set_cons_zero, List.set_cons_succ]
  refine take_dstH (i := 12) (d := 52) (v := ?_) rfl rfl (by kernel_rfl) (by kernel_rfl) (by kernel_rfl) (fun _ _ _ h => h) (by rfl) hHeld ?_ ?_
  rotate_left
  · intro w hSw; clear hSw; go_simp; try (with_reducible rfl)
  try simp only [Act.put, List.setIfInBounds_toArray, List.set_cons_zero, List.set_cons_succ]
  refine take_dstH (i := 13) (d := 53) (v := ?_) rfl rfl (by kernel_rfl) (by kernel_rfl) (by kernel_rfl) (fun _ _ _ h => h) (by rfl) hHeld ?_ ?_
  rotate_left
  · intro w hSw; clear hSw; go_simp; try (with_reducible rfl)
  try simp only [Act.put, List.setIfInBounds_toArray, List.set_cons_zero, List.set_cons_succ]
  refine take_dstH (i := 14) (d := 54) (v := ?_) rfl rfl (by kernel_rfl) (by kernel_rfl) (by kernel_rfl) (fun _ _ _ h => h) (by rfl) hHeld ?_ ?_
  rotate_left
  · intro w hSw; clear hSw; go_simp; try (with_reducible rfl)
  try simp only [Act.put, List.setIfInBounds_toArray, List.set_cons_zero, List.set_cons_succ]
  refine take_dstH (i := 15) (d := 55) (v := ?_) rfl rfl (by kernel_rfl) (by kernel_rfl) (by kernel_rfl) (fun _ _ _ h => h) (by rfl) hHeld ?_ ?_
  rotate_left
  · intro w hSw; clear hSw; go_simp; try (with_reducible rfl)
  try simp only [Act.put, List.setIfInBounds_toArray, List.set_cons_zero, List.set_cons_succ]
  refine take_dstH (i := 16) (d := 56) (v := ?_) rfl rfl (by kernel_rfl) (by kernel_rfl) (by kernel_rfl) (fun _ _ _ h => h) (by rfl) hHeld ?_ ?_
  rotate_left
  · intro w hSw; clear hSw; go_simp; try (with_reducible rfl)
  try simp only [Act.put, List.setIfInBounds_toArray, List.set_cons_zero, List.set_cons_succ]
  refine take_dstH (i := 17) (d := 57) (v := ?_) rfl rfl (by kernel_rfl) (by kernel_rfl) (by kernel_rfl) (fun _ _ _ h => h) (by rfl) hHeld ?_ ?_
  rotate_left
  · intro w hSw; clear hSw; go_simp; try (with_reducible rfl)
  try simp only [Act.put, List.setIfInBounds_toArray, List.set_cons_zero, List.set_cons_succ]
  refine take_dstH (i := 20) (d := 60) (v := ?_) rfl rfl (by kernel_rfl) (by kernel_rfl) (by kernel_rfl) (fun _ _ _ h => h) (by rfl) hHeld ?_ ?_
  rotate_left
  · intro w hSw; clear hSw; go_simp; try (with_reducible rfl)
  try simp only [Act.put, List.setIfInBounds_toArray, List.set_cons_zero, List.set_cons_succ]
  refine take_dstH (i := 21) (d := 61) (v := ?_) rfl rfl (by kernel_rfl) (by kernel_rfl) (by kernel_rfl) (fun _ _ _ h => h) (by rfl) hHeld ?_ ?_
  rotate_left
  · intro w hSw; have hfS := HCS.out w hSw; clear hSw; go_simp; try (with_reducible rfl)
  try simp only [Act.put, List.setIfInBounds_toArray, List.set_cons_zero, List.set_cons_succ]
  refine wpAnyH_ready (rs := [18]) (by kernel_rfl) (by simp) ?_
  refine (AllReadyH.cons rfl (fun K hK => ?_) AllReadyH.nil)
  go_simp
  refine (C3.out _ HRb.out).mono ?_; rintro e wc ⟨vc, rfl, hoc, hrc, hgc⟩; have HRc := hide hrc; have HBc := hide (HBb.out.grown hgc HBb.out.size (by intro k hk; cases hk; exact hrbw)); have HQc := hide (bytes_kept HQb.out hgc (fun a ha => by cases ha; simp; omega)); obtain ⟨qc, cc, hvc, _, _, hyc, _⟩ := own_bytes (xs := xs) (by rw [HLX.out]; exact hoc) HA.out.1.1; rw [HLX.out] at hvc; subst hvc; have hcvc := conv_any hyc lx cc HLX.out; clear hrc hgc hoc hyc HRb HQb HBb
  go_wp2_with fail
  refine hK.out _ _ ?_ (fun hHeld => ?_)
  · exact HBc
  clear hK K
  try simp only [Act.put, List.setIfInBounds_toArray, List.set_cons_zero, List.set_cons_succ]
  refine wpAnyH_ready (rs := [19]) (by kernel_rfl) (by simp) ?_
  refine (AllReadyH.cons rfl (fun K hK => ?_) AllReadyH.nil)
  go_simp
  refine hK.out _ _ ?_ (fun hHeld => ?_)
  · exact hHeld
  clear hK K
  try simp only [Act.put, List.setIfInBounds_toArray, List.set_cons_zero, List.set_cons_succ]
  refine take_dstH (i := 22) (d := 62) (v := ?_) rfl rfl (by kernel_rfl) (by kernel_rfl) (by kernel_rfl) (fun _ _ _ h => h) (by rfl) hHeld ?_ ?_
  rotate_left
  · intro w hSw; clear hSw; go_simp; try (with_reducible rfl)
  try simp only [Act.put, List.setIfInBounds_toArray, List.set_cons_zero, List.set_cons_succ]
  refine take_dstH (i := 23) (d := 63) (v := ?_) rfl rfl (by kernel_rfl) (by kernel_rfl) (by kernel_rfl) (fun _ _ _ h => h) (by rfl) hHeld ?_ ?_
  rotate_left
  · intro w hSw; clear hSw; go_simp; try (with_reducible rfl)
  try simp only [Act.put, List.setIfInBounds_toArray, List.set_cons_zero, List.set_cons_succ]
  refine take_dstH (i := 24) (d := 64) (v := ?_) rfl rfl (by kernel_rfl) (by kernel_rfl) (by kernel_rfl) (fun _ _ _ h => h) (by rfl) hHeld ?_ ?_
  rotate_left
  · intro w hSw; clear hSw; go_simp; try (with_reducible rfl)
  try simp only [Act.put, List.setIfInBounds_toArray, List.set_cons_zero, List.set_cons_succ]
  refine take_dstH (i := 25) (d := 65) (v := ?_) rfl rfl (by kernel_rfl) (by kernel_rfl) (by kernel_rfl) (fun _ _ _ h => h) (by rfl) hHeld ?_ ?_
  rotate_left
  · intro w hSw; clear hSw; go_simp; try (with_reducible rfl)
  try simp only [Act.put, List.setIfInBounds_toArray, List.set_cons_zero, List.set_cons_succ]
  refine take_dstH (i := 27) (d := 67) (v := ?_) rfl rfl (by kernel_rfl) (by kernel_rfl) (by kernel_rfl) (fun _ _ _ h => h) (by rfl) hHeld ?_ ?_
  rotate_left
  · intro w hSw; clear hSw; go_simp; try (with_reducible rfl)
  try simp only [Act.put, List.setIfInBounds_toArray, List.set_cons_zero, List.set_cons_succ]
  refine wpAnyH_ready (rs := [26]) (by kernel_rfl) (by simp) ?_
  refine (AllReadyH.cons rfl (fun K hK => ?_) AllReadyH.nil)
  go_simp
  clear hcvc; refine (C4.out _ HRc.out).mono ?_; rintro e wd ⟨rfl, hrd, hgd⟩; have HRd := hide hrd; have HBd := hide (HBc.out.grown hgd HBc.out.size (by intro k hk; cases hk; exact hrbw)); have HQd := hide (bytes_kept HQc.out hgd (fun a ha => by cases ha; simp; omega)); clear hrd hgd HRc HQc HBc
  go_wp2_with fail
  refine hK.out _ _ ?_ (fun hHeld => ?_)
  · exact HBd
  clear hK K
  try simp only [Act.put, List.setIfInBounds_toArray, List.set_cons_zero, List.set_cons_succ]
  refine take_dstH (i := 28) (d := 68) (v := ?_) rfl rfl (by kernel_rfl) (by kernel_rfl) (by kernel_rfl) (fun _ _ _ h => h) (by rfl) hHeld ?_ ?_
  rotate_left
  · intro w hSw; clear hSw; go_simp; try (with_reducible rfl)
  try simp only [Act.put, List.setIfInBounds_toArray, List.set_cons_zero, List.set_cons_succ]
  refine take_dstH (i := 29) (d := 69) (v := ?_) rfl rfl (by kernel_rfl) (by kernel_rfl) (by kernel_rfl) (fun _ _ _ h => h) (by rfl) hHeld ?_ ?_
  rotate_left
  · intro w hSw; clear hSw; go_simp; try (with_reducible rfl)
  try simp only [Act.put, List.setIfInBounds_toArray, List.set_cons_zero, List.set_cons_succ]
  refine take_dstH (i := 30) (d := 70) (v := ?_) rfl rfl (by kernel_rfl) (by kernel_rfl) (by kernel_rfl) (fun _ _ _ h => h) (by rfl) hHeld ?_ ?_
  rotate_left
  · intro w hSw; clear hSw; go_simp; try (with_reducible rfl)
  try simp only [Act.put, List.setIfInBounds_toArray, List.set_cons_zero, List.set_cons_succ]
  refine take_dstH (i := 31) (d := 71) (v := ?_) rfl rfl (by kernel_rfl) (by kernel_rfl) (by kernel_rfl) (fun _ _ _ h => h) (by rfl) hHeld ?_ ?_
  rotate_left
  · intro w hSw; clear hSw; go_simp; try (with_reducible rfl)
  try simp only [Act.put, List.setIfInBounds_toArray, List.set_cons_zero, List.set_cons_succ]
  refine wpAnyH_ready (rs := [32]) (by kernel_rfl) (by simp) ?_
  refine (AllReadyH.cons rfl (fun K hK => ?_) AllReadyH.nil)
  go_simp
  refine (err_rd rb _ _ _ HRd.out).mono ?_; rintro e wx ⟨rfl, hwx⟩; subst hwx
  go_wp2_with fail
  refine hK.out _ _ ?_ (fun hHeld => ?_)
  · exact hHeld
  clear hK K
  try simp only [Act.put, List.setIfInBounds_toArray, List.set_cons_zero, List.set_cons_succ]
  refine take_dstH (i := 33) (d := 73) (v := ?_) rfl rfl (by kernel_rfl) (by kernel_rfl) (by kernel_rfl) (fun _ _ _ h => h) (by rfl) hHeld ?_ ?_
  rotate_left
  · intro w hSw; clear hSw; go_simp; try (with_reducible rfl)
  try simp only [Act.put, List.setIfInBounds_toArray, List.set_cons_zero, List.set_cons_succ]
  refine take_dstH (i := 34) (d := 74) (v := ?_) rfl rfl (by kernel_rfl) (by kernel_rfl) (by kernel_rfl) (fun _ _ _ h => h) (by rfl) hHeld ?_ ?_
  rotate_left
  · intro w hSw; clear hSw; go_simp; try (with_reducible rfl)
  try simp only [Act.put, List.setIfInBounds_toArray, List.set_cons_zero, List.set_cons_succ]
  refine take_dstH (i := 35) (d := 75) (v := ?_) rfl rfl (by kernel_rfl) (by kernel_rfl) (by kernel_rfl) (fun _ _ _ h => h) (by rfl) hHeld ?_ ?_
  rotate_left
  · intro w hSw; clear hSw; go_simp; try (with_reducible rfl)
  try simp only [Act.put, List.setIfInBounds_toArray, List.set_cons_zero, List.set_cons_succ]
  refine take_dstH (i := 36) (d := 76) (v := ?_) rfl rfl (by kernel_rfl) (by kernel_rfl) (by kernel_rfl) (fun _ _ _ h => h) (by rfl) hHeld ?_ ?_
  rotate_left
  · intro w hSw; clear hSw; go_simp; try (with_reducible rfl)
  try simp only [Act.put, List.setIfInBounds_toArray, List.set_cons_zero, List.set_cons_succ]
  refine take_dstH (i := 39) (d := 79) (v := ?_) rfl rfl (by kernel_rfl) (by kernel_rfl) (by kernel_rfl) (fun _ _ _ h => h) (by rfl) hHeld ?_ ?_
  rotate_left
  · intro w hSw; clear hSw; go_simp; try (with_reducible rfl)
  try simp only [Act.put, List.setIfInBounds_toArray, List.set_cons_zero, List.set_cons_succ]
  refine take_dstH (i := 40) (d := 80) (v := ?_) rfl rfl (by kernel_rfl) (by kernel_rfl) (by kernel_rfl) (fun _ _ _ h => h) (by rfl) hHeld ?_ ?_
  rotate_left
  · intro w hSw; have hfS := HCB.out w hSw; clear hSw; go_simp; try (with_reducible rfl)
  try simp only [Act.put, List.setIfInBounds_toArray, List.set_cons_zero, List.set_cons_succ]
  refine wpAnyH_ready (rs := [37]) (by kernel_rfl) (by simp) ?_
  refine (AllReadyH.cons rfl (fun K hK => ?_) AllReadyH.nil)
  go_simp
  refine (C5.out _ HRd.out).mono ?_; rintro e we ⟨ve, rfl, hoe, hre, hge⟩; have HRe := hide hre; have HBe := hide (HBd.out.grown hge HBd.out.size (by intro k hk; cases hk; exact hrbw)); have HQe := hide (bytes_kept HQd.out hge (fun a ha => by cases ha; simp; omega)); obtain ⟨qe, ce, hve, _, _, hye, _⟩ := own_bytes (xs := ys) (by rw [HLY.out]; exact hoe) HA'.out.1.1; rw [HLY.out] at hve; subst hve; have hcve := conv_any hye ly ce HLY.out; clear hre hge hoe hye HRd HQd HBd
  go_wp2_with fail
  refine hK.out _ _ ?_ (fun hHeld => ?_)
  · exact HBe
  clear hK K
  try simp only [Act.put, List.setIfInBounds_toArray, List.set_cons_zero, List.set_cons_succ]
  refine wpAnyH_ready (rs := [38]) (by kernel_rfl) (by simp) ?_
  refine (AllReadyH.cons rfl (fun K hK => ?_) AllReadyH.nil)
  go_simp
  refine hK.out _ _ ?_ (fun hHeld => ?_)
  · exact hHeld
  clear hK K
  try simp only [Act.put, List.setIfInBounds_toArray, List.set_cons_zero, List.set_cons_succ]
  refine take_dstH (i := 41) (d := 81) (v := ?_) rfl rfl (by kernel_rfl) (by kernel_rfl) (by kernel_rfl) (fun _ _ _ h => h) (by rfl) hHeld ?_ ?_
  rotate_left
  · intro w hSw; clear hSw; go_simp; try (with_reducible rfl)
  try simp only [Act.put, List.setIfInBounds_toArray, List.set_cons_zero, List.set_cons_succ]
  refine take_dstH (i := 42) (d := 82) (v := ?_) rfl rfl (by kernel_rfl) (by kernel_rfl) (by kernel_rfl) (fun _ _ _ h => h) (by rfl) hHeld ?_ ?_
  rotate_left
  · intro w hSw; clear hSw; go_simp; try (with_reducible rfl)
  try simp only [Act.put, List.setIfInBounds_toArray, List.set_cons_zero, List.set_cons_succ]
  refine take_dstH (i := 43) (d := 83) (v := ?_) rfl rfl (by kernel_rfl) (by kernel_rfl) (by kernel_rfl) (fun _ _ _ h => h) (by rfl) hHeld ?_ ?_
  rotate_left
  · intro w hSw; clear hSw; go_simp; try (with_reducible rfl)
  try simp only [Act.put, List.setIfInBounds_toArray, List.set_cons_zero, List.set_cons_succ]
  refine take_dstH (i := 44) (d := 84) (v := ?_) rfl rfl (by kernel_rfl) (by kernel_rfl) (by kernel_rfl) (fun _ _ _ h => h) (by rfl) hHeld ?_ ?_
  rotate_left
  · intro w hSw; clear hSw; go_simp; try (with_reducible rfl)
  try simp only [Act.put, List.setIfInBounds_toArray, List.set_cons_zero, List.set_cons_succ]
  refine wpAnyH_ready (rs := [45]) (by kernel_rfl) (by simp) ?_
  refine (AllReadyH.cons rfl (fun K hK => ?_) AllReadyH.nil)
  go_simp
  clear hcve; refine (end_at rb _ _ _ HRe.out).mono ?_; rintro e wy ⟨rfl, hwy⟩; subst hwy; rw [show endOf [] 0 = 0 from rfl]
  go_wp2_with fail
  refine hK.out _ _ ?_ (fun hHeld => ?_)
  · exact hHeld
  clear hK K
  try simp only [Act.put, List.setIfInBounds_toArray, List.set_cons_zero, List.set_cons_succ]
  refine take_dstH (i := 46) (d := 86) (v := ?_) rfl rfl (by kernel_rfl) (by kernel_rfl) (by kernel_rfl) (fun _ _ _ h => h) (by rfl) hHeld ?_ ?_
  rotate_left
  · intro w hSw; clear hSw; go_simp; try (with_reducible rfl)
  try simp only [Act.put, List.setIfInBounds_toArray, List.set_cons_zero, List.set_cons_succ]
  refine take_dstH (i := 47) (d := 87) (v := ?_) rfl rfl (by kernel_rfl) (by kernel_rfl) (by kernel_rfl) (fun _ _ _ h => h) (by rfl) hHeld ?_ ?_
  rotate_left
  · intro w hSw; clear hSw; go_simp; try (with_reducible rfl)
  try simp only [Act.put, List.setIfInBounds_toArray, List.set_cons_zero, List.set_cons_succ]
  refine wpAnyH_done (by kernel_rfl) ?_ _
  clear C1 C2 C3 C4 C5 HCS HCB HRe HR11 HB11 HQ11
  by_cases hcut1 : cut < 0
  · go_wp2
    go_ret
    exact ⟨rfl, HBe.out⟩
  have hcut1' : decide (cut < 0) = false := by simpa using hcut1
  by_cases hcut2 : (k9 : Int) ≤ cut
  · go_wp2
    go_ret
    exact ⟨rfl, HBe.out⟩
  obtain ⟨c, rfl⟩ := Int.eq_ofNat_of_zero_le (show 0 ≤ cut by omega)
  have hck : c < k9 := by omega
  have hcut2' : decide (k9 ≤ c) = false := by simp; omega
  have hup := fun w => run_upto w (some ⟨g7, 0, none⟩) k9 c7 c (by omega)
  have hlc : (z9.take c).length = c := by have := HK7.out; simp; omega
  have hop := open_any (some ⟨g7, 0, none⟩) c7 (z9.take c) wy (by omega) (bytes_upto HQe.out c)
  rw [hlc] at hop
  have HOP := hide hop
  clear hop hlc hcut1 hcut2
  go_wp2_with fail
  refine (show Calls _ _ _ _ _ from HOP.out).mono ?_
  rintro e w12 ⟨rc, rfl, hrc, hrd, hb⟩
  have hrcw : w.heap.size ≤ rc := Nat.le_trans HBe.out.size hrc
  have HB12 := hide (HBe.out.trans (hb.mono HBe.out.size))
  have HR12 := hide hrd
  clear hrd hb HOP HBe HQe hrc
  have hce := fun b1 b2 b3 b4 x1 x2 x3 x4 => cut_err n m xs hn hm (by have := HLX.out; omega) c (by rw [← HZ.out, HK7.out]; exact hck) (z9.take c) b1 b2 b3 b4 x1 x2 x3 x4 (by rw [HZ.out])
  rw [HLX.out] at hce
  have HCE := hide hce
  clear hce hup
  generalize z9.take c = b0 at *
  go_wp2_with fail
  refine (rnum_any rc b0 0 _ HR12.out).mono ?_
  rintro e w13 ⟨rfl, hrd, hg⟩
  have HB13 := hide (HB12.out.grown hg HB12.out.size (by intro k hk; cases hk; exact hrcw))
  rcases h1 : (sNum b0 0).2 with ⟨b1, x1⟩
  rw [h1] at hrd
  have H1 := hide h1
  have HR13 := hide hrd
  generalize (sNum b0 0).1 = u1 at *
  clear hrd hg h1 HB12 HR12
  go_wp2_with fail
  refine (rfix_any rc 8 b1 x1 _ HR13.out).mono ?_
  rintro e w14 ⟨rfl, hrd, hg⟩
  have HB14 := hide (HB13.out.grown hg HB13.out.size (by intro k hk; cases hk; exact hrcw))
  rcases h2 : (sFix 8 b1 x1).2 with ⟨b2, x2⟩
  rw [h2] at hrd
  have H2 := hide h2
  have HR14 := hide hrd
  generalize (sFix 8 b1 x1).1 = u2 at *
  clear hrd hg h2 HB13 HR13
  go_wp2_with fail
  refine (rtxt_any rc lx (by omega) b2 x2 _ HR14.out).mono ?_
  rintro e w15 ⟨v15, rfl, ho15, hrd, hg⟩
  have HB15 := hide (HB14.out.grown hg HB14.out.size (by intro k hk; cases hk; exact hrcw))
  rcases h3 : (sTxt (lx : Int) b2 x2).2 with ⟨b3, x3⟩
  rw [h3] at hrd
  have H3 := hide h3
  have HR15 := hide hrd
  clear hrd hg h3 HB14 HR14 ho15
  go_wp2_with fail
  refine (rnum_any rc b3 x3 _ HR15.out).mono ?_
  rintro e w16 ⟨rfl, hrd, hg⟩
  have HB16 := hide (HB15.out.grown hg HB15.out.size (by intro k hk; cases hk; exact hrcw))
  rcases h4 : (sNum b3 x3).2 with ⟨b4, x4⟩
  rw [h4] at hrd
  obtain rfl : x4 = 4 := HCE.out b1 b2 b3 b4 x1 x2 x3 x4 H1.out H2.out H3.out h4
  have HR16 := hide hrd
  generalize (sNum b3 x3).1 = u4 at *
  clear hrd hg h4 HB15 HR15 HCE
  go_wp2_with fail
  refine (err_rd rc _ _ _ HR16.out).mono ?_
  rintro e w17 ⟨rfl, hw17⟩
  subst hw17
  go_wp2_with fail
  refine (end_at rc _ _ _ HR16.out).mono ?_
  rintro e w18 ⟨rfl, hw18⟩
  subst hw18
  rw [show endOf b4 4 = 4 from rfl]
  go_wp2
  go_ret
  exact ⟨rfl, HB16.out⟩

theorem walk (a0 a1 : Int) (p : Option Addr) (cp : Nat) (xs : List Int) (q : Option Addr) (cq : Nat) (ys : List Int) (cut : Int) (w : World) (w0 : (Lit.int .u64 a0).wf = true) (w1 : (Lit.int .u64 a1).wf = true) (w2 : Arg w p cp xs) (w3 : Arg w q cq ys) (w4 : (Lit.int .i64 cut).wf = true) :
    Calls Try.prog 6 #[.int .u64 a0, .int .u64 a1, .slice p xs.length cp, .slice q ys.length cq, .int .i64 cut] w fun e w' => e = .returned (.bool true) ∧ Below w.heap.size w w' := by
  obtain ⟨n, rfl, hn⟩ := wf_u64 w0
  obtain ⟨m, rfl, hm⟩ := wf_u64 w1
  by_cases h : 2000 < xs.length ∨ 2000 < ys.length
  · exact walk_long n m p cp xs q cq ys cut w h
  · exact walk_nat n m hn hm p cp xs q cq ys cut w w2 w3 (by omega) (by omega)

theorem own : ownKnob Try.prog.godebug = none := by kernel_rfl
theorem laidOut : laidOutB Try.prog = true := by kernel_rfl
set_option maxRecDepth 100000 in
theorem lifted (os : Os) (started : os.Started) (H : Type) (enc : TypeId × Value → H) :
    ReturnsInHanded {} Try.checked os 6 .any (Rows.wireBackSpec.pre6 enc Try.prog Try.f6 Rows.wireBackRow.domain false) (Rows.wireBackSpec.post enc Try.prog Try.f6 false true false false) := by
  refine returnsInHanded_of_change (C := Try.checked) own started (by kernel_rfl) Try.func6
    (ChangeSpec.witness6 (enc := enc) (C := Try.checked) false ⟨#[], #[.int .u64 0, .int .u64 0, .slice none 0 0, .slice none 0 0, .int .i64 0], []⟩ 8 (by kernel_rfl) (by kernel_rfl) (by kernel_rfl) (by kernel_rfl)) ?_
  intro W base args ds gs before hval0 hW hcnd _
  have hval : ∀ (j : Nat) t v, Try.f6.params[j]? = some t → args[j]? = some v → Value.okWide Try.prog W .any base t v := hval0
  have hW' := hW
  obtain ⟨p, q, hA0, hV, rfl, hfz, hnd⟩ := hW
  have hA : DataW.TrodAll enc Try.prog W 0 (fun _ => true) true Try.f6.params.toList args.toList ds p := hA0
  rw [Try.params6] at hA hval
  obtain ⟨v0, vs0, d0, ds0, p0, q0, hargs, rfl, rfl, h0, r0⟩ := trodAll_cons hA
  obtain ⟨v1, vs1, d1, ds1, p1, q1, rfl, rfl, rfl, h1, r1⟩ := trodAll_cons r0
  obtain ⟨v2, vs2, d2, ds2, p2, q2, rfl, rfl, rfl, h2, r2⟩ := trodAll_cons r1
  obtain ⟨v3, vs3, d3, ds3, p3, q3, rfl, rfl, rfl, h3, r3⟩ := trodAll_cons r2
  obtain ⟨v4, vs4, d4, ds4, p4, q4, rfl, rfl, rfl, h4, r4⟩ := trodAll_cons r3
  obtain ⟨rfl, rfl, rfl⟩ := trodAll_nil r4
  obtain rfl : args = #[v0, v1, v2, v3, v4] := by cases args; simp_all
  obtain ⟨rfl, rfl⟩ := trodVars_none hV
  obtain ⟨a0, rfl, rfl, rfl, w0⟩ := open_int Try.underlying22 (hval 0 22 v0 rfl rfl) h0
  obtain ⟨a1, rfl, rfl, rfl, w1⟩ := open_int Try.underlying22 (hval 1 22 v1 rfl rfl) h1
  obtain ⟨a2, len2, cap2, rfl⟩ := okWide_slice Try.underlying23 (hval 2 23 v2 rfl rfl)
  have k2 := h2
  have lt2 : ∀ x ∈ p2, x.block < W.heap.size := by obtain ⟨m, hm⟩ := k2; exact DataW.trod_lt m _ _ _ hm
  obtain ⟨z2, hz2, w2⟩ : ∃ xs : List Int, xs.length = len2 ∧ Arg W a2 cap2 xs := by
    obtain ⟨fuel, hf⟩ := h2
    rcases open_ints Try.underlying23 Try.underlying5 (by kernel_rfl) hf with ⟨hcs, _⟩ | ⟨x, l, c, zs, hcs, _, hl, hm, hz, _, hcell, hwz⟩
    · simp [Value.cells] at hcs
      obtain ⟨rfl, rfl, rfl⟩ := hcs
      exact ⟨[], rfl, ⟨by simp, Or.inl rfl⟩, Nat.le_refl _, Nat.zero_le _, fun _ => rfl⟩
    · simp [Value.cells] at hcs
      obtain ⟨rfl, rfl, rfl⟩ := hcs
      exact bytes_of_row hl hm (by simpa using hz) hcell hwz
  subst hz2
  obtain ⟨a3, len3, cap3, rfl⟩ := okWide_slice Try.underlying23 (hval 3 23 v3 rfl rfl)
  have k3 := h3
  have lt3 : ∀ x ∈ p3, x.block < W.heap.size := by obtain ⟨m, hm⟩ := k3; exact DataW.trod_lt m _ _ _ hm
  obtain ⟨z3, hz3, w3⟩ : ∃ xs : List Int, xs.length = len3 ∧ Arg W a3 cap3 xs := by
    obtain ⟨fuel, hf⟩ := h3
    rcases open_ints Try.underlying23 Try.underlying5 (by kernel_rfl) hf with ⟨hcs, _⟩ | ⟨x, l, c, zs, hcs, _, hl, hm, hz, _, hcell, hwz⟩
    · simp [Value.cells] at hcs
      obtain ⟨rfl, rfl, rfl⟩ := hcs
      exact ⟨[], rfl, ⟨by simp, Or.inl rfl⟩, Nat.le_refl _, Nat.zero_le _, fun _ => rfl⟩
    · simp [Value.cells] at hcs
      obtain ⟨rfl, rfl, rfl⟩ := hcs
      exact bytes_of_row hl hm (by simpa using hz) hcell hwz
  subst hz3
  obtain ⟨a4, rfl, rfl, rfl, w4⟩ := open_int Try.underlying3 (hval 4 3 v4 rfl rfl) h4
  clear hA0 hval0
  refine (walk a0 a1 a2 cap2 z2 a3 cap3 z3 a4 W w0 w1 w2 w3 w4).mono fun e W' ⟨he, bel⟩ => ?_
  subst he
  exact ⟨_, rfl, _, _, _, [], _, [], hW', trodAll_mk1 (shut_bool Try.underlying4 _), (trodAll_cons_mk (shut_int Try.underlying22 w0) (trodAll_cons_mk (shut_int Try.underlying22 w1) (trodAll_cons_mk (Below.trod laidOut (by kernel_rfl) (of_decide_eq_true (by kernel_rfl)) k2 bel lt2) (trodAll_cons_mk (Below.trod laidOut (by kernel_rfl) (of_decide_eq_true (by kernel_rfl)) k3 bel lt3) (trodAll_cons_mk (shut_int Try.underlying3 w4) trodAll_mk0))))), rfl, bel.frame _, fun h => by cases h⟩

theorem over : Rows.wireBackRow.holds Try.pinned (OpenSpec.ofChange Rows.wireBackSpec) :=
  OpenClaim.holds_of_wide 6 Try.f6 rfl rfl rfl rfl rfl rfl rfl ⟨rfl, rfl, rfl, rfl, rfl⟩ rfl rfl rfl rfl rfl (by kernel_rfl) Try.func6 (by kernel_rfl)
    (of_decide_eq_true (by kernel_rfl)) (by unfold Func.isWrapper; first | (rw [if_pos (by decide +kernel)]; kernel_rfl) | (rw [if_neg (by decide +kernel)]; exact ⟨rfl, rfl⟩))
    (fun os started H enc _ => lifted os started H enc)

end WireBackProof

/-- What was put is read again, one behind the other, whatever stands behind it; cut anywhere within it is ErrBytes. -/
theorem wireBack_holds : Rows.WireBackSaid := WireBackProof.over

#print axioms wireBack_holds
end Go.Proofs.Ytmkoefnnpficfaa
