/-
  Walks of the reference's numbers: Prime, root, Start, Turn.
-/
import Derived.Test.YtfopjobcjafgaabDoorSK
namespace Go.Proofs.YtfopjobcjafgaabDoor
open Go.RowKit

theorem cnt_succ (n : Nat) (h2 : 2 ≤ n) : cntPr (n + 1) = cntPr n + if isPr n = true then 1 else 0 := by
  rw [cntPr]
  by_cases h : isPr n = true <;> simp [h, h2]

theorem cnt_mono {a b : Nat} (h : a ≤ b) : cntPr a ≤ cntPr b := by
  induction b with
  | zero => have : a = 0 := by omega
            subst this; exact Nat.le_refl _
  | succ b ih =>
    by_cases e : a = b + 1
    · subst e; exact Nat.le_refl _
    · have := ih (by omega)
      rw [cntPr]; omega

set_option maxHeartbeats 1000000 in
set_option maxRecDepth 100000 in
theorem prime_any (k : Nat) (hk : k < 64) (w : World) :
    Calls Tryd.prog 36 #[.int .i64 k] w fun e w' => e = .returned (.int .u64 ((primeT.getD k 0 : Nat) : Int)) ∧ w' = w := by
  obtain ⟨hp1, hp2, hp3, hp4⟩ := prime_is k hk
  have HAT : Hid (∀ n, n < 312 → 2 ≤ n → isPr n = true → primeT.getD (cntPr n) 0 = n) := prime_at
  generalize hpk : primeT.getD k 0 = p at *
  have HPK : Hid (primeT.getD k 0 = p) := hpk
  clear hpk
  have HP1 : Hid (isPr p = true) := hp1
  have HP2 : Hid (cntPr p = k) := hp2
  clear hp1 hp2
  have c2 : cntPr 2 = 0 := by decide
  have HC2 : Hid (cntPr 2 = 0) := c2
  clear c2
  go_enter Tryd.func36, Tryd.ntmps36
  go_wp2
  go_loopg [0, 3, 4, 5] 312 (fun f s0 s3 _ _ wr => ∃ (j n : Nat), s0 = .int .i64 j ∧ s3 = .int .u64 n ∧ 2 ≤ n ∧ n ≤ p ∧ cntPr n + j = k ∧ p - n < f ∧ wr = w)
  case atStart => exact ⟨k, 2, rfl, rfl, by omega, by omega, by rw [HC2.out]; omega, by omega, rfl⟩
  case round =>
    obtain ⟨j, n, rfl, rfl, hn2, hnp, hcj, hf, rfl⟩ := hrel
    have HCJ : Hid (cntPr n + j = k) := hcj
    clear hcj
    go_wp2
    go_loopg [4, 5] 312 (fun f s4 s5 wr2 => ∃ (d : Nat), s5 = .int .u64 d ∧ s4 = .bool (okTo n d) ∧ 2 ≤ d ∧ d ≤ n ∧ n - d < f ∧ wr2 = wr)
    case atStart => exact ⟨2, rfl, by simp [okTo], by omega, by omega, by omega, rfl⟩
    case round =>
      obtain ⟨d, rfl, rfl, hd2, hdn, hfd, rfl⟩ := hrel
      have HOK : Hid (okTo n (d + 1) = (okTo n d && (n % d != 0))) := by
        show _ = _
        rw [okTo, decide_eq_false (by omega)]; simp
      by_cases hlt : d < n
      · have hd0 : ((d : Int) == 0) = false := by simp; omega
        generalize hb : okTo n d = bb at *
        by_cases hm : n % d = 0
        · have hm' : (n : Int) % (d : Int) = 0 := by omega
          go_wp2
          go_roundg (n - d)
          case measure => omega
          case rel => exact ⟨d + 1, by go_num, by rw [HOK.out]; simp [hm], by omega, by omega, by omega, rfl⟩
        · have hm' : ¬ (n : Int) % (d : Int) = 0 := by omega
          go_wp2
          go_roundg (n - d)
          case measure => omega
          case rel => exact ⟨d + 1, by go_num, by rw [HOK.out]; simp [hm], by omega, by omega, by omega, rfl⟩
      · have e : d = n := by omega
        subst e
        have HI : Hid (isPr d = okTo d d) := rfl
        by_cases hpr : okTo d d = true
        · rw [hpr]
          have HPR : Hid (isPr d = true) := hpr
          clear hpr
          by_cases hj : j = 0
          · subst hj
            go_wp2
            go_ret
            have h1 := HAT.out d (by omega) hn2 HPR.out
            have h2 : cntPr d = k := HCJ.out
            rw [h2, HPK.out] at h1
            exact ⟨by rw [h1]; rfl, rfl⟩
          · have hj' : ((j : Int) == 0) = false := by simp; omega
            have hne : d ≠ p := fun e => by have h1 := HP2.out; have h2 := HCJ.out; rw [e] at h2; omega
            have hj64 : j < 64 := by have h2 := HCJ.out; omega
            have hj1 : 1 ≤ j := by omega
            have hs := cnt_succ d hn2
            rw [if_pos HPR.out] at hs
            have HS : Hid (cntPr (d + 1) = cntPr d + 1) := hs
            clear hs
            go_wp2
            go_roundg (p - d)
            case measure => omega
            case rel => exact ⟨j - 1, d + 1, by first | go_num | (congr 1; omega), by go_num, by omega, by omega, by have h1 := HS.out; have h2 := HCJ.out; omega, by omega, rfl⟩
        · have hf' : okTo d d = false := by simpa using hpr
          rw [hf']
          have hne : d ≠ p := fun e => by have h1 := HP1.out; rw [← e] at h1; exact hpr h1
          have hs := cnt_succ d hn2
          rw [if_neg (show ¬ isPr d = true from hpr)] at hs
          have HS : Hid (cntPr (d + 1) = cntPr d + 0) := hs
          clear hs hpr hf'
          go_wp2
          go_roundg (p - d)
          case measure => omega
          case rel => exact ⟨j, d + 1, rfl, by go_num, by omega, by omega, by have h1 := HS.out; have h2 := HCJ.out; omega, by omega, rfl⟩


theorem digits_int (x : Int) (h0 : 0 ≤ x) (h1 : x < 18446744073709551616) (w : World) :
    Calls Tryd.prog 40 #[.int .u64 x] w fun e w' => ∃ v, e = .returned v ∧ Dg w' v (digitsF x.toNat) ∧ Below w.heap.size w w' := by
  obtain ⟨n, rfl⟩ := Int.eq_ofNat_of_zero_le h0
  exact digits_any n (by omega) w

theorem val_most (n s : Nat) (hn : n < 18446744073709551616) : val (List.replicate s 0 ++ digitsF n) = n * 65536 ^ s := by
  rw [val_append, val_replicate, val_digitsF n hn, List.length_replicate, Nat.zero_add, Nat.mul_comm]

theorem most_lt (n s : Nat) : ∀ d ∈ List.replicate s 0 ++ digitsF n, d < 65536 := by
  intro d hd
  rcases List.mem_append.1 hd with h | h
  · rw [List.eq_of_mem_replicate h]; omega
  · exact digitsF_lt n d h

theorem Dg.news {w : World} {g cap n : Nat} {l : List Nat} (h : Dg w (.slice (some ⟨g, 0, none⟩) n cap) l) : n = l.length ∧ ∀ j u, (u64s l)[j]? = some u → w.cell? ((⟨g, 0, none⟩ : Addr).add j) = some u := by
  obtain ⟨g', cap', he, _, _, hc⟩ := h
  cases he
  refine ⟨rfl, fun j u hj => ?_⟩
  have hjn : j < l.length := by
    have := (List.getElem?_eq_some_iff.1 hj).1
    simpa [u64s_length] using this
  have h1 := hc j hjn
  rw [u64s_at hjn] at hj
  cases hj
  rw [show (⟨g, 0, none⟩ : Addr).add j = ⟨g, j, none⟩ by unfold Addr.add; split <;> simp_all]
  exact h1

theorem one_u64s (l : List Nat) : ∀ u ∈ u64s l, u.oneCell' = true := by
  intro u hu
  obtain ⟨x, _, rfl⟩ := List.mem_map.1 hu
  rfl

theorem Dg.most {w : World} {B s n : Nat} {v : Value} (h : w.ownsRow B 48 1 v (s + 4) (u64s (List.replicate s 0) ++ u64s (digitsF n))) : Dg w v (List.replicate s 0 ++ digitsF n) := by
  have e1 : (List.replicate s 0 ++ digitsF n).length = s + 4 := by simp [digitsF]
  have e2 : u64s (List.replicate s 0 ++ digitsF n) = u64s (List.replicate s 0) ++ u64s (digitsF n) := by simp [u64s]
  exact Dg.of_own (B := B) (by rw [e1, e2]; exact h) (by rw [e1]; omega)

theorem made_u64 (n : Nat) : (madeCells (Value.cells (.int .u64 0)) (n * 1)).toList = u64s (List.replicate n 0) := by
  rw [Nat.mul_one]
  show (madeCells #[Value.int .u64 0] n).toList = _
  rw [toList_madeCells_one]; simp [u64s]

set_option maxHeartbeats 2000000 in
set_option maxRecDepth 100000 in
theorem root_two (n : Nat) (hn : n < 1000) (w : World) :
    Calls Tryd.prog 35 #[.int .u64 n, .bool false] w fun e w' => e = .returned (.int .u64 ((rootF 2 n 40 0 : Nat) : Int)) ∧ Below w.heap.size w w' := by
  obtain ⟨i0, hi, hz0, hz1, hz2⟩ := info_parts infoU64
  go_enter Tryd.func35, Tryd.ntmps35
  go_upto_region 4 with fail
  go_cut [6] (fun s6 wc => ∃ v, v = s6 ∧ Dg wc v (List.replicate 4 0 ++ digitsF n) ∧ Below w.heap.size w wc)
  case first =>
    refine wp_region_any (by kernel_rfl) ?_
    try (change wpAny _ _ _ _ _ _ _ (World.drew _))
    refine take_dst (i := 0) (d := 12) (v := ?_) rfl rfl (by kernel_rfl) (by kernel_rfl) (by kernel_rfl) (fun _ _ _ h => h) (by rfl) ?_ ?_
    rotate_left
    · intro wZ; go_simp; first | (with_reducible rfl) | (rw [if_pos (by omega)]; with_reducible rfl) | skip
    try simp only [Act.put, List.setIfInBounds_toArray, List.set_cons_zero, List.set_cons_succ]
    refine take_dst (i := 2) (d := 14) (v := ?_) rfl rfl (by kernel_rfl) (by kernel_rfl) (by kernel_rfl) (fun _ _ _ h => h) (by rfl) ?_ ?_
    rotate_left
    · intro wZ; go_simp; first | (with_reducible rfl) | (rw [if_pos (by omega)]; with_reducible rfl) | skip
    try simp only [Act.put, List.setIfInBounds_toArray, List.set_cons_zero, List.set_cons_succ]
    refine wpAny_ready (rs := [1, 3]) (by kernel_rfl) (by simp) ?_
    refine (AllReady.cons rfl (fun K hK => ?_) (AllReady.cons rfl (fun K hK => ?_) AllReady.nil))
    focus
      refine wp_make_full _ (d := 13) rfl (.tmp 12) (.tmp 12) 67 rfl w.heap.size 48 i0 (.int .u64 0) 1 Tryd.underlying67 hi hz0 hz1 .i64 .i64 4 4 4 rfl rfl rfl rfl (by rw [hz2]; omega) (by unfold maxLen; omega) (Nat.le_refl _) ?_; intro w1 hown hgrow; rw [made_u64] at hown; have HOW := hide hown; have HBW : Hid (Below w.heap.size w w1) := (Below.refl _ w).drew.grown hgrow (Nat.le_refl _) (by intro k hk; cases hk); clear hown hgrow
      first | (refine hK _ _ ?_; clear hK K) | (clear hK K) | skip
      try simp only [Act.put, List.setIfInBounds_toArray, List.set_cons_zero, List.set_cons_succ]
      refine wpAny_ready (rs := [3]) (by kernel_rfl) (by simp) ?_
      refine (AllReady.cons rfl (fun K hK => ?_) AllReady.nil)
      go_simp
      go_wp2_with ((go_at_call 40; refine (digits_any n (by omega) _).mono ?_; rintro e w2 ⟨v2, rfl, hd2, hb2⟩; have HDQ := hide hd2; have HOQ := hide (own_below HOW.out hb2); have HBQ : Hid (Below w.heap.size w w2) := HBW.out.trans (hb2.mono HBW.out.size); clear hd2 hb2))
      first | (refine hK _ _ ?_; clear hK K) | (clear hK K) | skip
      try simp only [Act.put, List.setIfInBounds_toArray, List.set_cons_zero, List.set_cons_succ]
      refine wpAny_ready (rs := [4]) (by kernel_rfl) (by simp) ?_
      refine (AllReady.cons rfl (fun K hK => ?_) AllReady.nil)
      obtain ⟨gq, cq, hvq, _, _⟩ := HDQ.out; subst hvq; refine wp_append_dst _ (d := 16) rfl (.tmp 13) (.tmp 15) 67 rfl w.heap.size 48 i0 (.int .u64 0) 1 8 Tryd.underlying67 hi hz0 hz1 hz2 rfl (by decide) _ 4 (u64s (List.replicate 4 0)) rfl HOQ.out ⟨gq, 0, none⟩ 4 cq (u64s (digitsF n)) rfl rfl (Dg.news HDQ.out).2 (one_u64s _) (by unfold maxLen; omega) (by omega) HBQ.out.size ?_; intro v6 w6 hown6 hgrow6; have HDG := hide (Dg.most hown6); have HB6 : Hid (Below w.heap.size w w6) := HBQ.out.grown hgrow6 HBQ.out.size (by intro k hk; exact (HOQ.out.lt k hk).1); clear hown6 hgrow6
      first | (refine hK _ _ ?_; clear hK K) | (clear hK K) | skip
      try simp only [Act.put, List.setIfInBounds_toArray, List.set_cons_zero, List.set_cons_succ]
      refine take_dst (i := 5) (d := 6) (v := ?_) rfl rfl (by kernel_rfl) (by kernel_rfl) (by kernel_rfl) (fun _ _ _ h => h) (by rfl) ?_ ?_
      rotate_left
      · intro wZ; go_simp; first | (with_reducible rfl) | (rw [if_pos (by omega)]; with_reducible rfl) | skip
      try simp only [Act.put, List.setIfInBounds_toArray, List.set_cons_zero, List.set_cons_succ]
      refine wpAny_done (by kernel_rfl) ?_ _
    rotate_left 1
    focus
      go_simp
      go_wp2_with ((go_at_call 40; refine (digits_any n (by omega) _).mono ?_; rintro e w2 ⟨v2, rfl, hd2, hb2⟩; have HD1 := hide hd2; have HBW : Hid (Below w.heap.size w w2) := (Below.refl _ w).drew.trans hb2; clear hd2 hb2))
      first | (refine hK _ _ ?_; clear hK K) | (clear hK K) | skip
      try simp only [Act.put, List.setIfInBounds_toArray, List.set_cons_zero, List.set_cons_succ]
      refine wpAny_ready (rs := [1]) (by kernel_rfl) (by simp) ?_
      refine (AllReady.cons rfl (fun K hK => ?_) AllReady.nil)
      refine wp_make_full _ (d := 13) rfl (.tmp 12) (.tmp 12) 67 rfl w.heap.size 48 i0 (.int .u64 0) 1 Tryd.underlying67 hi hz0 hz1 .i64 .i64 4 4 4 rfl rfl rfl rfl (by rw [hz2]; omega) (by unfold maxLen; omega) HBW.out.size ?_; intro w1 hown hgrow; rw [made_u64] at hown; have HOQ := hide hown; have HDQ := hide (HD1.out.kept (grown_below hgrow (Nat.le_refl _) (by intro k hk; cases hk))); have HBQ : Hid (Below w.heap.size w w1) := HBW.out.grown hgrow HBW.out.size (by intro k hk; cases hk); clear hown hgrow
      first | (refine hK _ _ ?_; clear hK K) | (clear hK K) | skip
      try simp only [Act.put, List.setIfInBounds_toArray, List.set_cons_zero, List.set_cons_succ]
      refine wpAny_ready (rs := [4]) (by kernel_rfl) (by simp) ?_
      refine (AllReady.cons rfl (fun K hK => ?_) AllReady.nil)
      obtain ⟨gq, cq, hvq, _, _⟩ := HDQ.out; subst hvq; refine wp_append_dst _ (d := 16) rfl (.tmp 13) (.tmp 15) 67 rfl w.heap.size 48 i0 (.int .u64 0) 1 8 Tryd.underlying67 hi hz0 hz1 hz2 rfl (by decide) _ 4 (u64s (List.replicate 4 0)) rfl HOQ.out ⟨gq, 0, none⟩ 4 cq (u64s (digitsF n)) rfl rfl (Dg.news HDQ.out).2 (one_u64s _) (by unfold maxLen; omega) (by omega) HBQ.out.size ?_; intro v6 w6 hown6 hgrow6; have HDG := hide (Dg.most hown6); have HB6 : Hid (Below w.heap.size w w6) := HBQ.out.grown hgrow6 HBQ.out.size (by intro k hk; exact (HOQ.out.lt k hk).1); clear hown6 hgrow6
      first | (refine hK _ _ ?_; clear hK K) | (clear hK K) | skip
      try simp only [Act.put, List.setIfInBounds_toArray, List.set_cons_zero, List.set_cons_succ]
      refine take_dst (i := 5) (d := 6) (v := ?_) rfl rfl (by kernel_rfl) (by kernel_rfl) (by kernel_rfl) (fun _ _ _ h => h) (by rfl) ?_ ?_
      rotate_left
      · intro wZ; go_simp; first | (with_reducible rfl) | (rw [if_pos (by omega)]; with_reducible rfl) | skip
      try simp only [Act.put, List.setIfInBounds_toArray, List.set_cons_zero, List.set_cons_succ]
      refine wpAny_done (by kernel_rfl) ?_ _
    all_goals
      go_wp2_with fail
      go_meet
      case rel => exact ⟨_, rfl, HDG.out, HB6.out⟩
  case rest =>
    obtain ⟨v6, rfl, hd6, hb6⟩ := hcut
    have HD : Hid (Dg wc v6 (List.replicate 4 0 ++ digitsF n)) := hd6
    clear hd6
    go_wp2
    go_loopg [7, 8] 41 (fun f s7 s8 wr => ∃ (b r : Nat), s7 = .int .u64 r ∧ s8 = .int .i64 ((b : Int) - 1) ∧ b ≤ 40 ∧ b < f ∧ r + 2 ^ b ≤ 1099511627776 ∧ rootF 2 n b r = rootF 2 n 40 0 ∧ Dg wr v6 (List.replicate 4 0 ++ digitsF n) ∧ Below w.heap.size w wr)
    case atStart => exact ⟨40, 0, rfl, rfl, by omega, by omega, by omega, rfl, HD.out, hb6⟩
    case round =>
      clear HD hb6
      obtain ⟨b, r, rfl, rfl, hb40, hf, hr, hroot, hd, hbr⟩ := hrel
      have HD : Hid (Dg wr v6 (List.replicate 4 0 ++ digitsF n)) := hd
      have HRT : Hid (rootF 2 n b r = rootF 2 n 40 0) := hroot
      clear hd hroot
      by_cases h0 : 1 ≤ b
      · obtain ⟨c, rfl⟩ : ∃ c, b = c + 1 := ⟨b - 1, by omega⟩
        have ec : ((c + 1 : Nat) : Int) - 1 = (c : Int) := by omega
        rw [ec]
        have hp1 : 1 ≤ 2 ^ c := Nat.pos_of_ne_zero (by simp)
        rw [Nat.pow_succ] at hr
        have hstep : rootF 2 n (c + 1) r = rootF 2 n c (if (r + 2 ^ c) ^ 2 ≤ n * 2 ^ (32 * 2) then r + 2 ^ c else r) := rfl
        have HST := hide hstep
        clear hstep
        have hpz : (2 : Int) ^ c = ((2 ^ c : Nat) : Int) := by simp
        generalize hP : 2 ^ c = P at *
        have HPE : Hid (2 ^ c = P) := hP
        clear hP
        have hPi : ((r : Int) + (P : Int)).toNat = r + P := by omega
        go_wp2_with fail
        refine (digits_int _ (by omega) (by omega) _).mono ?_
        rintro e w1 ⟨vx, rfl, hx, hb1⟩
        rw [hPi] at hx
        have HX1 := hide hx
        have HD1 := hide (HD.out.kept hb1)
        have HB1 : Hid (Below w.heap.size w w1) := hbr.trans (hb1.mono hbr.size)
        clear hx hb1 HD
        go_wp2_with fail
        refine (times_any vx vx _ _ _ HX1.out HX1.out (digitsF_lt _) (digitsF_lt _) (by simp [digitsF]) (by simp [digitsF])).mono ?_
        rintro e w2 ⟨vy, oy, rfl, hy, hyd, hyv, hyl, hb2⟩
        have HX2 := hide (HX1.out.kept hb2)
        have HD2 := hide (HD1.out.kept hb2)
        have HY2 := hide hy
        have HYD := hide hyd
        have HYL : Hid (oy.length = 9) := hyl
        have HYV : Hid (val oy = (r + P) * (r + P)) := by
          show _ = _
          rw [hyv, val_digitsF _ (by omega)]
        have HB2 : Hid (Below w.heap.size w w2) := HB1.out.trans (hb2.mono HB1.out.size)
        clear hy hyd hyv hyl hb2 HX1 HD1 HB1
        go_wp2_with fail
        have HYE := HY2
        have HDE := HD2
        have HYDE := HYD
        have HYLE := HYL
        have HBE := HB2
        have HYVE : Hid (val oy = (r + P) ^ 2) := by show _ = _; rw [HYV.out, Nat.pow_two]
        clear HY2 HD2 HYD HYL HB2 HYV
        refine (above_any vy v6 _ _ _ HYE.out HDE.out HYDE.out (most_lt n 4) (by rw [HYLE.out]; omega) (by simp [digitsF])).mono ?_
        rintro e w4 ⟨rfl, hw4⟩
        subst hw4
        have hval : (decide (val (List.replicate 4 0 ++ digitsF n) < val oy)) = !(decide ((r + P) ^ 2 ≤ n * 2 ^ (32 * 2))) := by
          rw [val_most n 4 (by omega), HYVE.out, ← decide_not]
          exact decide_eq_decide.2 (by rw [Nat.not_le])
        rw [hval]
        by_cases hle : (r + P) ^ 2 ≤ n * 2 ^ (32 * 2)
        · have hs := HST.out
          rw [if_pos hle, HRT.out] at hs
          have HS := hide hs.symm
          rw [decide_eq_true hle]
          clear hs hval hle
          go_wp2
          go_roundg (c + 1)
          case measure => omega
          case rel => exact ⟨c, r + P, by go_num, rfl, by omega, by omega, by rw [HPE.out]; omega, HS.out, HDE.out, HBE.out⟩
        · have hs := HST.out
          rw [if_neg hle, HRT.out] at hs
          have HS := hide hs.symm
          rw [decide_eq_false hle]
          clear hs hval hle
          go_wp2
          go_roundg (c + 1)
          case measure => omega
          case rel => exact ⟨c, r, rfl, rfl, by omega, by omega, by rw [HPE.out]; omega, HS.out, HDE.out, HBE.out⟩
      · have e : b = 0 := by omega
        subst e
        go_wp2
        go_ret
        have h1 := HRT.out
        exact ⟨by rw [← h1]; rfl, hbr⟩

set_option maxHeartbeats 2000000 in
set_option maxRecDepth 100000 in
theorem root_three (n : Nat) (hn : n < 1000) (w : World) :
    Calls Tryd.prog 35 #[.int .u64 n, .bool true] w fun e w' => e = .returned (.int .u64 ((rootF 3 n 40 0 : Nat) : Int)) ∧ Below w.heap.size w w' := by
  obtain ⟨i0, hi, hz0, hz1, hz2⟩ := info_parts infoU64
  go_enter Tryd.func35, Tryd.ntmps35
  go_upto_region 4 with fail
  go_cut [6] (fun s6 wc => ∃ v, v = s6 ∧ Dg wc v (List.replicate 6 0 ++ digitsF n) ∧ Below w.heap.size w wc)
  case first =>
    refine wp_region_any (by kernel_rfl) ?_
    try (change wpAny _ _ _ _ _ _ _ (World.drew _))
    refine take_dst (i := 0) (d := 12) (v := ?_) rfl rfl (by kernel_rfl) (by kernel_rfl) (by kernel_rfl) (fun _ _ _ h => h) (by rfl) ?_ ?_
    rotate_left
    · intro wZ; go_simp; first | (with_reducible rfl) | (rw [if_pos (by omega)]; with_reducible rfl) | skip
    try simp only [Act.put, List.setIfInBounds_toArray, List.set_cons_zero, List.set_cons_succ]
    refine take_dst (i := 2) (d := 14) (v := ?_) rfl rfl (by kernel_rfl) (by kernel_rfl) (by kernel_rfl) (fun _ _ _ h => h) (by rfl) ?_ ?_
    rotate_left
    · intro wZ; go_simp; first | (with_reducible rfl) | (rw [if_pos (by omega)]; with_reducible rfl) | skip
    try simp only [Act.put, List.setIfInBounds_toArray, List.set_cons_zero, List.set_cons_succ]
    refine wpAny_ready (rs := [1, 3]) (by kernel_rfl) (by simp) ?_
    refine (AllReady.cons rfl (fun K hK => ?_) (AllReady.cons rfl (fun K hK => ?_) AllReady.nil))
    focus
      refine wp_make_full _ (d := 13) rfl (.tmp 12) (.tmp 12) 67 rfl w.heap.size 48 i0 (.int .u64 0) 1 Tryd.underlying67 hi hz0 hz1 .i64 .i64 6 6 6 rfl rfl rfl rfl (by rw [hz2]; omega) (by unfold maxLen; omega) (Nat.le_refl _) ?_; intro w1 hown hgrow; rw [made_u64] at hown; have HOW := hide hown; have HBW : Hid (Below w.heap.size w w1) := (Below.refl _ w).drew.grown hgrow (Nat.le_refl _) (by intro k hk; cases hk); clear hown hgrow
      first | (refine hK _ _ ?_; clear hK K) | (clear hK K) | skip
      try simp only [Act.put, List.setIfInBounds_toArray, List.set_cons_zero, List.set_cons_succ]
      refine wpAny_ready (rs := [3]) (by kernel_rfl) (by simp) ?_
      refine (AllReady.cons rfl (fun K hK => ?_) AllReady.nil)
      go_simp
      go_wp2_with ((go_at_call 40; refine (digits_any n (by omega) _).mono ?_; rintro e w2 ⟨v2, rfl, hd2, hb2⟩; have HDQ := hide hd2; have HOQ := hide (own_below HOW.out hb2); have HBQ : Hid (Below w.heap.size w w2) := HBW.out.trans (hb2.mono HBW.out.size); clear hd2 hb2))
      first | (refine hK _ _ ?_; clear hK K) | (clear hK K) | skip
      try simp only [Act.put, List.setIfInBounds_toArray, List.set_cons_zero, List.set_cons_succ]
      refine wpAny_ready (rs := [4]) (by kernel_rfl) (by simp) ?_
      refine (AllReady.cons rfl (fun K hK => ?_) AllReady.nil)
      obtain ⟨gq, cq, hvq, _, _⟩ := HDQ.out; subst hvq; refine wp_append_dst _ (d := 16) rfl (.tmp 13) (.tmp 15) 67 rfl w.heap.size 48 i0 (.int .u64 0) 1 8 Tryd.underlying67 hi hz0 hz1 hz2 rfl (by decide) _ 6 (u64s (List.replicate 6 0)) rfl HOQ.out ⟨gq, 0, none⟩ 4 cq (u64s (digitsF n)) rfl rfl (Dg.news HDQ.out).2 (one_u64s _) (by unfold maxLen; omega) (by omega) HBQ.out.size ?_; intro v6 w6 hown6 hgrow6; have HDG := hide (Dg.most hown6); have HB6 : Hid (Below w.heap.size w w6) := HBQ.out.grown hgrow6 HBQ.out.size (by intro k hk; exact (HOQ.out.lt k hk).1); clear hown6 hgrow6
      first | (refine hK _ _ ?_; clear hK K) | (clear hK K) | skip
      try simp only [Act.put, List.setIfInBounds_toArray, List.set_cons_zero, List.set_cons_succ]
      refine take_dst (i := 5) (d := 6) (v := ?_) rfl rfl (by kernel_rfl) (by kernel_rfl) (by kernel_rfl) (fun _ _ _ h => h) (by rfl) ?_ ?_
      rotate_left
      · intro wZ; go_simp; first | (with_reducible rfl) | (rw [if_pos (by omega)]; with_reducible rfl) | skip
      try simp only [Act.put, List.setIfInBounds_toArray, List.set_cons_zero, List.set_cons_succ]
      refine wpAny_done (by kernel_rfl) ?_ _
    rotate_left 1
    focus
      go_simp
      go_wp2_with ((go_at_call 40; refine (digits_any n (by omega) _).mono ?_; rintro e w2 ⟨v2, rfl, hd2, hb2⟩; have HD1 := hide hd2; have HBW : Hid (Below w.heap.size w w2) := (Below.refl _ w).drew.trans hb2; clear hd2 hb2))
      first | (refine hK _ _ ?_; clear hK K) | (clear hK K) | skip
      try simp only [Act.put, List.setIfInBounds_toArray, List.set_cons_zero, List.set_cons_succ]
      refine wpAny_ready (rs := [1]) (by kernel_rfl) (by simp) ?_
      refine (AllReady.cons rfl (fun K hK => ?_) AllReady.nil)
      refine wp_make_full _ (d := 13) rfl (.tmp 12) (.tmp 12) 67 rfl w.heap.size 48 i0 (.int .u64 0) 1 Tryd.underlying67 hi hz0 hz1 .i64 .i64 6 6 6 rfl rfl rfl rfl (by rw [hz2]; omega) (by unfold maxLen; omega) HBW.out.size ?_; intro w1 hown hgrow; rw [made_u64] at hown; have HOQ := hide hown; have HDQ := hide (HD1.out.kept (grown_below hgrow (Nat.le_refl _) (by intro k hk; cases hk))); have HBQ : Hid (Below w.heap.size w w1) := HBW.out.grown hgrow HBW.out.size (by intro k hk; cases hk); clear hown hgrow
      first | (refine hK _ _ ?_; clear hK K) | (clear hK K) | skip
      try simp only [Act.put, List.setIfInBounds_toArray, List.set_cons_zero, List.set_cons_succ]
      refine wpAny_ready (rs := [4]) (by kernel_rfl) (by simp) ?_
      refine (AllReady.cons rfl (fun K hK => ?_) AllReady.nil)
      obtain ⟨gq, cq, hvq, _, _⟩ := HDQ.out; subst hvq; refine wp_append_dst _ (d := 16) rfl (.tmp 13) (.tmp 15) 67 rfl w.heap.size 48 i0 (.int .u64 0) 1 8 Tryd.underlying67 hi hz0 hz1 hz2 rfl (by decide) _ 6 (u64s (List.replicate 6 0)) rfl HOQ.out ⟨gq, 0, none⟩ 4 cq (u64s (digitsF n)) rfl rfl (Dg.news HDQ.out).2 (one_u64s _) (by unfold maxLen; omega) (by omega) HBQ.out.size ?_; intro v6 w6 hown6 hgrow6; have HDG := hide (Dg.most hown6); have HB6 : Hid (Below w.heap.size w w6) := HBQ.out.grown hgrow6 HBQ.out.size (by intro k hk; exact (HOQ.out.lt k hk).1); clear hown6 hgrow6
      first | (refine hK _ _ ?_; clear hK K) | (clear hK K) | skip
      try simp only [Act.put, List.setIfInBounds_toArray, List.set_cons_zero, List.set_cons_succ]
      refine take_dst (i := 5) (d := 6) (v := ?_) rfl rfl (by kernel_rfl) (by kernel_rfl) (by kernel_rfl) (fun _ _ _ h => h) (by rfl) ?_ ?_
      rotate_left
      · intro wZ; go_simp; first | (with_reducible rfl) | (rw [if_pos (by omega)]; with_reducible rfl) | skip
      try simp only [Act.put, List.setIfInBounds_toArray, List.set_cons_zero, List.set_cons_succ]
      refine wpAny_done (by kernel_rfl) ?_ _
    all_goals
      go_wp2_with fail
      go_meet
      case rel => exact ⟨_, rfl, HDG.out, HB6.out⟩
  case rest =>
    obtain ⟨v6, rfl, hd6, hb6⟩ := hcut
    have HD : Hid (Dg wc v6 (List.replicate 6 0 ++ digitsF n)) := hd6
    clear hd6
    go_wp2
    go_loopg [7, 8] 41 (fun f s7 s8 wr => ∃ (b r : Nat), s7 = .int .u64 r ∧ s8 = .int .i64 ((b : Int) - 1) ∧ b ≤ 40 ∧ b < f ∧ r + 2 ^ b ≤ 1099511627776 ∧ rootF 3 n b r = rootF 3 n 40 0 ∧ Dg wr v6 (List.replicate 6 0 ++ digitsF n) ∧ Below w.heap.size w wr)
    case atStart => exact ⟨40, 0, rfl, rfl, by omega, by omega, by omega, rfl, HD.out, hb6⟩
    case round =>
      clear HD hb6
      obtain ⟨b, r, rfl, rfl, hb40, hf, hr, hroot, hd, hbr⟩ := hrel
      have HD : Hid (Dg wr v6 (List.replicate 6 0 ++ digitsF n)) := hd
      have HRT : Hid (rootF 3 n b r = rootF 3 n 40 0) := hroot
      clear hd hroot
      by_cases h0 : 1 ≤ b
      · obtain ⟨c, rfl⟩ : ∃ c, b = c + 1 := ⟨b - 1, by omega⟩
        have ec : ((c + 1 : Nat) : Int) - 1 = (c : Int) := by omega
        rw [ec]
        have hp1 : 1 ≤ 2 ^ c := Nat.pos_of_ne_zero (by simp)
        rw [Nat.pow_succ] at hr
        have hstep : rootF 3 n (c + 1) r = rootF 3 n c (if (r + 2 ^ c) ^ 3 ≤ n * 2 ^ (32 * 3) then r + 2 ^ c else r) := rfl
        have HST := hide hstep
        clear hstep
        have hpz : (2 : Int) ^ c = ((2 ^ c : Nat) : Int) := by simp
        generalize hP : 2 ^ c = P at *
        have HPE : Hid (2 ^ c = P) := hP
        clear hP
        have hPi : ((r : Int) + (P : Int)).toNat = r + P := by omega
        go_wp2_with fail
        refine (digits_int _ (by omega) (by omega) _).mono ?_
        rintro e w1 ⟨vx, rfl, hx, hb1⟩
        rw [hPi] at hx
        have HX1 := hide hx
        have HD1 := hide (HD.out.kept hb1)
        have HB1 : Hid (Below w.heap.size w w1) := hbr.trans (hb1.mono hbr.size)
        clear hx hb1 HD
        go_wp2_with fail
        refine (times_any vx vx _ _ _ HX1.out HX1.out (digitsF_lt _) (digitsF_lt _) (by simp [digitsF]) (by simp [digitsF])).mono ?_
        rintro e w2 ⟨vy, oy, rfl, hy, hyd, hyv, hyl, hb2⟩
        have HX2 := hide (HX1.out.kept hb2)
        have HD2 := hide (HD1.out.kept hb2)
        have HY2 := hide hy
        have HYD := hide hyd
        have HYL : Hid (oy.length = 9) := hyl
        have HYV : Hid (val oy = (r + P) * (r + P)) := by
          show _ = _
          rw [hyv, val_digitsF _ (by omega)]
        have HB2 : Hid (Below w.heap.size w w2) := HB1.out.trans (hb2.mono HB1.out.size)
        clear hy hyd hyv hyl hb2 HX1 HD1 HB1
        go_wp2_with fail
        refine (times_any vy vx _ _ _ HY2.out HX2.out HYD.out (digitsF_lt _) (by rw [HYL.out]; omega) (by simp [digitsF])).mono ?_
        rintro e w3 ⟨vz, oz, rfl, hz, hzd, hzv, hzl, hb3⟩
        have HDE := hide (HD2.out.kept hb3)
        have HYE := hide hz
        have HYDE := hide hzd
        have HYLE : Hid (oz.length = 14) := by show _ = _; rw [hzl, HYL.out]; rfl
        have HYVE : Hid (val oz = (r + P) ^ 3) := by
          show _ = _
          rw [hzv, HYV.out, val_digitsF _ (by omega), Nat.pow_succ, Nat.pow_two]
        have HBE : Hid (Below w.heap.size w w3) := HB2.out.trans (hb3.mono HB2.out.size)
        clear hz hzd hzv hzl hb3 HX2 HD2 HY2 HYD HYL HYV HB2
        go_wp2_with fail
        refine (above_any vz v6 _ _ _ HYE.out HDE.out HYDE.out (most_lt n 6) (by rw [HYLE.out]; omega) (by simp [digitsF])).mono ?_
        rintro e w4 ⟨rfl, hw4⟩
        subst hw4
        have hval : (decide (val (List.replicate 6 0 ++ digitsF n) < val oz)) = !(decide ((r + P) ^ 3 ≤ n * 2 ^ (32 * 3))) := by
          rw [val_most n 6 (by omega), HYVE.out, ← decide_not]
          exact decide_eq_decide.2 (by rw [Nat.not_le])
        rw [hval]
        by_cases hle : (r + P) ^ 3 ≤ n * 2 ^ (32 * 3)
        · have hs := HST.out
          rw [if_pos hle, HRT.out] at hs
          have HS := hide hs.symm
          rw [decide_eq_true hle]
          clear hs hval hle
          go_wp2
          go_roundg (c + 1)
          case measure => omega
          case rel => exact ⟨c, r + P, by go_num, rfl, by omega, by omega, by rw [HPE.out]; omega, HS.out, HDE.out, HBE.out⟩
        · have hs := HST.out
          rw [if_neg hle, HRT.out] at hs
          have HS := hide hs.symm
          rw [decide_eq_false hle]
          clear hs hval hle
          go_wp2
          go_roundg (c + 1)
          case measure => omega
          case rel => exact ⟨c, r, rfl, rfl, by omega, by omega, by rw [HPE.out]; omega, HS.out, HDE.out, HBE.out⟩
      · have e : b = 0 := by omega
        subst e
        go_wp2
        go_ret
        have h1 := HRT.out
        exact ⟨by rw [← h1]; rfl, hbr⟩

end Go.Proofs.YtfopjobcjafgaabDoor
