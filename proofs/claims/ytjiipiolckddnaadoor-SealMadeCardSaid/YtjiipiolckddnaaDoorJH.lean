/-
  Several texts, joined: MF, MG.
-/
import Derived.Test.YtjiipiolckddnaaDoorJG

/- Walks: the reference's pad: a key's block, each byte turned; the reference's Of: the document's mark. -/
namespace Go.Proofs.YtjiipiolckddnaaDoor
open Go.RowKit

set_option maxHeartbeats 8000000 in
set_option maxRecDepth 100000 in
theorem pad_any (p : Option Addr) (c : Nat) (key : List Nat) (x : Nat) (w : World) (hP : Piece w p c key) (hkl : key.length ≤ 100000) (hx : x < 256) :
    Calls Tryd.prog 40 #[.slice p key.length c, .int .u8 (x : Int)] w fun e w' => ∃ v, e = .returned v ∧ w'.ownsRow w.heap.size 5 1 v 64 (u8s (xorF (kblockF key) x)) ∧ Below w.heap.size w w' := by
  have HP := hide hP
  have HS := hide (fun (v : World) (hb : Below w.heap.size w v) => refsum_of p c key v (hP.kept hb).1 hP.2.1 hkl hP.2.2.1)
  have hKL := kblockF_length key
  have HLong : Hid (64 < key.length → kblockF key = sumF key ++ List.replicate (64 - (sumF key).length) 0) := fun h => by rw [kblockF_long h, sumF_length]
  have HShort : Hid (¬ 64 < key.length → kblockF key = key ++ List.replicate (64 - key.length) 0) := fun h => kblockF_short h
  have DL := hide (sumF_length key)
  have DB := hide (sumF_bytes key)
  have HB := hide (kblockF_bytes hP.2.2.1)
  have HXL : Hid (∀ i, i ≤ 64 → (xorTo (kblockF key) x i).length = 64) := fun i hi => by show _ = _; rw [xorTo_length _ _ _ (by omega), hKL]
  have HXA : Hid (∀ i, i < 64 → (xorTo (kblockF key) x i).getD i 0 = (kblockF key).getD i 0) := fun i hi => xorTo_at _ _ _ (by omega)
  have HXS : Hid (∀ i, i < 64 → (xorTo (kblockF key) x i).set i ((kblockF key).getD i 0 ^^^ x) = xorTo (kblockF key) x (i + 1)) := fun i hi => xorTo_set _ _ _ (by omega)
  have HX0 := hide (xorTo_zero (kblockF key) x)
  have HXF := hide (xorTo_full (kblockF key) x)
  rw [hKL] at HXF
  have HKL := hide hKL
  clear hP hKL
  generalize hxt : xorTo (kblockF key) x = XT at *
  generalize hxf : xorF (kblockF key) x = XF at *
  generalize kblockF key = KB at *
  clear hxt hxf
  have ID : Hid ((Tryd.prog.info? 32).map (·.size) = some (u8s (sumF key)).toArray.size) := by show _ = _; rw [info35]; simp [u8s, DL.out]
  have OD : Hid ((u8s (List.replicate 32 0)).toArray.size = (u8s (sumF key)).toArray.size) := by show _ = _; simp [u8s, DL.out]
  generalize sumF key = D at *
  generalize hn : key.length = n at *
  have HN := hide hn
  clear hn
  go_enter Tryd.func40, Tryd.ntmps40
  go_wp2_with (at_builtin; refine wpList_append_bytes rfl (.tmp 8) (.tmp 9) rfl w.heap.size _ [] rfl 0 rfl (World.ownsRow_made w #[] 0 (Nat.le_refl _) (Nat.zero_le _) rfl) p n c key HN.out rfl (HP.out.1.kept ((Below.refl _ _).alloc (Nat.le_refl _) _)) HP.out.2.1 (by omega) (by simp) ?_)
  intro v2 w2 hown hgrow
  have O2 : Hid (w2.ownsRow w.heap.size 5 1 v2 n (u8s key)) := by
    show World.ownsRow _ _ _ _ _ _ _
    simpa using hown
  have B2 : Hid (Below w.heap.size w w2) := ((Below.refl _ w).alloc (Nat.le_refl _) _).trans (grown_below hgrow (by simp) (by intro k hk; simp [Value.ownBlock] at hk; omega))
  clear hown hgrow
  go_upto_if 13 with fail
  go_cut [5, 6] (fun s5 _ wx => ∃ (v : Value) (kk : List Nat), v = s5 ∧ Hid (wx.ownsRow w.heap.size 5 1 v kk.length (u8s kk)) ∧ kk.length ≤ 64 ∧ Hid (BytesN kk) ∧ Hid (KB = kk ++ List.replicate (64 - kk.length) 0) ∧ Hid (Below w.heap.size w wx))
  case first =>
    by_cases hbig : 64 < n
    · have hbig' : (64 : Int) < (n : Int) := by omega
      go_upto_region 3 with fail
      go_cut [6] (fun s6 wx => ∃ d, s6 = .pointer (some ⟨d, 0, none⟩) ∧ w.heap.size ≤ d ∧ Arr wx d 32 (u8s D) ∧ Below w.heap.size w wx)
      case first =>
        go_wp2_with fail
        refine (HS.out w2 B2.out).mono ?_
        rintro e w9 ⟨rfl, hb9⟩
        have B9 : Hid (Below w.heap.size w w9) := B2.out.trans (hb9.mono B2.out.size)
        clear hb9 O2 B2
        go_wp2_with (refine wpList_store_row rfl 32 _ _ rfl w9.heap.size (u8s D).toArray rfl rfl 32 (u8s (List.replicate 32 0)).toArray (heap_at w9 _ _ rfl) ID.out OD.out (all_u8s _) ?_)
        go_meet
        case rel => exact ⟨w9.heap.size, rfl, B9.out.size, (Arr.new w9 32 (u8s (List.replicate 32 0))).row _, below_setRow (B9.out.alloc B9.out.size _) B9.out.size (by simp) _⟩
      case rest =>
        clear O2 B2
        obtain ⟨d, rfl, hwd, hd, hb⟩ := hcut
        have HD := hide hd
        have HBW := hide hb
        clear hd hb
        have hsl := fun v => run_all32 v d
        go_wp2_with (at_builtin; refine wpList_append_bytes rfl (.tmp 16) (.tmp 17) rfl w.heap.size _ [] rfl 0 rfl (World.ownsRow_made wc #[] 0 HBW.out.size (Nat.zero_le _) rfl) (some ⟨d, 0, none⟩) 32 32 D DL.out rfl (bi_arr (HD.out.alloc _)) (fun e => by cases e) (by omega) (by have := HBW.out.size; simp; omega) ?_)
        intro v4 w4 hown hgrow
        have O4 : Hid (w4.ownsRow w.heap.size 5 1 v4 32 (u8s D)) := by
          show World.ownsRow _ _ _ _ _ _ _
          simpa using hown
        have B4 : Hid (Below w.heap.size w w4) := (HBW.out.alloc HBW.out.size _).grown hgrow (by have := HBW.out.size; simp; omega) (by intro k hk; have := HBW.out.size; simp [Value.ownBlock] at hk; omega)
        clear hown hgrow HD HBW hsl
        go_wp2_with fail
        go_meet
        case rel => exact ⟨v4, D, rfl, by rw [DL.out]; exact O4, by rw [DL.out]; omega, DB, HLong.out hbig, B4⟩
    · have hbig' : ¬ (64 : Int) < (n : Int) := by omega
      go_wp2
      go_meet
      case rel => exact ⟨v2, key, rfl, by rw [HN.out]; exact O2, by rw [HN.out]; omega, HP.out.2.2.1, by have h := HShort.out hbig; rw [← HN.out] at h; exact h, B2⟩
  case rest =>
    clear O2 B2 HS HLong HShort ID OD DL DB HP
    obtain ⟨v5, kk, rfl, ho, hk64, hkb, hK, hb⟩ := hcut
    go_wp2
    go_loopg [5] 65 (fun f s5 wr => ∃ (i : Nat) (v : Value), v = s5 ∧ kk.length + i ≤ 64 ∧ 64 - (kk.length + i) < f ∧ wr.ownsRow w.heap.size 5 1 v (kk ++ List.replicate i 0).length (u8s (kk ++ List.replicate i 0)) ∧ Below w.heap.size w wr)
    case atStart => exact ⟨0, v5, rfl, by omega, by omega, by simpa using ho.out, hb.out⟩
    case round =>
      clear ho hb
      obtain ⟨i, v, rfl, hi, hf, ho, hb⟩ := hrel
      have hll : (kk ++ List.replicate i 0).length = kk.length + i := by simp
      obtain ⟨pv, cv, rfl, hpv, hbv⟩ := own_piece ho (bytes_append hkb.out (zeros_bytes _))
      have HO := hide ho
      have HBW := hide hb
      rw [hll] at HO ⊢
      have HLL := hide hll
      clear ho hb hll hpv hbv
      have HSC : Hid (kk ++ List.replicate (i + 1) 0 = kk ++ List.replicate i 0 ++ [0]) := by show _ = _; rw [List.replicate_succ', ← List.append_assoc]
      have HFU : Hid (kk.length + i = 64 → kk ++ List.replicate i 0 = KB) := fun h => by rw [hK.out]; congr 2; omega
      have HL1 : Hid ((kk ++ List.replicate (i + 1) 0).length = kk.length + i + 1) := by show _ = _; simp; omega
      generalize kk ++ List.replicate i 0 = L at *
      by_cases hlt : kk.length + i < 64
      · have hlt' : (kk.length : Int) + (i : Int) < 64 := by omega
        go_wp2_with (at_builtin; refine wpList_append_bytes rfl (.tmp 22) (.tmp 23) rfl w.heap.size _ L rfl (kk.length + i) HLL.out (HO.out.alloc _) (some ⟨wr.heap.size, 0, none⟩) 1 1 [0] rfl rfl (s_bi_one wr 0) (fun e => by cases e) (by omega) (by have := HBW.out.size; simp; omega) ?_)
        intro v6 w6 hown hgrow
        have O6 : Hid (w6.ownsRow w.heap.size 5 1 v6 (kk ++ List.replicate (i + 1) 0).length (u8s (kk ++ List.replicate (i + 1) 0))) := by
          show World.ownsRow _ _ _ _ _ _ _
          rw [HL1.out, HSC.out]; exact hown
        have B6 : Hid (Below w.heap.size w w6) := (HBW.out.alloc HBW.out.size _).grown hgrow (by have := HBW.out.size; simp; omega) (fun k hk => (HO.out.lt k hk).1)
        clear hown hgrow HO HBW HSC HL1
        go_wp2
        go_roundg (64 - (kk.length + i))
        case measure => omega
        case rel => exact ⟨i + 1, v6, rfl, by omega, by omega, O6.out, B6.out⟩
      · have e64 : kk.length + i = 64 := by omega
        have hLK := HFU.out e64
        rw [e64] at HO HLL ⊢
        rw [hLK] at HO
        have hlt' : ¬ (kk.length : Int) + (i : Int) < 64 := by omega
        obtain ⟨g, cap, hv, hg, hgs, hnc, hcm⟩ := own_shape HO.out (by omega)
        simp only [Value.slice.injEq] at hv
        obtain ⟨rfl, _, rfl⟩ := hv
        unfold maxLen at hcm
        clear hlt' HFU hLK HLL HSC HL1 hgs
        go_wp2
        go_loopg [7] 65 (fun f s7 wr => ∃ (j : Nat), s7 = .int .i64 j ∧ j ≤ 64 ∧ 64 - j < f ∧ wr.ownsRow w.heap.size 5 1 (.slice (some ⟨g, 0, none⟩) 64 cv) 64 (u8s (XT j)) ∧ Below w.heap.size w wr)
        case atStart => exact ⟨0, rfl, by omega, by omega, by rw [HX0.out]; exact HO.out, HBW.out⟩
        case round =>
          clear HO HBW
          obtain ⟨j, rfl, hj, hfj, ho, hb⟩ := hrel
          have HO := hide ho
          have HBW := hide hb
          clear ho hb
          by_cases hj64 : j < 64
          · have hj64' : (j : Int) < 64 := by omega
            have c1 := (HO.out.cellAt j (by omega)).trans (u8s_at (by rw [HXL.out j (by omega)]; exact hj64))
            rw [HXA.out j hj64] at c1
            have f1 := HO.out.frozenAt j
            have bx := u8_xor_nat (KB.getD j 0) x (HB.out.getD j) hx
            have hst := HO.out.stored j (.int .u8 ((KB.getD j 0 ^^^ x : Nat) : Int))
            rw [u8s_set, HXS.out j hj64] at hst
            have HST := hide hst
            have hy := HB.out.getD j
            have hyx := s_xor_lt8 hy hx
            clear hst
            generalize KB.getD j 0 = y at *
            generalize y ^^^ x = yx at *
            clear HO
            go_wp2
            go_roundg (64 - j)
            case measure => omega
            case rel => exact ⟨j + 1, by go_num, by omega, by omega, HST.out.1, HBW.out.grown HST.out.2 HBW.out.size (by intro k hk; cases hk; exact hg)⟩
          · have e : j = 64 := by omega
            subst e
            rw [HXF.out] at HO
            go_wp2
            go_ret
            exact ⟨_, rfl, HO.out, HBW.out⟩

end Go.Proofs.YtjiipiolckddnaaDoor

/- A walk: the reference's Of: the document's mark of a text under a key. -/
namespace Go.Proofs.YtjiipiolckddnaaDoor
open Go.RowKit

set_option maxHeartbeats 8000000 in
set_option maxRecDepth 100000 in
theorem refof_any (p q : Option Addr) (c d : Nat) (key text : List Nat) (D : List Nat) (w : World) (hP : Piece w p c key) (hT : Piece w q d text) (hkl : key.length ≤ 90000) (htl : text.length ≤ 90000) (hD : macF key text = D) :
    Calls Tryd.prog 29 #[.slice p key.length c, .slice q text.length d] w fun e w' => e = .returned (.agg (u8s D).toArray) ∧ Below w.heap.size w w' := by
  have hx1 : (xorF (kblockF key) 54).length = 64 := by rw [xorF_length, kblockF_length]
  have hx2 : (xorF (kblockF key) 92).length = 64 := by rw [xorF_length, kblockF_length]
  have hb1 := xorF_bytes (x := 54) (kblockF_bytes hP.2.2.1) (by omega)
  have hb2 := xorF_bytes (x := 92) (kblockF_bytes hP.2.2.1) (by omega)
  have HP1 := hide (fun (v : World) (hb : Below w.heap.size w v) => pad_any p c key 54 v (hP.kept hb) (by omega) (by omega))
  have HP2 := hide (fun (v : World) (hb : Below w.heap.size w v) => pad_any p c key 92 v (hP.kept hb) (by omega) (by omega))
  rw [show ((54 : Nat) : Int) = 54 from rfl] at HP1
  rw [show ((92 : Nat) : Int) = 92 from rfl] at HP2
  have HS1 := hide (fun (v : World) (pp : Option Addr) (cc : Nat) (h : Piece v pp cc (xorF (kblockF key) 54 ++ text)) => refsum_of pp cc (xorF (kblockF key) 54 ++ text) v h.1 h.2.1 (by rw [List.length_append, hx1]; omega) h.2.2.1)
  have HS2 := hide (fun (v : World) (pp : Option Addr) (cc : Nat) (h : Piece v pp cc (xorF (kblockF key) 92 ++ sumF (xorF (kblockF key) 54 ++ text))) => refsum_of pp cc (xorF (kblockF key) 92 ++ sumF (xorF (kblockF key) 54 ++ text)) v h.1 h.2.1 (by rw [List.length_append, hx2, sumF_length]; omega) h.2.2.1)
  rw [show sumF (xorF (kblockF key) 92 ++ sumF (xorF (kblockF key) 54 ++ text)) = D from hD, List.length_append, hx2, sumF_length] at HS2
  rw [List.length_append, hx1] at HS1
  have hDl : D.length = 32 := by rw [← hD]; exact macF_length _ _
  have HD1L := hide (sumF_length (xorF (kblockF key) 54 ++ text))
  have HD1B := hide (sumF_bytes (xorF (kblockF key) 54 ++ text))
  have HX1 := hide hx1
  have HX2 := hide hx2
  have HB1 := hide hb1
  have HB2 := hide hb2
  have HDL := hide hDl
  have HT := hide hT
  clear hD hDl hx1 hx2 hb1 hb2 hP hT
  generalize sumF (xorF (kblockF key) 54 ++ text) = D1 at *
  generalize xorF (kblockF key) 54 = XI at *
  generalize xorF (kblockF key) 92 = XO at *
  have I1 : Hid ((Tryd.prog.info? 32).map (·.size) = some (u8s D1).toArray.size) := by show _ = _; rw [info35]; simp [u8s, HD1L.out]
  have O1 : Hid ((u8s (List.replicate 32 0)).toArray.size = (u8s D1).toArray.size) := by show _ = _; simp [u8s, HD1L.out]
  have ID : Hid ((Tryd.prog.info? 32).map (·.size) = some (u8s D).toArray.size) := by show _ = _; rw [info35]; simp [u8s, HDL.out]
  have OD : Hid ((u8s (List.replicate 32 0)).toArray.size = (u8s D).toArray.size) := by show _ = _; simp [u8s, HDL.out]
  generalize hkn : key.length = nk at *
  generalize htn : text.length = nt at *
  have HTN := hide htn
  clear hkn htn
  go_enter Tryd.func29, Tryd.ntmps29
  go_upto_region 1 with fail
  rw [← u8s_zeros]
  have B1 : Hid (Below w.heap.size w (w.alloc Z32)) := (Below.refl _ _).alloc (Nat.le_refl _) _
  have R1 := hide (Arr.new w 32 (u8s (List.replicate 32 0)))
  generalize w.alloc Z32 = w1 at *
  go_cut [5] (fun s5 wx => ∃ b, s5 = .pointer (some ⟨b, 0, none⟩) ∧ w.heap.size < b ∧ Arr wx b 32 (u8s D1) ∧ Arr wx w.heap.size 32 (u8s (List.replicate 32 0)) ∧ Below w.heap.size w wx)
  case first =>
    go_wp2_with fail
    refine (HP1.out w1 B1.out).mono ?_
    rintro e w2 ⟨v, rfl, ho, hb2⟩
    have R2 := hide (R1.out.kept hb2)
    have B2 : Hid (Below w.heap.size w w2) := B1.out.trans (hb2.mono B1.out.size)
    have O2 := hide ho
    have HS : Hid (w.heap.size < w1.heap.size) := R1.out.lt
    clear hb2 ho R1 B1 HP1
    go_wp2_with (at_builtin; refine wpList_append_bytes rfl (.tmp 7) (.tmp 8) rfl w1.heap.size v XI rfl 64 HX1.out O2.out q nt d text HTN.out rfl (HT.out.1.kept B2.out) HT.out.2.1 (by omega) (by have h1 := (own_shape O2.out (by omega)); obtain ⟨g, cp, _, h2, h3, _, _⟩ := h1; omega) ?_)
    intro v3 w3 hown hgrow
    have hvb : Hid (∀ k, v.ownBlock = some k → w.heap.size < k) := fun k hk => by have h1 := (O2.out.lt k hk).1; have h2 := HS.out; omega
    have R3 := hide (R2.out.keptR hgrow (fun e => by have := hvb.out _ e; omega))
    have B3 : Hid (Below w.heap.size w w3) := B2.out.grown hgrow B2.out.size (fun k hk => Nat.le_of_lt (hvb.out k hk))
    obtain ⟨p3, c3, hv3, hp3, _⟩ := own_piece (l := XI ++ text) (by rw [List.length_append, HX1.out, HTN.out]; exact hown) (bytes_append HB1.out HT.out.2.2.1)
    rw [List.length_append, HX1.out, HTN.out] at hv3
    subst hv3
    have P3 := hide hp3
    clear hown hgrow hp3 O2 R2 B2 hvb HS
    go_wp2_with fail
    refine (HS1.out w3 p3 c3 P3.out).mono ?_
    rintro e w4 ⟨rfl, hb4⟩
    have R4 := hide (R3.out.kept hb4)
    have B4 : Hid (Below w.heap.size w w4) := B3.out.trans (hb4.mono B3.out.size)
    clear hb4 P3 R3 B3 HS1
    go_wp2_with (refine wpList_store_row rfl 32 _ _ rfl w4.heap.size (u8s D1).toArray rfl rfl 32 (u8s (List.replicate 32 0)).toArray (heap_at w4 _ _ rfl) I1.out O1.out (all_u8s _) ?_)
    go_meet
    case rel =>
      have hlt := R4.out.lt
      exact ⟨w4.heap.size, rfl, hlt, (Arr.new w4 32 (u8s (List.replicate 32 0))).row _, (R4.out.alloc _).rowOther _ _ (Nat.ne_of_lt hlt), below_setRow (B4.out.alloc B4.out.size _) B4.out.size (by simp) _⟩
  case rest =>
    clear R1 B1 HP1 HS1
    obtain ⟨b, rfl, hwb, hb, hR, hB⟩ := hcut
    have HBA := hide hb
    have HR := hide hR
    have HB := hide hB
    clear hb hR hB
    have hsl := fun v => run_all32 v b
    obtain ⟨i0, hi0, hz0, hz1, hz2⟩ := info_parts infoU8
    have HI0 := hide hi0
    have HZ0 := hide hz0
    have HZ1 := hide hz1
    have HZ2 := hide hz2
    clear hi0 hz0 hz1 hz2
    go_upto_region 2 with fail
    refine wp_region_any (by kernel_rfl) ?_
    try (change wpAny _ _ _ _ _ _ _ (World.drew _))
    refine take_dst (i := 0) (d := 11) (v := ?_) rfl rfl (by kernel_rfl) (by kernel_rfl) (by kernel_rfl) (fun _ _ _ h => h) (by rfl) ?_ ?_
    rotate_left
    · intro wZ; go_simp; first | (with_reducible rfl) | (rw [if_pos (by omega)]; with_reducible rfl) | skip
    try simp only [Act.put, List.setIfInBounds_toArray, List.set_cons_zero, List.set_cons_succ]
    refine take_dst (i := 2) (d := 13) (v := ?_) rfl rfl (by kernel_rfl) (by kernel_rfl) (by kernel_rfl) (fun _ _ _ h => h) (by rfl) ?_ ?_
    rotate_left
    · intro wZ; go_simp; first | (with_reducible rfl) | (rw [if_pos (by omega)]; with_reducible rfl) | skip
    try simp only [Act.put, List.setIfInBounds_toArray, List.set_cons_zero, List.set_cons_succ]
    refine wpAny_ready (rs := [1]) (by kernel_rfl) (by simp) ?_
    refine (AllReady.cons rfl (fun K hK => ?_) AllReady.nil)
    go_simp
    go_wp2_with ((go_at_call 40; refine (HP2.out _ HB.out.drew).mono ?_; rintro e w5 ⟨v5, rfl, ho5, hb5⟩; have O5 := hide ho5; have R5 := hide ((show Arr wc.drew w.heap.size 32 (u8s (List.replicate 32 0)) from HR.out).kept hb5); have A5 := hide ((show Arr wc.drew b 32 (u8s D1) from HBA.out).kept hb5); have B5 : Hid (Below w.heap.size w w5) := HB.out.drew.trans (hb5.mono HB.out.drew.size); have HS5 : Hid (w.heap.size < wc.drew.heap.size) := Arr.lt (show Arr wc.drew w.heap.size 32 (u8s (List.replicate 32 0)) from HR.out); clear ho5 hb5))
    first | (refine hK _ _ ?_; clear hK K) | (clear hK K) | skip
    try simp only [Act.put, List.setIfInBounds_toArray, List.set_cons_zero, List.set_cons_succ]
    refine wpAny_ready (rs := [3]) (by kernel_rfl) (by simp) ?_
    refine (AllReady.cons rfl (fun K hK => ?_) AllReady.nil)
    refine wp_append_dst _ (d := 14) rfl (.tmp 12) (.tmp 13) 35 rfl wc.drew.heap.size 5 i0 (.int .u8 0) 1 1 Tryd.underlying35 HI0.out HZ0.out HZ1.out HZ2.out rfl (by decide) v5 64 (u8s XO) rfl O5.out ⟨b, 0, none⟩ 32 32 (u8s D1) rfl (by simp [u8s, HD1L.out]) (fun j u hj => by rw [Addr.add_mid, Nat.zero_add]; exact (A5.out.cell j).trans hj) (one_mem _) (by unfold maxLen; omega) (by omega) (by obtain ⟨g, cp, _, h2, h3, _, _⟩ := own_shape O5.out (by omega); omega) (fun v6 w6 hown hgrow => ?_); have hvb : Hid (∀ k, v5.ownBlock = some k → w.heap.size < k) := (fun k hk => by have h1 := (O5.out.lt k hk).1; have h2 := HS5.out; omega); have R6 := hide (R5.out.keptR hgrow (fun e => by have := hvb.out _ e; omega)); have B6 : Hid (Below w.heap.size w w6) := B5.out.grown hgrow B5.out.size (fun k hk => Nat.le_of_lt (hvb.out k hk)); obtain ⟨p6, c6, hv6, hp6, _⟩ := own_piece (l := XO ++ D1) (by rw [List.length_append, HX2.out, HD1L.out, show u8s (XO ++ D1) = u8s XO ++ u8s D1 by simp [u8s]]; exact hown) (bytes_append HB2.out HD1B.out); rw [List.length_append, HX2.out, HD1L.out] at hv6; subst hv6; have P6 := hide hp6; clear hown hgrow hp6 hvb
    first | (refine hK _ _ ?_; clear hK K) | (clear hK K) | skip
    try simp only [Act.put, List.setIfInBounds_toArray, List.set_cons_zero, List.set_cons_succ]
    refine wpAny_ready (rs := [4]) (by kernel_rfl) (by simp) ?_
    refine (AllReady.cons rfl (fun K hK => ?_) AllReady.nil)
    go_simp
    go_wp2_with ((go_at_call 39; refine (HS2.out _ p6 c6 P6.out).mono ?_; rintro e w7 ⟨rfl, hb7⟩; have R7 := hide (R6.out.kept hb7); have B7 : Hid (Below w.heap.size w w7) := B6.out.trans (hb7.mono B6.out.size); clear hb7))
    first | (refine hK _ _ ?_; clear hK K) | (clear hK K) | skip
    try simp only [Act.put, List.setIfInBounds_toArray, List.set_cons_zero, List.set_cons_succ]
    refine wpAny_ready (rs := [5]) (by kernel_rfl) (by simp) ?_
    refine (AllReady.cons rfl (fun K hK => ?_) AllReady.nil)
    refine wp_store_dst rfl 32 (.tmp 4) (.tmp 15) rfl w.heap.size _ rfl rfl 32 _ R7.out ID.out OD.out (all_u8s _) ?_
    first | (refine hK _ _ ?_; clear hK K) | (clear hK K) | skip
    refine wpAny_done (by kernel_rfl) ?_ _
    go_wp2
    exact bodyPost_ret (v := .agg (u8s D).toArray) (results_cell_row Tryd.results29 _ _ w.heap.size 32 _ (0, 0) _ rfl (R7.out.row _) Tryd.underlying32 rfl ID.out) rfl ⟨rfl, below_setRow B7.out (Nat.le_refl _) R7.out.lt _⟩

end Go.Proofs.YtjiipiolckddnaaDoor
