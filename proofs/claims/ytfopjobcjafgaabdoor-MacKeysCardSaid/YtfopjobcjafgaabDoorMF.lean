/-
  Walks: the reference's pad: a key's block, each byte turned; the reference's Of: the document's mark.
-/
import Derived.Test.YtfopjobcjafgaabDoorMD
namespace Go.Proofs.YtfopjobcjafgaabDoor
open Go.RowKit

set_option maxHeartbeats 8000000 in
set_option maxRecDepth 100000 in
theorem pad_any (p : Option Addr) (c : Nat) (key : List Nat) (x : Nat) (w : World) (hP : Piece w p c key) (hkl : key.length ≤ 100000) (hx : x < 256) :
    Calls Tryd.prog 19 #[.slice p key.length c, .int .u8 (x : Int)] w fun e w' => ∃ v, e = .returned v ∧ w'.ownsRow w.heap.size 5 1 v 64 (u8s (xorF (kblockF key) x)) ∧ Below w.heap.size w w' := by
  have HP := hide hP
  have HS := hide (fun (v : World) (hb : Below w.heap.size w v) => refsum_of p c key v (hP.kept hb).1 hP.2.1 hkl hP.2.2.1)
  have hKL := kblockF_length key
  have HLong : Hid (64 < key.length → kblockF key = sumF key ++ List.replicate (64 - (sumF key).length) 0) := fun h => by rw [kblockF_long h, sumF_length]
  have HShort : Hid (¬ 64 < key.length → kblockF key = key ++ List.replicate (64 - key.length) 0) := fun h => kblockF_short h
  have DL := hide (sumF_length key)
  have DB := hide (sumF_bytes key)
  have HB := hide (kblockF_bytes hP.2.2.1)
  have HXL : Hid (∀ i, i ≤ 64 → (xorTo (kblockF key) x i).length = 64) := fun i hi => by show _ = _; rw [xorTo_length _ _ _ (by omega), hKL]
  have HXA : Hid (∀ i, i < 64 → (xorTo (kblockF key) x i).getD i 0 = (kblockF key).getD i 0) := fun i hi => xorTo_at _ _ _ (by omega)
  have HXS : Hid (∀ i, i < 64 → (xorTo (kblockF key) x i).set i ((kblockF key).getD i 0 ^^^ x) = xorTo (kblockF key) x (i + 1)) := fun i hi => xorTo_set _ _ _ (by omega)
  have HX0 := hide (xorTo_zero (kblockF key) x)
  have HXF := hide (xorTo_full (kblockF key) x)
  rw [hKL] at HXF
  have HKL := hide hKL
  clear hP hKL
  generalize hxt : xorTo (kblockF key) x = XT at *
  generalize hxf : xorF (kblockF key) x = XF at *
  generalize kblockF key = KB at *
  clear hxt hxf
  have ID : Hid ((Tryd.prog.info? 25).map (·.size) = some (u8s (sumF key)).toArray.size) := by show _ = _; rw [info35]; simp [u8s, DL.out]
  have OD : Hid ((u8s (List.replicate 32 0)).toArray.size = (u8s (sumF key)).toArray.size) := by show _ = _; simp [u8s, DL.out]
  generalize sumF key = D at *
  generalize hn : key.length = n at *
  have HN := hide hn
  clear hn
  go_enter Tryd.func19, Tryd.ntmps19
  go_wp2_with (at_builtin; refine wpList_append_bytes rfl (.tmp 8) (.tmp 9) rfl w.heap.size _ [] rfl 0 rfl (World.ownsRow_made w #[] 0 (Nat.le_refl _) (Nat.zero_le _) rfl) p n c key HN.out rfl (HP.out.1.kept ((Below.refl _ _).alloc (Nat.le_refl _) _)) HP.out.2.1 (by omega) (by simp) ?_)
  intro v2 w2 hown hgrow
  have O2 : Hid (w2.ownsRow w.heap.size 5 1 v2 n (u8s key)) := by
    show World.ownsRow _ _ _ _ _ _ _
    simpa using hown
  have B2 : Hid (Below w.heap.size w w2) := ((Below.refl _ w).alloc (Nat.le_refl _) _).trans (grown_below hgrow (by simp) (by intro k hk; simp [Value.ownBlock] at hk; omega))
  clear hown hgrow
  go_upto_if 13 with fail
  go_cut [5, 6] (fun s5 _ wx => ∃ (v : Value) (kk : List Nat), v = s5 ∧ Hid (wx.ownsRow w.heap.size 5 1 v kk.length (u8s kk)) ∧ kk.length ≤ 64 ∧ Hid (BytesN kk) ∧ Hid (KB = kk ++ List.replicate (64 - kk.length) 0) ∧ Hid (Below w.heap.size w wx))
  case first =>
    by_cases hbig : 64 < n
    · have hbig' : (64 : Int) < (n : Int) := by omega
      go_upto_region 3 with fail
      go_cut [6] (fun s6 wx => ∃ d, s6 = .pointer (some ⟨d, 0, none⟩) ∧ w.heap.size ≤ d ∧ Arr wx d 25 (u8s D) ∧ Below w.heap.size w wx)
      case first =>
        go_wp2_with fail
        refine (HS.out w2 B2.out).mono ?_
        rintro e w9 ⟨rfl, hb9⟩
        have B9 : Hid (Below w.heap.size w w9) := B2.out.trans (hb9.mono B2.out.size)
        clear hb9 O2 B2
        go_wp2_with (refine wpList_store_row rfl 25 _ _ rfl w9.heap.size (u8s D).toArray rfl rfl 25 (u8s (List.replicate 32 0)).toArray (heap_at w9 _ _ rfl) ID.out OD.out (all_u8s _) ?_)
        go_meet
        case rel => exact ⟨w9.heap.size, rfl, B9.out.size, (Arr.new w9 25 (u8s (List.replicate 32 0))).row _, below_setRow (B9.out.alloc B9.out.size _) B9.out.size (by simp) _⟩
      case rest =>
        clear O2 B2
        obtain ⟨d, rfl, hwd, hd, hb⟩ := hcut
        have HD := hide hd
        have HBW := hide hb
        clear hd hb
        have hsl := fun v => run_all32 v d
        go_wp2_with (at_builtin; refine wpList_append_bytes rfl (.tmp 16) (.tmp 17) rfl w.heap.size _ [] rfl 0 rfl (World.ownsRow_made wc #[] 0 HBW.out.size (Nat.zero_le _) rfl) (some ⟨d, 0, none⟩) 32 32 D DL.out rfl (bi_arr (HD.out.alloc _)) (fun e => by cases e) (by omega) (by have := HBW.out.size; simp; omega) ?_)
        intro v4 w4 hown hgrow
        have O4 : Hid (w4.ownsRow w.heap.size 5 1 v4 32 (u8s D)) := by
          show World.ownsRow _ _ _ _ _ _ _
          simpa using hown
        have B4 : Hid (Below w.heap.size w w4) := (HBW.out.alloc HBW.out.size _).grown hgrow (by have := HBW.out.size; simp; omega) (by intro k hk; have := HBW.out.size; simp [Value.ownBlock] at hk; omega)
        clear hown hgrow HD HBW hsl
        go_wp2_with fail
        go_meet
        case rel => exact ⟨v4, D, rfl, by rw [DL.out]; exact O4, by rw [DL.out]; omega, DB, HLong.out hbig, B4⟩
    · have hbig' : ¬ (64 : Int) < (n : Int) := by omega
      go_wp2
      go_meet
      case rel => exact ⟨v2, key, rfl, by rw [HN.out]; exact O2, by rw [HN.out]; omega, HP.out.2.2.1, by have h := HShort.out hbig; rw [← HN.out] at h; exact h, B2⟩
  case rest =>
    clear O2 B2 HS HLong HShort ID OD DL DB HP
    obtain ⟨v5, kk, rfl, ho, hk64, hkb, hK, hb⟩ := hcut
    go_wp2
    go_loopg [5] 65 (fun f s5 wr => ∃ (i : Nat) (v : Value), v = s5 ∧ kk.length + i ≤ 64 ∧ 64 - (kk.length + i) < f ∧ wr.ownsRow w.heap.size 5 1 v (kk ++ List.replicate i 0).length (u8s (kk ++ List.replicate i 0)) ∧ Below w.heap.size w wr)
    case atStart => exact ⟨0, v5, rfl, by omega, by omega, by simpa using ho.out, hb.out⟩
    case round =>
      clear ho hb
      obtain ⟨i, v, rfl, hi, hf, ho, hb⟩ := hrel
      have hll : (kk ++ List.replicate i 0).length = kk.length + i := by simp
      obtain ⟨pv, cv, rfl, hpv, hbv⟩ := own_piece ho (bytes_append hkb.out (zeros_bytes _))
      have HO := hide ho
      have HBW := hide hb
      rw [hll] at HO ⊢
      have HLL := hide hll
      clear ho hb hll hpv hbv
      have HSC : Hid (kk ++ List.replicate (i + 1) 0 = kk ++ List.replicate i 0 ++ [0]) := by show _ = _; rw [List.replicate_succ', ← List.append_assoc]
      have HFU : Hid (kk.length + i = 64 → kk ++ List.replicate i 0 = KB) := fun h => by rw [hK.out]; congr 2; omega
      have HL1 : Hid ((kk ++ List.replicate (i + 1) 0).length = kk.length + i + 1) := by show _ = _; simp; omega
      generalize kk ++ List.replicate i 0 = L at *
      by_cases hlt : kk.length + i < 64
      · have hlt' : (kk.length : Int) + (i : Int) < 64 := by omega
        go_wp2_with (at_builtin; refine wpList_append_bytes rfl (.tmp 22) (.tmp 23) rfl w.heap.size _ L rfl (kk.length + i) HLL.out (HO.out.alloc _) (some ⟨wr.heap.size, 0, none⟩) 1 1 [0] rfl rfl (bi_one wr 0) (fun e => by cases e) (by omega) (by have := HBW.out.size; simp; omega) ?_)
        intro v6 w6 hown hgrow
        have O6 : Hid (w6.ownsRow w.heap.size 5 1 v6 (kk ++ List.replicate (i + 1) 0).length (u8s (kk ++ List.replicate (i + 1) 0))) := by
          show World.ownsRow _ _ _ _ _ _ _
          rw [HL1.out, HSC.out]; exact hown
        have B6 : Hid (Below w.heap.size w w6) := (HBW.out.alloc HBW.out.size _).grown hgrow (by have := HBW.out.size; simp; omega) (fun k hk => (HO.out.lt k hk).1)
        clear hown hgrow HO HBW HSC HL1
        go_wp2
        go_roundg (64 - (kk.length + i))
        case measure => omega
        case rel => exact ⟨i + 1, v6, rfl, by omega, by omega, O6.out, B6.out⟩
      · have e64 : kk.length + i = 64 := by omega
        have hLK := HFU.out e64
        rw [e64] at HO HLL ⊢
        rw [hLK] at HO
        have hlt' : ¬ (kk.length : Int) + (i : Int) < 64 := by omega
        obtain ⟨g, cap, hv, hg, hgs, hnc, hcm⟩ := own_shape HO.out (by omega)
        simp only [Value.slice.injEq] at hv
        obtain ⟨rfl, _, rfl⟩ := hv
        unfold maxLen at hcm
        clear hlt' HFU hLK HLL HSC HL1 hgs
        go_wp2
        go_loopg [7] 65 (fun f s7 wr => ∃ (j : Nat), s7 = .int .i64 j ∧ j ≤ 64 ∧ 64 - j < f ∧ wr.ownsRow w.heap.size 5 1 (.slice (some ⟨g, 0, none⟩) 64 cv) 64 (u8s (XT j)) ∧ Below w.heap.size w wr)
        case atStart => exact ⟨0, rfl, by omega, by omega, by rw [HX0.out]; exact HO.out, HBW.out⟩
        case round =>
          clear HO HBW
          obtain ⟨j, rfl, hj, hfj, ho, hb⟩ := hrel
          have HO := hide ho
          have HBW := hide hb
          clear ho hb
          by_cases hj64 : j < 64
          · have hj64' : (j : Int) < 64 := by omega
            have c1 := (HO.out.cellAt j (by omega)).trans (u8s_at (by rw [HXL.out j (by omega)]; exact hj64))
            rw [HXA.out j hj64] at c1
            have f1 := HO.out.frozenAt j
            have bx := u8_xor_nat (KB.getD j 0) x (HB.out.getD j) hx
            have hst := HO.out.stored j (.int .u8 ((KB.getD j 0 ^^^ x : Nat) : Int))
            rw [u8s_set, HXS.out j hj64] at hst
            have HST := hide hst
            have hy := HB.out.getD j
            have hyx := xor_lt8 hy hx
            clear hst
            generalize KB.getD j 0 = y at *
            generalize y ^^^ x = yx at *
            clear HO
            go_wp2
            go_roundg (64 - j)
            case measure => omega
            case rel => exact ⟨j + 1, by go_num, by omega, by omega, HST.out.1, HBW.out.grown HST.out.2 HBW.out.size (by intro k hk; cases hk; exact hg)⟩
          · have e : j = 64 := by omega
            subst e
            rw [HXF.out] at HO
            go_wp2
            go_ret
            exact ⟨_, rfl, HO.out, HBW.out⟩

end Go.Proofs.YtfopjobcjafgaabDoor
