/-
  LinkPlays, the tied card: whatever comes and goes, a link sends, tells and refuses what the document says, and stands as it says; no condition but the two tables, which the card ties to the program's text.
-/
import Derived.Test.YtbmjlofehbbkbaaDoorJU
import Derived.Test.YtbmjlofehbbkbaaDoorKK
namespace Go.Proofs.YtbmjlofehbbkbaaDoor
namespace LinkPlaysProof
open Go.ChangeShapes Go.WideShapes Go.ChangeAt Go.WideMaps Go.WideElems Go.RowKit

theorem rl_built (d : Bool) (n : Nat) (a : Int) : Tryd.prog.built 38 [(0, .bool d), (1, .int .u64 (n : Int)), (2, .int .i64 a)] = some (rlC (newL [] [] d n a) 0 0).toArray := by kernel_rfl
theorem rl_new (code mark : List Nat) (d : Bool) (n : Nat) (a : Int) : rlC (newL code mark d n a) 0 0 = rlC (newL [] [] d n a) 0 0 := rfl

set_option maxHeartbeats 8000000 in
set_option maxRecDepth 100000 in
/-- a link that New does not make -/
theorem walk_bad (code mark : List Nat) (d : Bool) (N0 : Nat) (ad : Int) (sp : Option Addr) (n sc : Nat) (W : World) (hk : IsKey code mark) (hbad : ¬ (N0 ≤ 9223372036854775808 ∧ IsAddr ad))
    (hK : ∀ v, Below W.heap.size W v → Calls Tryd.prog 4 #[] v fun e w' => e = .returned (.bool true) ∧ Below v.heap.size v w') :
    Calls Tryd.prog 3 #[keyV code mark, .bool d, .int .u64 (N0 : Int), .int .i64 ad, .slice sp n sc] W fun r w' => r = .returned (.bool true) ∧ Below W.heap.size W w' := by
  have HK := hide hK
  have IK := hide hk.info
  have A1 := hide (key_box W code mark)
  have HN := hide (fun v : World => lnew_bad code mark d N0 ad v hbad)
  have HI := hide (fun v : World => rplace_any ad v)
  have HC : Hid (decide ((9223372036854775808 : Int) < (N0 : Int)) = true ∨ (decide ((9223372036854775808 : Int) < (N0 : Int)) = false ∧ decide (IsAddr ad) = false)) := by
    show _ ∨ _
    by_cases h : N0 ≤ 9223372036854775808
    · exact Or.inr ⟨by simp; omega, decide_eq_false fun e => hbad ⟨h, e⟩⟩
    · exact Or.inl (by simp; omega)
  clear hK hbad
  go_enter Tryd.func3, Tryd.ntmps3
  go_upto_region 1 with fail
  generalize W.alloc (Obj.cells (kCells code mark).toArray 25) = w1 at *
  go_wp2_with fail
  refine (HK.out w1 A1.out.2).mono ?_
  rintro r w2 ⟨rfl, hb⟩
  have A2 : Hid (Arr w2 W.heap.size 25 (kCells code mark) ∧ Below W.heap.size W w2) := ⟨A1.out.1.kept hb, A1.out.2.trans (hb.mono A1.out.2.size)⟩
  clear hb A1 HK
  go_wp2_with (refine wpList_load_row rfl 25 _ rfl W.heap.size rfl 25 _ (0, 0) _ A2.out.1 Tryd.underlying25 rfl IK.out ?_)
  refine (HN.out w2).mono ?_
  rintro r w3 ⟨rfl, hb⟩
  have HB := hide (A2.out.2.trans (hb.mono A2.out.2.size))
  clear hb A2 HN
  rcases HC.out with h1 | ⟨h1, h2⟩
  · clear HI
    go_wp2
    go_ret
    exact ⟨rfl, HB.out⟩
  · rw [h2] at HI
    go_wp2_with (refine (HI.out _).mono ?_; rintro r w4 ⟨rfl, rfl⟩)
    go_ret
    exact ⟨rfl, HB.out⟩

set_option maxHeartbeats 16000000 in
set_option maxRecDepth 100000 in
theorem walk_in (code mark : List Nat) (d : Bool) (N0 : Nat) (ad : Int) (sp : Option Addr) (n sc : Nat) (zs : List Ob) (W : World) (hk : IsKey code mark) (hN0 : N0 ≤ 9223372036854775808) (had : IsAddr ad) (hn : zs.length = n) (hR : RowIn Ob.C 7 W sp zs) (hI : ∀ o ∈ zs, ObIn W o) (h2 : 2 ≤ W.heap.size) (hLB : ∀ v, Below W.heap.size W v → Laid v)
    (hK : ∀ v, Below W.heap.size W v → Calls Tryd.prog 4 #[] v fun e w' => e = .returned (.bool true) ∧ Below v.heap.size v w') :
    Calls Tryd.prog 3 #[keyV code mark, .bool d, .int .u64 (N0 : Int), .int .i64 ad, .slice sp n sc] W fun r w' => r = .returned (.bool true) ∧ Below W.heap.size W w' := by
  have HK := hide hK
  have IK := hide hk.info
  have HKY := hide hk
  have H2 := hide h2
  have HLB := hide hLB
  have HRI := hide (And.intro hR hI)
  have HZN := hide hn
  have A1 := hide (key_box W code mark)
  have HN := hide (fun v : World => lnew_ok code mark d N0 ad v hk hN0 had)
  have HI := hide (fun v : World => rplace_any ad v)
  rw [decide_eq_true had] at HI
  have d1 : decide ((9223372036854775808 : Int) < (N0 : Int)) = false := by simp; omega
  have HNOK := hide (newL_ok hk d hN0 had)
  clear hK hk hN0 had hn hR hI h2 hLB
  go_enter Tryd.func3, Tryd.ntmps3
  go_upto_region 1 with fail
  generalize W.alloc (Obj.cells (kCells code mark).toArray 25) = w1 at *
  go_wp2_with fail
  refine (HK.out w1 A1.out.2).mono ?_
  rintro r w2 ⟨rfl, hb⟩
  have A2 : Hid (Arr w2 W.heap.size 25 (kCells code mark) ∧ Below W.heap.size W w2) := ⟨A1.out.1.kept hb, A1.out.2.trans (hb.mono A1.out.2.size)⟩
  clear hb A1 HK
  go_wp2_with (refine wpList_load_row rfl 25 _ rfl W.heap.size rfl 25 _ (0, 0) _ A2.out.1 Tryd.underlying25 rfl IK.out ?_)
  refine (HN.out w2).mono ?_
  rintro r w3 ⟨g0, rfl, hg3, hl3, hb⟩
  have A3 : Hid (Arr w3 W.heap.size 25 (kCells code mark) ∧ Below W.heap.size W w3 ∧ W.heap.size ≤ g0 ∧ LkAt w3 g0 (newL code mark d N0 ad)) := ⟨A2.out.1.kept hb, A2.out.2.trans (hb.mono A2.out.2.size), Nat.le_trans A2.out.2.size hg3, hl3⟩
  clear hb A2 HN hg3 hl3
  by_cases h60 : 60 < n
  · have d2 : decide ((60 : Int) < (n : Int)) = true := by simp; omega
    go_wp2_with (refine (HI.out _).mono ?_; rintro r w4 ⟨rfl, rfl⟩)
    go_ret
    exact ⟨rfl, A3.out.2.1⟩
  · have d2 : decide ((60 : Int) < (n : Int)) = false := by simp; omega
    have H60 : Hid (n ≤ 60) := by show n ≤ 60; omega
    clear h60
    have HBL := hide (rl_built d N0 ad)
    go_upto_region 12 with (first
      | (refine (HI.out _).mono ?_; rintro r w3 ⟨rfl, rfl⟩)
      | (refine wpList_build_of rfl 38 #[(0, .tmp 61), (1, .tmp 62), (2, .tmp 63)] rfl [(0, .bool d), (1, .int .u64 (N0 : Int)), (2, .int .i64 ad)] (by simp [Act.eval, Act.put]) (rlC (newL [] [] d N0 ad) 0 0).toArray HBL.out ?_))
    have HA4 := hide (Arr.new w3 38 (rlC (newL [] [] d N0 ad) 0 0))
    have HB4 : Hid (Below w3.heap.size w3 (w3.alloc (Obj.cells (rlC (newL [] [] d N0 ad) 0 0).toArray 38))) := (Below.refl _ _).alloc (Nat.le_refl _) _
    generalize w3.alloc (Obj.cells (rlC (newL [] [] d N0 ad) 0 0).toArray 38) = w4 at *
    obtain ⟨k, hkk⟩ : ∃ k, k = w3.heap.size := ⟨_, rfl⟩
    have P0 : Hid (PlS W w4 g0 k code mark d (newL code mark d N0 ad) 0 0 (.slice none 0 0) (.slice none 0 0) [] []) := by
      subst hkk
      exact ⟨A3.out.2.2.2.kept HB4.out, ⟨HA4.out, (fun e => by cases e), HNOK.out⟩, rfl, rfl, rfl, A3.out.2.1.trans (HB4.out.mono A3.out.2.1.size), A3.out.2.2.1, A3.out.2.1.size, Nat.ne_of_lt A3.out.2.2.2.lt, RwS.none _ _, RwS.none _ _, Or.inl rfl, A3.out.1.kept HB4.out⟩
    clear HA4 HB4 A3 HNOK HBL HI d1 d2
    rw [← hkk]
    clear hkk
    go_wp2_with fail
    go_loopg [11, 14, 15, 16] (n + 1) (fun f s11 s14 s15 s16 wr => ∃ (j g : Nat) (xs ys : List Rw), s11 = .pointer (some ⟨g, 0, none⟩) ∧ s16 = .int .i64 (j : Int) ∧ j ≤ n ∧ n - j < f ∧ xs.length ≤ j ∧ ys.length ≤ j ∧ Hid (∃ L s t, PlS W wr g k code mark d L s t s14 s15 xs ys))
    case atStart => exact ⟨0, g0, [], [], rfl, rfl, by omega, by omega, Nat.le_refl _, Nat.le_refl _, ⟨_, _, _, P0.out⟩⟩
    case round =>
      obtain ⟨j, g, xs, ys, rfl, rfl, hj, hf, hxl, hyl, HP⟩ := hrel
      clear P0
      by_cases hjn : j < n
      · have hki : (j : Int) < (n : Int) := by omega
        obtain ⟨L, s, t, hp⟩ := HP.out
        have HPL := hide hp
        clear hp HP
        obtain ⟨q, oo, o, rfl, ho, hr⟩ := HRI.out.1.at HPL.out.be (by rw [HZN.out]; exact hjn)
        have hoi := HRI.out.2 o (List.mem_of_getElem? ho)
        have hpm := hoi.p.2.2.2
        unfold maxLen at hpm
        have HOI := hide hoi
        have HR := hide hr
        have hmc : (o.b.length : Int) ≤ 9223372036854775807 := by omega
        clear ho hoi hpm hr
        go_upto_region 16 with (refine wpList_exec (by rfl) _ (exec_load_mid 44 (.tmp 74) rfl q (oo + j * 7) rfl o.C _ HR.out Tryd.underlying44 rfl infoOp) ?_)
        have HX := hide (Arr.new wr 44 o.C)
        have HXB : Hid (Below wr.heap.size wr (wr.alloc (Obj.cells o.C.toArray 44))) := (Below.refl _ _).alloc (Nat.le_refl _) _
        have HP5 := hide (HPL.out.kept HXB.out)
        clear HR HPL HXB
        simp only [Ob.C] at HX HP5
        generalize wr.alloc (Obj.cells #[Value.int .i64 o.k, Value.int .i64 o.a, Value.int .i64 o.now, Value.int .i64 o.frm, Value.bool o.d, Value.int .u64 (o.n : Int), Value.slice o.p o.b.length o.c] 44) = w5 at *
        generalize wr.heap.size = gx at *
        have x6 : w5.cell? ⟨gx, 6, none⟩ = some (.slice o.p o.b.length o.c) := HX.out.cell 6
        by_cases hlong : 1300 < o.b.length
        · have d3 : decide ((1300 : Int) < (o.b.length : Int)) = true := by simp; omega
          go_wp2
          go_ret
          exact ⟨rfl, HP5.out.be⟩
        · have d3 : decide ((1300 : Int) < (o.b.length : Int)) = false := by simp; omega
          have HLE : Hid (o.b.length ≤ 1300) := by show _ ≤ _; omega
          have hwj : wrap64 ((j : Int) + 1) = ((j + 1 : Nat) : Int) := by have := H60.out; unfold wrap64; omega
          clear hlong
          have IK2 : Hid ((Tryd.prog.info? 25).map (·.size) = some (kCells code mark).length) := by show _ = _; rw [HKY.out.info]; simp
          have x0 : w5.cell? ⟨gx, 0, none⟩ = some (.int .i64 o.k) := HX.out.cell 0
          obtain ⟨kd, hkd⟩ : ∃ kd, o.k = kd := ⟨_, rfl⟩
          rw [hkd] at x0
          clear hkd
          by_cases k0 : kd = 0
          · subst k0
            as_aux_lemma =>
              obtain ⟨nb, hnb⟩ : ∃ nb, o.b.length = nb := ⟨_, rfl⟩
              rw [hnb] at x6 d3
              have HPB := hide (HOI.out.p.kept HP5.out.be)
              have HNB := hide hnb
              have hS := send_any g L o.p o.c nb o.b o.now w5 HP5.out.l HPB.out hnb (HLB.out _ HP5.out.be) (Nat.le_trans H2.out HP5.out.bg)
              obtain ⟨E, hEE⟩ : ∃ E, seE L o.now nb = E := ⟨_, rfl⟩
              have HEE := hide hEE
              rw [hEE] at hS
              have x2 : w5.cell? ⟨gx, 2, none⟩ = some (.int .i64 o.now) := HX.out.cell 2
              by_cases hE : E = 0
              · subst hE
                simp only [if_true] at hS
                have HS := hide hS
                clear hS hnb hEE
                go_wp2_with fail
                refine HS.out.mono ?_
                rintro r w6 ⟨t6, rfl, ho6, hl6, hg6⟩
                have hr6 : RL w6 k L s t := (HP5.out.link hg6).1
                obtain ⟨hn96, hnx⟩ : nb ≤ 1196 ∧ L.next < 9223372036854775808 := by
                  have h := HEE.out
                  unfold seE at h
                  have h3 := HP5.out.l.ok.next
                  split at h
                  · split at h
                    · cases h
                    · split at h
                      · cases h
                      · omega
                  · cases h
                have HBD := hide (And.intro hn96 hnx)
                have HKF : Hid (IsKey L.code L.mark) := HP5.out.l.ok.key
                obtain ⟨pa, ca, rfl, hpa, hlo⟩ := own_piece_n ho6 (by rw [sndP_length, HNB.out]) (sndP_bytes HKF.out _ HPB.out.2.2.1)
                have HR6 := hide hr6
                have HX6 := hide (HX.out.grown hg6 (arr_ne HX.out HP5.out.l.a (by decide)))
                have HPB6 : Hid (Piece w6 o.p o.c o.b) := ⟨bi_grown HPB.out.1 hg6 (fun e he hx => by have h1 := piece_lt HOI.out.p e he hx; have h3 := HP5.out.bg; omega), HPB.out.2⟩
                have HO6 := hide (own_base ho6 HP5.out.be.size)
                have HL6 := hide hl6
                have HG6 := hide hg6
                clear x2 x6 hr6 hpa hlo ho6 hl6 hg6 hn96 hnx HS
                have x2 : w6.cell? ⟨gx, 2, none⟩ = some (.int .i64 o.now) := HX6.out.cell 2
                have x6 : w6.cell? ⟨gx, 6, none⟩ = some (.slice o.p nb o.c) := by have := HX6.out.cell 6; rw [← HNB.out]; exact this
                go_wp2_with fail
                clear x2 x6
                refine (rsend_ok k L s t o.p o.c nb o.b o.now w6 HR6.out HPB6.out HNB.out HEE.out (fun e he hx => by have h1 := piece_lt HOI.out.p e he hx; have h3 := HP5.out.bk; omega)).mono ?_
                rintro r w7 ⟨v7, rfl, ho7, hr7, hg7⟩
                have HP8 := hide (HP5.out.sent_ok HG6.out HL6.out hr7 hg7)
                have HO8 := hide (HO6.out.kept hg7 (.inr (own_ne_any HO6.out HR6.out.a (by decide))))
                obtain ⟨p7, c7, rfl, hp7, _⟩ := own_piece_n ho7 (by rw [sndT_length, HNB.out]) (sndT_bytes _ _ HPB.out.2.2.1)
                have HP7 := hide hp7
                clear ho7 hr7 hg7 hp7 HO6 HL6 HG6 HR6 HX6 HPB6
                obtain ⟨_, _, e8, hp8, _⟩ := own_piece_n HO8.out (by rw [sndP_length, HNB.out]) (sndP_bytes HKF.out _ HPB.out.2.2.1)
                cases e8
                have hOP := open_snd L pa ca nb o.b o.now w7 HKF.out HBD.out.2 hp8 HNB.out HBD.out.1 (HLB.out _ HP8.out.be)
                rw [HP5.out.c, HP5.out.m, HP5.out.d] at hOP
                have HOP := hide hOP
                clear hp8 hOP
                go_upto_region 27 with fail
                go_wp2_with (refine wpList_exec (by rfl) _ (exec_load_all 25 (.tmp 5) rfl W.heap.size rfl 25 (kCells code mark) _ HP8.out.kb Tryd.underlying25 rfl IK2.out) ?_)
                refine HOP.out.mono ?_
                rintro r w8 ⟨u8, rfl, ho8, hb8⟩
                obtain ⟨p8, c8, rfl, hp8, _⟩ := own_piece_n ho8 (by rw [sndT_length, HNB.out]) (sndT_bytes _ _ HPB.out.2.2.1)
                have HP9 := hide (HP8.out.kept hb8)
                have HO9 := hide (own_below HO8.out hb8)
                have HA9 := hide hp8
                have HB9 := hide (HP7.out.kept hb8)
                clear hb8 hp8 ho8 HP8 HO8 HP7 HOP
                have NW := hide (Arr.new w8 41 [Value.bool false, Value.int .u64 0])
                have NB : Hid (Below w8.heap.size w8 (w8.alloc (Obj.cells #[Value.bool false, Value.int .u64 0] 41))) := (Below.refl _ _).alloc (Nat.le_refl _) _
                go_upto_region 28 with (refine wpList_store_row rfl 41 _ _ rfl w8.heap.size (noC d L.next).toArray rfl rfl 41 #[Value.bool false, Value.int .u64 0] NW.out infoN rfl (one_noC _ _) ?_)
                have NR := hide (NW.out.row (noC d L.next).toArray)
                have B10 := hide (below_setRow NB.out (Nat.le_refl _) NW.out.lt (noC d L.next).toArray)
                clear NW NB
                generalize (w8.alloc (Obj.cells #[Value.bool false, Value.int .u64 0] 41)).setRow w8.heap.size (noC d L.next).toArray = wa at *
                have HPA := hide (HP9.out.kept B10.out)
                have HOA := hide (own_below HO9.out B10.out)
                have hcv1 := conv_any (HA9.out.kept B10.out).1 (c := c8) (nb + 4) (by rw [sndT_length, HNB.out])
                have hcv2 := conv_any (HB9.out.kept B10.out).1 (c := c7) (nb + 4) (by rw [sndT_length, HNB.out])
                clear B10 HP9 HO9 HA9 HB9
                generalize w8.heap.size = gn at *
                have HEQ := hide (fun v : World => eq_no_true d L.next v)
                have hsl : wrap64 ((nb : Int) + 4) = ((nb + 4 : Nat) : Int) := by have := HBD.out.1; unfold wrap64; omega
                generalize strF (sndT L o.now o.b) = SB at *
                go_upto_region 30 with (first
                  | (refine wpList_exec (by rfl) _ (exec_load_all 41 (.tmp 23) rfl gn rfl 41 (noC d L.next) _ NR.out Tryd.underlying41 rfl infoN) ?_)
                  | (refine wpList_exec (by rfl) _ (exec_neq_agg 41 41 (.tmp 121) (.tmp 124) rfl #[Value.bool d, Value.int .u64 (L.next : Int)] #[Value.bool d, Value.int .u64 (L.next : Int)] rfl rfl true (guardNn _ _ _ _ _) (HEQ.out _)) ?_))
                clear hcv1 hcv2 HEQ NR hsl
                have hxl60 : xs.length ≤ 1000 := by have := H60.out; omega
                have HX60 := hide hxl60
                clear hxl60
                have hla : (sndP L o.now o.b).length = nb + 28 := by rw [sndP_length, HNB.out]
                have HOK : Hid (Rw.okIn ⟨pa, ca, sndP L o.now o.b⟩ W wa) := ⟨by show World.ownsRow _ _ _ _ (.slice pa (sndP L o.now o.b).length ca) (sndP L o.now o.b).length _; rw [hla]; exact HOA.out, by show (sndP L o.now o.b).length ≤ 1224; have := HBD.out.1; omega, sndP_bytes HKF.out _ HPB.out.2.2.1⟩
                have HLA : Hid ((sndP L o.now o.b).length = nb + 28) := hla
                clear hla
                have HAL : Hid (Below wa.heap.size wa (wa.alloc (Obj.cells #[Value.slice pa (nb + 28) ca] 42))) := (Below.refl _ _).alloc (Nat.le_refl _) _
                have HPB2 := hide (HPA.out.kept HAL.out)
                have HOK2 : Hid (Rw.okIn ⟨pa, ca, sndP L o.now o.b⟩ W (wa.alloc (Obj.cells #[Value.slice pa (nb + 28) ca] 42))) := ⟨own_below HOK.out.1 HAL.out, HOK.out.2⟩
                clear HAL HPA HOA HOK
                go_upto_region 51 with (at_builtin; refine wpList_append_slice_at rfl (.tmp 134) (.tmp 136) rfl W.heap.size u14 (xs.map Rw.V) rfl xs.length HPB2.out.sent.r wa.heap.size pa (nb + 28) ca rfl (by simp) HX60.out HPB2.out.be.size ?_; intro v9 w9 ho9 hg9 ha9)
                have HPR := hide (HPB2.out.more (l := ⟨pa, ca, sndP L o.now o.b⟩) HOK2.out (by show World.ownsRow _ _ _ _ _ _ (_ ++ [Value.slice pa (sndP L o.now o.b).length ca]); rw [HLA.out]; exact ho9) hg9 ha9)
                clear ho9 hg9 ha9
                have HXL : Hid ((xs ++ [(⟨pa, ca, sndP L o.now o.b⟩ : Rw)]).length ≤ j + 1) := by show _ ≤ _; simp; exact hxl
                have HYL : Hid (ys.length ≤ j + 1) := Nat.le_succ_of_le hyl
                clear HPB2 HOK2 HKF HBD HNB HEE HPB HX HLA HX60
                go_wp2_with fail
                refine (stands_ok _ k _ _ _ _ HPR.out.l HPR.out.r).mono ?_
                rintro r w7 ⟨rfl, hb⟩
                have HP7 := hide (HPR.out.kept hb)
                clear hb HPR
                go_wp2_with fail
                go_roundg (n - j)
                case measure => exact hf
                case rel => exact ⟨j + 1, _, _, _, rfl, by rw [hwj], hjn, Nat.sub_lt_sub_left hjn (Nat.lt_succ_self j), HXL.out, HYL.out, ⟨_, _, _, HP7.out⟩⟩
              · have HS : Hid (Calls Tryd.prog 7 #[.pointer (some ⟨g, 0, none⟩), .int .i64 o.now, .slice o.p nb o.c] w5 fun e w' => e = .returned (.tuple #[.slice none 0 0, .int .i64 E]) ∧ w' = w5) := by
                  simp only [if_neg hE] at hS
                  exact hS
                have HRS := hide (rsend_bad k L s t o.p o.c nb o.now w5 HP5.out.r (by rw [HEE.out]; exact hE))
                rw [hEE] at HRS
                have hEn : (E != 0) = true := by simpa using hE
                have hE2 : decide (E = 0) = false := by simpa using hE
                clear hS hnb hEE hE
                go_wp2_with fail
                refine HS.out.mono ?_
                rintro r w6 ⟨rfl, rfl⟩
                go_wp2_with fail
                refine HRS.out.mono ?_
                rintro r w6' ⟨rfl, rfl⟩
                have HXL : Hid (xs.length ≤ j + 1) := Nat.le_succ_of_le hxl
                have HYL : Hid (ys.length ≤ j + 1) := Nat.le_succ_of_le hyl
                have HPR := HP5
                clear HP5 HS HRS HX HPB
                go_upto_region 51 with fail
                clear x2 x6 hEn hE2
                go_wp2_with fail
                refine (stands_ok _ k _ _ _ _ HPR.out.l HPR.out.r).mono ?_
                rintro r w7 ⟨rfl, hb⟩
                have HP7 := hide (HPR.out.kept hb)
                clear hb HPR
                go_wp2_with fail
                go_roundg (n - j)
                case measure => exact hf
                case rel => exact ⟨j + 1, _, _, _, rfl, by rw [hwj], hjn, Nat.sub_lt_sub_left hjn (Nat.lt_succ_self j), HXL.out, HYL.out, ⟨_, _, _, HP7.out⟩⟩
          by_cases k1 : kd = 1
          · subst k1
            as_aux_lemma =>
              obtain ⟨nb, hnb⟩ : ∃ nb, o.b.length = nb := ⟨_, rfl⟩
              rw [hnb] at x6 d3
              have x4 : w5.cell? ⟨gx, 4, none⟩ = some (.bool o.d) := HX.out.cell 4
              have x5 : w5.cell? ⟨gx, 5, none⟩ = some (.int .u64 (o.n : Int)) := HX.out.cell 5
              have hrg : w5.rangeAt gx 4 (noC o.d o.n) := by
                intro i u hu
                have hi2 : i < 2 := (List.getElem?_eq_some_iff.1 hu).1
                match i, hi2, hu with
                | 0, _, hu => exact x4.trans hu
                | 1, _, hu => exact x5.trans hu
              have HRG := hide hrg
              have HS := hide (seal_any code mark o.d o.n o.p o.c nb o.b w5 HKY.out HOI.out.n (HOI.out.p.kept HP5.out.be) hnb (HLB.out _ HP5.out.be))
              have HNB := hide hnb
              have HSZ : Hid (W.heap.size ≤ w5.heap.size) := HP5.out.be.size
              clear hrg x4 x5 hnb
              go_wp2_with (first
                | (refine wpList_exec (by rfl) _ (exec_load_all 25 (.tmp 5) rfl W.heap.size rfl 25 (kCells code mark) _ HP5.out.kb Tryd.underlying25 rfl IK2.out) ?_)
                | (refine wpList_exec (by rfl) _ (exec_load_mid 41 (.tmp 142) rfl gx 4 rfl (noC o.d o.n) _ HRG.out Tryd.underlying41 rfl infoN) ?_))
              refine HS.out.mono ?_
              rintro r w6 ⟨hS, hb6⟩
              have HP6 := hide (HP5.out.kept hb6)
              have HX6 := hide (HX.out.kept hb6)
              clear hb6 HRG x6 HP5 HX HS
              rcases hS with ⟨E, hE, rfl⟩ | ⟨h12, v6, rfl, ho6⟩
              · have hEn : (E != 0) = true := by simpa using hE
                have hE2 : decide (E = 0) = false := by simpa using hE
                have HXL : Hid (xs.length ≤ j + 1) := Nat.le_succ_of_le hxl
                have HYL : Hid (ys.length ≤ j + 1) := Nat.le_succ_of_le hyl
                have HPR := HP6
                clear HP6 HX6 hE
                go_upto_region 51 with fail
                clear hEn hE2
                go_wp2_with fail
                refine (stands_ok _ k _ _ _ _ HPR.out.l HPR.out.r).mono ?_
                rintro r w7 ⟨rfl, hb⟩
                have HP7 := hide (HPR.out.kept hb)
                clear hb HPR
                go_wp2_with fail
                go_roundg (n - j)
                case measure => exact hf
                case rel => exact ⟨j + 1, _, _, _, rfl, by rw [hwj], hjn, Nat.sub_lt_sub_left hjn (Nat.lt_succ_self j), HXL.out, HYL.out, ⟨_, _, _, HP7.out⟩⟩
              · obtain ⟨P, hPP⟩ : ∃ P, P = paF code mark (wdF o.d o.n) o.b := ⟨_, rfl⟩
                rw [← hPP] at ho6
                have hPl : P.length = nb + 24 := by rw [hPP]; rw [paF_length, HNB.out]
                have hPb : BytesN P := by rw [hPP]; exact paF_bytes HKY.out.c _ _ HOI.out.p.2.2.1
                obtain ⟨pa, ca, rfl, _, _⟩ := own_piece_n ho6 hPl hPb
                have HLA := hide hPl
                have HOK : Hid (Rw.okIn ⟨pa, ca, P⟩ W w6) := ⟨by show World.ownsRow _ _ _ _ (.slice pa P.length ca) P.length _; rw [hPl]; exact own_base ho6 HSZ.out, by show P.length ≤ 1224; omega, hPb⟩
                have HH := hide (HP6.out.hear_own H2.out (HLB.out _ HP6.out.be) o pa ca (nb + 24) P HOK.out hPl)
                clear hPP ho6 hPl hPb h12
                go_upto_region 34 with fail
                go_wp2_with (first
                  | (refine wpList_exec (by rfl) _ (exec_load_all 25 (.tmp 5) rfl W.heap.size rfl 25 (kCells code mark) _ HP6.out.kb Tryd.underlying25 rfl IK2.out) ?_)
                  | (refine wpList_exec (by rfl) _ (exec_load_all 44 (.tmp 17) rfl gx rfl 44 o.C _ HX6.out Tryd.underlying44 rfl infoOp) ?_))
                refine HH.out.mono ?_
                rintro r wa ⟨rfl, L1, s1, t1, hp1, hk1, _⟩
                have HPA := hide hp1
                have HOA := hide (hk1 _ HOK.out)
                clear hp1 hk1 HH HOK HP6 HX6
                go_upto_region 36 with fail
                have hyl60 : ys.length ≤ 1000 := by have := H60.out; omega
                have HY60 := hide hyl60
                clear hyl60
                have HAL : Hid (Below wa.heap.size wa (wa.alloc (Obj.cells #[Value.slice pa (nb + 24) ca] 42))) := (Below.refl _ _).alloc (Nat.le_refl _) _
                have HPB2 := hide (HPA.out.kept HAL.out)
                have HOK2 : Hid (Rw.okIn ⟨pa, ca, P⟩ W (wa.alloc (Obj.cells #[Value.slice pa (nb + 24) ca] 42))) := ⟨own_below HOA.out.1 HAL.out, HOA.out.2⟩
                clear HAL HPA HOA
                go_upto_region 51 with (at_builtin; refine wpList_append_slice_at rfl (.tmp 158) (.tmp 160) rfl W.heap.size u15 (ys.map Rw.V) rfl ys.length HPB2.out.heard.r wa.heap.size pa (nb + 24) ca rfl (by simp) HY60.out HPB2.out.be.size ?_; intro v9 w9 ho9 hg9 ha9)
                have HPR := hide (HPB2.out.more' (l := ⟨pa, ca, P⟩) HOK2.out (by show World.ownsRow _ _ _ _ _ _ (_ ++ [Value.slice pa P.length ca]); rw [HLA.out]; exact ho9) hg9 ha9)
                clear ho9 hg9 ha9
                have HXL : Hid (xs.length ≤ j + 1) := Nat.le_succ_of_le hxl
                have HYL : Hid ((ys ++ [(⟨pa, ca, P⟩ : Rw)]).length ≤ j + 1) := by show _ ≤ _; simp; exact hyl
                clear HPB2 HOK2 HNB HSZ HLA HY60
                go_wp2_with fail
                refine (stands_ok _ k _ _ _ _ HPR.out.l HPR.out.r).mono ?_
                rintro r w7 ⟨rfl, hb⟩
                have HP7 := hide (HPR.out.kept hb)
                clear hb HPR
                go_wp2_with fail
                go_roundg (n - j)
                case measure => exact hf
                case rel => exact ⟨j + 1, _, _, _, rfl, by rw [hwj], hjn, Nat.sub_lt_sub_left hjn (Nat.lt_succ_self j), HXL.out, HYL.out, ⟨_, _, _, HP7.out⟩⟩
          by_cases k2 : kd = 2
          · subst k2
            as_aux_lemma =>
              obtain ⟨nb, hnb⟩ : ∃ nb, o.b.length = nb := ⟨_, rfl⟩
              have hl13 : nb ≤ 1300 := by rw [← hnb]; exact HLE.out
              have HH := hide (HP5.out.hear_in H2.out (HLB.out _ HP5.out.be) o o.p o.c nb o.b HOI.out.p hnb hl13)
              rw [hnb] at x6 d3
              clear hnb hl13
              go_upto_region 38 with fail
              go_wp2_with (first
                | (refine wpList_exec (by rfl) _ (exec_load_all 25 (.tmp 5) rfl W.heap.size rfl 25 (kCells code mark) _ HP5.out.kb Tryd.underlying25 rfl IK2.out) ?_)
                | (refine wpList_exec (by rfl) _ (exec_load_all 44 (.tmp 17) rfl gx rfl 44 o.C _ HX.out Tryd.underlying44 rfl infoOp) ?_))
              refine HH.out.mono ?_
              rintro r wa ⟨rfl, L1, s1, t1, hp1, _, _⟩
              have HPR := hide hp1
              clear hp1 HH HP5 HX x6
              have HXL : Hid (xs.length ≤ j + 1) := Nat.le_succ_of_le hxl
              have HYL : Hid (ys.length ≤ j + 1) := Nat.le_succ_of_le hyl
              go_wp2_with fail
              refine (stands_ok _ k _ _ _ _ HPR.out.l HPR.out.r).mono ?_
              rintro r w7 ⟨rfl, hb⟩
              have HP7 := hide (HPR.out.kept hb)
              clear hb HPR
              go_wp2_with fail
              go_roundg (n - j)
              case measure => exact hf
              case rel => exact ⟨j + 1, _, _, _, rfl, by rw [hwj], hjn, Nat.sub_lt_sub_left hjn (Nat.lt_succ_self j), HXL.out, HYL.out, ⟨_, _, _, HP7.out⟩⟩
          by_cases k3 : kd = 3
          · subst k3
            as_aux_lemma =>
              by_cases hl : 0 < xs.length
              · have hl60 : xs.length ≤ 1000 := by have := H60.out; omega
                obtain ⟨ri, ⟨rq, rc, rP⟩, rgb, rcap, hrl, hra, hri, hrv, hre, hrm, hrn⟩ := HP5.out.sent.pick o.a hl hl60
                subst hrv
                have hok := HP5.out.sent.ps _ hrl
                obtain ⟨rn, hPn⟩ : ∃ rn, rP.length = rn := ⟨_, rfl⟩
                have CE : Hid (∀ v, Hid ((∃ L' s' t', PlS W v g k code mark d L' s' t' (.slice (some ⟨rgb, 0, none⟩) xs.length rcap) u15 xs ys) ∧ Arr v gx 44 o.C) → v.cell? ⟨rgb, ri, none⟩ = some (.slice rq rn rc)) := fun v h => by
                  obtain ⟨_, _, _, hp⟩ := h.out.1
                  have h3 := hp.sent.at hra
                  rw [← hPn]
                  exact h3
                have KB : Hid (∀ v, Hid ((∃ L' s' t', PlS W v g k code mark d L' s' t' (.slice (some ⟨rgb, 0, none⟩) xs.length rcap) u15 xs ys) ∧ Arr v gx 44 o.C) → Arr v W.heap.size 25 (kCells code mark)) := fun v h => by
                  obtain ⟨_, _, _, hp⟩ := h.out.1
                  exact hp.kb
                have OPA : Hid (∀ v, Hid ((∃ L' s' t', PlS W v g k code mark d L' s' t' (.slice (some ⟨rgb, 0, none⟩) xs.length rcap) u15 xs ys) ∧ Arr v gx 44 o.C) → Arr v gx 44 o.C) := fun v h => h.out.2
                have CA : Hid (∀ v, Hid ((∃ L' s' t', PlS W v g k code mark d L' s' t' (.slice (some ⟨rgb, 0, none⟩) xs.length rcap) u15 xs ys) ∧ Arr v gx 44 o.C) → v.cell? ⟨gx, 1, none⟩ = some (.int .i64 o.a)) := fun v h => h.out.2.cell 1
                have GXN : Hid (gx ≠ g ∧ gx ≠ k) := ⟨arr_ne HX.out HP5.out.l.a (by decide), arr_ne HX.out HP5.out.r.a (by decide)⟩
                have HCL : Hid (∀ v, Hid ((∃ L' s' t', PlS W v g k code mark d L' s' t' (.slice (some ⟨rgb, 0, none⟩) xs.length rcap) u15 xs ys) ∧ Arr v gx 44 o.C) → Calls Tryd.prog 11 #[.pointer (some ⟨g, 0, none⟩), .pointer (some ⟨k, 0, none⟩), keyV code mark, .agg o.C.toArray, .slice rq rn rc] v fun e w' => e = .returned (.bool true) ∧ Hid ((∃ L' s' t', PlS W w' g k code mark d L' s' t' (.slice (some ⟨rgb, 0, none⟩) xs.length rcap) u15 xs ys) ∧ Arr w' gx 44 o.C)) := fun v h => by
                  obtain ⟨⟨L', s', t', hp⟩, ha⟩ := h.out
                  refine (hp.hear_own H2.out (HLB.out _ hp.be) o rq rc rn rP (hp.sent.ps _ hrl) hPn).mono ?_
                  rintro e w' ⟨e1, L2, s2, t2, h2, _, h4⟩
                  exact ⟨e1, ⟨⟨L2, s2, t2, h2⟩, h4 gx _ _ ha GXN.out.1 GXN.out.2⟩⟩
                have HS0 : Hid ((∃ L' s' t', PlS W w5 g k code mark d L' s' t' (.slice (some ⟨rgb, 0, none⟩) xs.length rcap) u15 xs ys) ∧ Arr w5 gx 44 o.C) := ⟨⟨_, _, _, HP5.out⟩, HX.out⟩
                have hgt : decide (0 < xs.length) = true := by simpa using hl
                have hl0 : ¬ xs.length = 0 := by omega
                have hri2 : (ri : Int) < (xs.length : Int) := by omega
                clear hok hPn hrl hra HP5 HX hl hl60
                go_upto_region 41 with fail
                clear x6 d3 x0
                refine wp_region_held_drew (S := fun v => Hid ((∃ L' s' t', PlS W v g k code mark d L' s' t' (.slice (some ⟨rgb, 0, none⟩) xs.length rcap) u15 xs ys) ∧ Arr v gx 44 o.C)) (by kernel_rfl) (HS0.out.1.elim fun L0 h => h.elim fun s0 h => h.elim fun t0 h => hide ⟨⟨L0, s0, t0, h.kept (Below.refl _ _).drew⟩, HS0.out.2.kept (Below.refl _ _).drew⟩) (fun hHeld => ?_)
                refine take_dstH (i := 0) (d := 174) (v := ?_) rfl rfl (by kernel_rfl) (by kernel_rfl) (by kernel_rfl) (fun _ _ _ h => h) (by rfl) hHeld ?_ ?_
                rotate_left
                · intro wZ hSw; clear hSw; go_simp; first | (with_reducible rfl) | (rw [if_pos (by omega)]; with_reducible rfl) | skip
                try simp only [Act.put, List.setIfInBounds_toArray, List.set_cons_zero, List.set_cons_succ]
                refine take_dstH (i := 1) (d := 175) (v := ?_) rfl rfl (by kernel_rfl) (by kernel_rfl) (by kernel_rfl) (fun _ _ _ h => h) (by rfl) hHeld ?_ ?_
                rotate_left
                · intro wZ hSw; clear hSw; go_simp; first | (with_reducible rfl) | (rw [if_pos (by omega)]; with_reducible rfl) | skip
                try simp only [Act.put, List.setIfInBounds_toArray, List.set_cons_zero, List.set_cons_succ]
                refine take_dstH (i := 2) (d := 176) (v := ?_) rfl rfl (by kernel_rfl) (by kernel_rfl) (by kernel_rfl) (fun _ _ _ h => h) (by rfl) hHeld ?_ ?_
                rotate_left
                · intro wZ hSw; clear hSw; go_simp; first | (with_reducible rfl) | (rw [if_pos (by omega)]; with_reducible rfl) | skip
                try simp only [Act.put, List.setIfInBounds_toArray, List.set_cons_zero, List.set_cons_succ]
                refine take_dstH (i := 3) (d := 177) (v := ?_) rfl rfl (by kernel_rfl) (by kernel_rfl) (by kernel_rfl) (fun _ _ _ h => h) (by rfl) hHeld ?_ ?_
                rotate_left
                · intro wZ hSw; clear hSw; go_simp; first | (with_reducible rfl) | (rw [if_pos (by omega)]; with_reducible rfl) | skip
                try simp only [Act.put, List.setIfInBounds_toArray, List.set_cons_zero, List.set_cons_succ]
                refine take_dstH (i := 4) (d := 178) (v := ?_) rfl rfl (by kernel_rfl) (by kernel_rfl) (by kernel_rfl) (fun _ _ _ h => h) (by rfl) hHeld ?_ ?_
                rotate_left
                · intro wZ hSw; clear hSw; go_simp; first | (with_reducible rfl) | (rw [if_pos (by omega)]; with_reducible rfl) | skip
                try simp only [Act.put, List.setIfInBounds_toArray, List.set_cons_zero, List.set_cons_succ]
                refine take_dstH (i := 5) (d := 179) (v := ?_) rfl rfl (by kernel_rfl) (by kernel_rfl) (by kernel_rfl) (fun _ _ _ h => h) (by rfl) hHeld ?_ ?_
                rotate_left
                · intro wZ hSw; clear hSw; go_simp; first | (with_reducible rfl) | (rw [if_pos (by omega)]; with_reducible rfl) | skip
                try simp only [Act.put, List.setIfInBounds_toArray, List.set_cons_zero, List.set_cons_succ]
                refine take_dstH (i := 6) (d := 180) (v := ?_) rfl rfl (by kernel_rfl) (by kernel_rfl) (by kernel_rfl) (fun _ _ _ h => h) (by rfl) hHeld ?_ ?_
                rotate_left
                · intro wZ hSw; refine exec_load_all 25 (.tmp 5) ?_ W.heap.size ?_ 25 (kCells code mark) _ (KB.out _ hSw) Tryd.underlying25 rfl IK2.out <;> rfl
                try simp only [Act.put, List.setIfInBounds_toArray, List.set_cons_zero, List.set_cons_succ]
                refine take_dstH (i := 7) (d := 181) (v := ?_) rfl rfl (by kernel_rfl) (by kernel_rfl) (by kernel_rfl) (fun _ _ _ h => h) (by rfl) hHeld ?_ ?_
                rotate_left
                · intro wZ hSw; refine exec_load_all 44 (.tmp 17) ?_ gx ?_ 44 o.C _ (OPA.out _ hSw) Tryd.underlying44 rfl infoOp <;> rfl
                try simp only [Act.put, List.setIfInBounds_toArray, List.set_cons_zero, List.set_cons_succ]
                refine take_dstH (i := 8) (d := 182) (v := ?_) rfl rfl (by kernel_rfl) (by kernel_rfl) (by kernel_rfl) (fun _ _ _ h => h) (by rfl) hHeld ?_ ?_
                rotate_left
                · intro wZ hSw; clear hSw; go_simp; first | (with_reducible rfl) | (rw [if_pos (by omega)]; with_reducible rfl) | skip
                try simp only [Act.put, List.setIfInBounds_toArray, List.set_cons_zero, List.set_cons_succ]
                refine take_dstH (i := 9) (d := 183) (v := ?_) rfl rfl (by kernel_rfl) (by kernel_rfl) (by kernel_rfl) (fun _ _ _ h => h) (by rfl) hHeld ?_ ?_
                rotate_left
                · intro wZ hSw; clear hSw; go_simp; first | (with_reducible rfl) | (rw [if_pos (by omega)]; with_reducible rfl) | skip
                try simp only [Act.put, List.setIfInBounds_toArray, List.set_cons_zero, List.set_cons_succ]
                refine take_dstH (i := 10) (d := 184) (v := ?_) rfl rfl (by kernel_rfl) (by kernel_rfl) (by kernel_rfl) (fun _ _ _ h => h) (by rfl) hHeld ?_ ?_
                rotate_left
                · intro wZ hSw; have hfS := CA.out wZ hSw; clear hSw; go_simp; first | (with_reducible rfl) | (rw [if_pos (by omega)]; with_reducible rfl) | skip
                try simp only [Act.put, List.setIfInBounds_toArray, List.set_cons_zero, List.set_cons_succ]
                refine take_dstH (i := 11) (d := 185) (v := ?_) rfl rfl (by kernel_rfl) (by kernel_rfl) (by kernel_rfl) (fun _ _ _ h => h) (by rfl) hHeld ?_ ?_
                rotate_left
                · intro wZ hSw; clear hSw; go_simp; first | (with_reducible rfl) | (rw [if_pos (by omega)]; with_reducible rfl) | skip
                try simp only [Act.put, List.setIfInBounds_toArray, List.set_cons_zero, List.set_cons_succ]
                refine take_dstH (i := 12) (d := 186) (v := ?_) rfl rfl (by kernel_rfl) (by kernel_rfl) (by kernel_rfl) (fun _ _ _ h => h) (by rfl) hHeld ?_ ?_
                rotate_left
                · intro wZ hSw; clear hSw; go_simp; first | (with_reducible rfl) | (rw [if_pos (by omega)]; with_reducible rfl) | skip
                try simp only [Act.put, List.setIfInBounds_toArray, List.set_cons_zero, List.set_cons_succ]
                refine take_dstH (i := 13) (d := 187) (v := ?_) rfl rfl (by kernel_rfl) (by kernel_rfl) (by kernel_rfl) (fun _ _ _ h => h) (by rfl) hHeld ?_ ?_
                rotate_left
                · intro wZ hSw; clear hSw; go_simp; first | (with_reducible rfl) | (rw [if_pos (by omega)]; with_reducible rfl) | skip
                try simp only [Act.put, List.setIfInBounds_toArray, List.set_cons_zero, List.set_cons_succ]
                refine take_dstH (i := 14) (d := 188) (v := ?_) rfl rfl (by kernel_rfl) (by kernel_rfl) (by kernel_rfl) (fun _ _ _ h => h) (by rfl) hHeld ?_ ?_
                rotate_left
                · intro wZ hSw; clear hSw; go_simp; first | (with_reducible rfl) | (rw [if_pos (by omega)]; with_reducible rfl) | skip
                try simp only [Act.put, List.setIfInBounds_toArray, List.set_cons_zero, List.set_cons_succ]
                refine take_dstH (i := 15) (d := 189) (v := ?_) rfl rfl (by kernel_rfl) (by kernel_rfl) (by kernel_rfl) (fun _ _ _ h => h) (by rfl) hHeld ?_ ?_
                rotate_left
                · intro wZ hSw; clear hSw; go_simp; first | (with_reducible rfl) | (rw [if_pos (by omega)]; with_reducible rfl) | skip
                try simp only [Act.put, List.setIfInBounds_toArray, List.set_cons_zero, List.set_cons_succ]
                refine take_dstH (i := 16) (d := 190) (v := ?_) rfl rfl (by kernel_rfl) (by kernel_rfl) (by kernel_rfl) (fun _ _ _ h => h) (by rfl) hHeld ?_ ?_
                rotate_left
                · intro wZ hSw; clear hSw; go_simp; first | (with_reducible rfl) | (rw [if_pos (by omega)]; with_reducible rfl) | skip
                try simp only [Act.put, List.setIfInBounds_toArray, List.set_cons_zero, List.set_cons_succ]
                refine take_dstH (i := 17) (d := 191) (v := ?_) rfl rfl (by kernel_rfl) (by kernel_rfl) (by kernel_rfl) (fun _ _ _ h => h) (by rfl) hHeld ?_ ?_
                rotate_left
                · intro wZ hSw; clear hSw; go_simp; first | (with_reducible rfl) | (rw [if_pos (by omega)]; with_reducible rfl) | skip
                try simp only [Act.put, List.setIfInBounds_toArray, List.set_cons_zero, List.set_cons_succ]
                refine take_dstH (i := 18) (d := 192) (v := ?_) rfl rfl (by kernel_rfl) (by kernel_rfl) (by kernel_rfl) (fun _ _ _ h => h) (by rfl) hHeld ?_ ?_
                rotate_left
                · intro wZ hSw; have hfS := CE.out wZ hSw; clear hSw; go_simp; first | (with_reducible rfl) | (rw [if_pos (by omega)]; with_reducible rfl) | skip
                try simp only [Act.put, List.setIfInBounds_toArray, List.set_cons_zero, List.set_cons_succ]
                refine wpAnyH_ready (rs := [19]) (by kernel_rfl) (by simp) ?_
                refine (AllReadyH.cons rfl (fun K hK => ?_) AllReadyH.nil)
                go_simp
                refine Calls.mono (HCL.out _ hHeld) ?_; rintro e wa ⟨rfl, HK⟩
                go_wp2_with fail
                refine hK.out _ _ ?_ (fun hHeld => ?_)
                · exact HK
                clear hK K
                try simp only [Act.put, List.setIfInBounds_toArray, List.set_cons_zero, List.set_cons_succ]
                refine take_dstH (i := 20) (d := 194) (v := ?_) rfl rfl (by kernel_rfl) (by kernel_rfl) (by kernel_rfl) (fun _ _ _ h => h) (by rfl) hHeld ?_ ?_
                rotate_left
                · intro wZ hSw; clear hSw; go_simp; first | (with_reducible rfl) | (rw [if_pos (by omega)]; with_reducible rfl) | skip
                try simp only [Act.put, List.setIfInBounds_toArray, List.set_cons_zero, List.set_cons_succ]
                refine take_dstH (i := 21) (d := 195) (v := ?_) rfl rfl (by kernel_rfl) (by kernel_rfl) (by kernel_rfl) (fun _ _ _ h => h) (by rfl) hHeld ?_ ?_
                rotate_left
                · intro wZ hSw; clear hSw; go_simp; first | (with_reducible rfl) | (rw [if_pos (by omega)]; with_reducible rfl) | skip
                try simp only [Act.put, List.setIfInBounds_toArray, List.set_cons_zero, List.set_cons_succ]
                refine wpAnyH_done (by kernel_rfl) ?_ _
                all_goals
                  obtain ⟨⟨L8, s8, t8, hp8⟩, _⟩ := hHeld.out
                  have HPR := hide hp8
                  clear hp8 CE KB OPA CA GXN HCL HS0 hgt hl0 hri2 hri hre hrm hrn
                  have HXL : Hid (xs.length ≤ j + 1) := Nat.le_succ_of_le hxl
                  have HYL : Hid (ys.length ≤ j + 1) := Nat.le_succ_of_le hyl
                  go_wp2_with fail
                  refine (stands_ok _ k _ _ _ _ HPR.out.l HPR.out.r).mono ?_
                  rintro r w7 ⟨rfl, hb⟩
                  have HP7 := hide (HPR.out.kept hb)
                  clear hb HPR
                  go_wp2_with fail
                  go_roundg (n - j)
                  case measure => exact hf
                  case rel => exact ⟨j + 1, _, _, _, rfl, by rw [hwj], hjn, Nat.sub_lt_sub_left hjn (Nat.lt_succ_self j), HXL.out, HYL.out, ⟨_, _, _, HP7.out⟩⟩
              · obtain ⟨rp, rn, rcap, hrv, hrn⟩ := HP5.out.sent.shape
                have hz : rn = 0 := by omega
                subst hz
                subst hrv
                have HS0 : Hid (PlS W w5 g k code mark d L s t (.slice rp 0 rcap) u15 xs ys) := HP5.out
                clear hrn hl
                go_upto_region 41 with fail
                clear x6 d3 x0 HP5 HX
                refine wp_region_held_drew (S := fun v => Hid (PlS W v g k code mark d L s t (.slice rp 0 rcap) u15 xs ys)) (by kernel_rfl) (hide (HS0.out.kept (Below.refl _ _).drew)) (fun hHeld => ?_)
                refine take_dstH (i := 0) (d := 174) (v := ?_) rfl rfl (by kernel_rfl) (by kernel_rfl) (by kernel_rfl) (fun _ _ _ h => h) (by rfl) hHeld ?_ ?_
                rotate_left
                · intro wZ hSw; clear hSw; go_simp; first | (with_reducible rfl) | (rw [if_pos (by omega)]; with_reducible rfl) | skip
                try simp only [Act.put, List.setIfInBounds_toArray, List.set_cons_zero, List.set_cons_succ]
                refine take_dstH (i := 1) (d := 175) (v := ?_) rfl rfl (by kernel_rfl) (by kernel_rfl) (by kernel_rfl) (fun _ _ _ h => h) (by rfl) hHeld ?_ ?_
                rotate_left
                · intro wZ hSw; clear hSw; go_simp; first | (with_reducible rfl) | (rw [if_pos (by omega)]; with_reducible rfl) | skip
                try simp only [Act.put, List.setIfInBounds_toArray, List.set_cons_zero, List.set_cons_succ]
                refine take_dstH (i := 2) (d := 176) (v := ?_) rfl rfl (by kernel_rfl) (by kernel_rfl) (by kernel_rfl) (fun _ _ _ h => h) (by rfl) hHeld ?_ ?_
                rotate_left
                · intro wZ hSw; clear hSw; go_simp; first | (with_reducible rfl) | (rw [if_pos (by omega)]; with_reducible rfl) | skip
                try simp only [Act.put, List.setIfInBounds_toArray, List.set_cons_zero, List.set_cons_succ]
                refine take_dstH (i := 3) (d := 177) (v := ?_) rfl rfl (by kernel_rfl) (by kernel_rfl) (by kernel_rfl) (fun _ _ _ h => h) (by rfl) hHeld ?_ ?_
                rotate_left
                · intro wZ hSw; clear hSw; go_simp; first | (with_reducible rfl) | (rw [if_pos (by omega)]; with_reducible rfl) | skip
                try simp only [Act.put, List.setIfInBounds_toArray, List.set_cons_zero, List.set_cons_succ]
                refine skip_dstH (i := 4) (d := 178) rfl rfl (by kernel_rfl) (by kernel_rfl) (by kernel_rfl) (fun _ _ _ h => h) (by rfl) hHeld ?_
                try simp only [Act.put, List.setIfInBounds_toArray, List.set_cons_zero, List.set_cons_succ]
                refine skip_dstH (i := 5) (d := 179) rfl rfl (by kernel_rfl) (by kernel_rfl) (by kernel_rfl) (fun _ _ _ h => h) (by rfl) hHeld ?_
                try simp only [Act.put, List.setIfInBounds_toArray, List.set_cons_zero, List.set_cons_succ]
                refine skip_dstH (i := 6) (d := 180) rfl rfl (by kernel_rfl) (by kernel_rfl) (by kernel_rfl) (fun _ _ _ h => h) (by rfl) hHeld ?_
                try simp only [Act.put, List.setIfInBounds_toArray, List.set_cons_zero, List.set_cons_succ]
                refine skip_dstH (i := 7) (d := 181) rfl rfl (by kernel_rfl) (by kernel_rfl) (by kernel_rfl) (fun _ _ _ h => h) (by rfl) hHeld ?_
                try simp only [Act.put, List.setIfInBounds_toArray, List.set_cons_zero, List.set_cons_succ]
                refine skip_dstH (i := 8) (d := 182) rfl rfl (by kernel_rfl) (by kernel_rfl) (by kernel_rfl) (fun _ _ _ h => h) (by rfl) hHeld ?_
                try simp only [Act.put, List.setIfInBounds_toArray, List.set_cons_zero, List.set_cons_succ]
                refine skip_dstH (i := 9) (d := 183) rfl rfl (by kernel_rfl) (by kernel_rfl) (by kernel_rfl) (fun _ _ _ h => h) (by rfl) hHeld ?_
                try simp only [Act.put, List.setIfInBounds_toArray, List.set_cons_zero, List.set_cons_succ]
                refine skip_dstH (i := 10) (d := 184) rfl rfl (by kernel_rfl) (by kernel_rfl) (by kernel_rfl) (fun _ _ _ h => h) (by rfl) hHeld ?_
                try simp only [Act.put, List.setIfInBounds_toArray, List.set_cons_zero, List.set_cons_succ]
                refine skip_dstH (i := 11) (d := 185) rfl rfl (by kernel_rfl) (by kernel_rfl) (by kernel_rfl) (fun _ _ _ h => h) (by rfl) hHeld ?_
                try simp only [Act.put, List.setIfInBounds_toArray, List.set_cons_zero, List.set_cons_succ]
                refine skip_dstH (i := 12) (d := 186) rfl rfl (by kernel_rfl) (by kernel_rfl) (by kernel_rfl) (fun _ _ _ h => h) (by rfl) hHeld ?_
                try simp only [Act.put, List.setIfInBounds_toArray, List.set_cons_zero, List.set_cons_succ]
                refine skip_dstH (i := 13) (d := 187) rfl rfl (by kernel_rfl) (by kernel_rfl) (by kernel_rfl) (fun _ _ _ h => h) (by rfl) hHeld ?_
                try simp only [Act.put, List.setIfInBounds_toArray, List.set_cons_zero, List.set_cons_succ]
                refine skip_dstH (i := 14) (d := 188) rfl rfl (by kernel_rfl) (by kernel_rfl) (by kernel_rfl) (fun _ _ _ h => h) (by rfl) hHeld ?_
                try simp only [Act.put, List.setIfInBounds_toArray, List.set_cons_zero, List.set_cons_succ]
                refine skip_dstH (i := 15) (d := 189) rfl rfl (by kernel_rfl) (by kernel_rfl) (by kernel_rfl) (fun _ _ _ h => h) (by rfl) hHeld ?_
                try simp only [Act.put, List.setIfInBounds_toArray, List.set_cons_zero, List.set_cons_succ]
                refine skip_dstH (i := 16) (d := 190) rfl rfl (by kernel_rfl) (by kernel_rfl) (by kernel_rfl) (fun _ _ _ h => h) (by rfl) hHeld ?_
                try simp only [Act.put, List.setIfInBounds_toArray, List.set_cons_zero, List.set_cons_succ]
                refine skip_dstH (i := 17) (d := 191) rfl rfl (by kernel_rfl) (by kernel_rfl) (by kernel_rfl) (fun _ _ _ h => h) (by rfl) hHeld ?_
                try simp only [Act.put, List.setIfInBounds_toArray, List.set_cons_zero, List.set_cons_succ]
                refine skip_dstH (i := 18) (d := 192) rfl rfl (by kernel_rfl) (by kernel_rfl) (by kernel_rfl) (fun _ _ _ h => h) (by rfl) hHeld ?_
                try simp only [Act.put, List.setIfInBounds_toArray, List.set_cons_zero, List.set_cons_succ]
                refine skip_dstH (i := 19) (d := 193) rfl rfl (by kernel_rfl) (by kernel_rfl) (by kernel_rfl) (fun _ _ _ h => h) (by rfl) hHeld ?_
                try simp only [Act.put, List.setIfInBounds_toArray, List.set_cons_zero, List.set_cons_succ]
                refine skip_dstH (i := 20) (d := 194) rfl rfl (by kernel_rfl) (by kernel_rfl) (by kernel_rfl) (fun _ _ _ h => h) (by rfl) hHeld ?_
                try simp only [Act.put, List.setIfInBounds_toArray, List.set_cons_zero, List.set_cons_succ]
                refine take_dstH (i := 21) (d := 195) (v := ?_) rfl rfl (by kernel_rfl) (by kernel_rfl) (by kernel_rfl) (fun _ _ _ h => h) (by rfl) hHeld ?_ ?_
                rotate_left
                · intro wZ hSw; clear hSw; go_simp; first | (with_reducible rfl) | (rw [if_pos (by omega)]; with_reducible rfl) | skip
                try simp only [Act.put, List.setIfInBounds_toArray, List.set_cons_zero, List.set_cons_succ]
                refine wpAnyH_done (by kernel_rfl) ?_ _
                all_goals
                  have HPR := hHeld
                  clear hHeld HS0
                  have HXL : Hid (xs.length ≤ j + 1) := Nat.le_succ_of_le hxl
                  have HYL : Hid (ys.length ≤ j + 1) := Nat.le_succ_of_le hyl
                  go_wp2_with fail
                  refine (stands_ok _ k _ _ _ _ HPR.out.l HPR.out.r).mono ?_
                  rintro r w7 ⟨rfl, hb⟩
                  have HP7 := hide (HPR.out.kept hb)
                  clear hb HPR
                  go_wp2_with fail
                  go_roundg (n - j)
                  case measure => exact hf
                  case rel => exact ⟨j + 1, _, _, _, rfl, by rw [hwj], hjn, Nat.sub_lt_sub_left hjn (Nat.lt_succ_self j), HXL.out, HYL.out, ⟨_, _, _, HP7.out⟩⟩
          by_cases k4 : kd = 4
          · subst k4
            as_aux_lemma =>
              by_cases hl : 0 < ys.length
              · have hl60 : ys.length ≤ 1000 := by have := H60.out; omega
                obtain ⟨ri, ⟨rq, rc, rP⟩, rgb, rcap, hrl, hra, hri, hrv, hre, hrm, hrn⟩ := HP5.out.heard.pick o.a hl hl60
                subst hrv
                have hok := HP5.out.heard.ps _ hrl
                obtain ⟨rn, hPn⟩ : ∃ rn, rP.length = rn := ⟨_, rfl⟩
                have CE : Hid (∀ v, Hid ((∃ L' s' t', PlS W v g k code mark d L' s' t' u14 (.slice (some ⟨rgb, 0, none⟩) ys.length rcap) xs ys) ∧ Arr v gx 44 o.C) → v.cell? ⟨rgb, ri, none⟩ = some (.slice rq rn rc)) := fun v h => by
                  obtain ⟨_, _, _, hp⟩ := h.out.1
                  have h3 := hp.heard.at hra
                  rw [← hPn]
                  exact h3
                have KB : Hid (∀ v, Hid ((∃ L' s' t', PlS W v g k code mark d L' s' t' u14 (.slice (some ⟨rgb, 0, none⟩) ys.length rcap) xs ys) ∧ Arr v gx 44 o.C) → Arr v W.heap.size 25 (kCells code mark)) := fun v h => by
                  obtain ⟨_, _, _, hp⟩ := h.out.1
                  exact hp.kb
                have OPA : Hid (∀ v, Hid ((∃ L' s' t', PlS W v g k code mark d L' s' t' u14 (.slice (some ⟨rgb, 0, none⟩) ys.length rcap) xs ys) ∧ Arr v gx 44 o.C) → Arr v gx 44 o.C) := fun v h => h.out.2
                have CA : Hid (∀ v, Hid ((∃ L' s' t', PlS W v g k code mark d L' s' t' u14 (.slice (some ⟨rgb, 0, none⟩) ys.length rcap) xs ys) ∧ Arr v gx 44 o.C) → v.cell? ⟨gx, 1, none⟩ = some (.int .i64 o.a)) := fun v h => h.out.2.cell 1
                have GXN : Hid (gx ≠ g ∧ gx ≠ k) := ⟨arr_ne HX.out HP5.out.l.a (by decide), arr_ne HX.out HP5.out.r.a (by decide)⟩
                have HCL : Hid (∀ v, Hid ((∃ L' s' t', PlS W v g k code mark d L' s' t' u14 (.slice (some ⟨rgb, 0, none⟩) ys.length rcap) xs ys) ∧ Arr v gx 44 o.C) → Calls Tryd.prog 11 #[.pointer (some ⟨g, 0, none⟩), .pointer (some ⟨k, 0, none⟩), keyV code mark, .agg o.C.toArray, .slice rq rn rc] v fun e w' => e = .returned (.bool true) ∧ Hid ((∃ L' s' t', PlS W w' g k code mark d L' s' t' u14 (.slice (some ⟨rgb, 0, none⟩) ys.length rcap) xs ys) ∧ Arr w' gx 44 o.C)) := fun v h => by
                  obtain ⟨⟨L', s', t', hp⟩, ha⟩ := h.out
                  refine (hp.hear_own H2.out (HLB.out _ hp.be) o rq rc rn rP (hp.heard.ps _ hrl) hPn).mono ?_
                  rintro e w' ⟨e1, L2, s2, t2, h2, _, h4⟩
                  exact ⟨e1, ⟨⟨L2, s2, t2, h2⟩, h4 gx _ _ ha GXN.out.1 GXN.out.2⟩⟩
                have HS0 : Hid ((∃ L' s' t', PlS W w5 g k code mark d L' s' t' u14 (.slice (some ⟨rgb, 0, none⟩) ys.length rcap) xs ys) ∧ Arr w5 gx 44 o.C) := ⟨⟨_, _, _, HP5.out⟩, HX.out⟩
                have hgt : decide (0 < ys.length) = true := by simpa using hl
                have hl0 : ¬ ys.length = 0 := by omega
                have hri2 : (ri : Int) < (ys.length : Int) := by omega
                clear hok hPn hrl hra HP5 HX hl hl60
                go_upto_region 44 with fail
                clear x6 d3 x0
                refine wp_region_held_drew (S := fun v => Hid ((∃ L' s' t', PlS W v g k code mark d L' s' t' u14 (.slice (some ⟨rgb, 0, none⟩) ys.length rcap) xs ys) ∧ Arr v gx 44 o.C)) (by kernel_rfl) (HS0.out.1.elim fun L0 h => h.elim fun s0 h => h.elim fun t0 h => hide ⟨⟨L0, s0, t0, h.kept (Below.refl _ _).drew⟩, HS0.out.2.kept (Below.refl _ _).drew⟩) (fun hHeld => ?_)
                refine take_dstH (i := 0) (d := 198) (v := ?_) rfl rfl (by kernel_rfl) (by kernel_rfl) (by kernel_rfl) (fun _ _ _ h => h) (by rfl) hHeld ?_ ?_
                rotate_left
                · intro wZ hSw; clear hSw; go_simp; first | (with_reducible rfl) | (rw [if_pos (by omega)]; with_reducible rfl) | skip
                try simp only [Act.put, List.setIfInBounds_toArray, List.set_cons_zero, List.set_cons_succ]
                refine take_dstH (i := 1) (d := 199) (v := ?_) rfl rfl (by kernel_rfl) (by kernel_rfl) (by kernel_rfl) (fun _ _ _ h => h) (by rfl) hHeld ?_ ?_
                rotate_left
                · intro wZ hSw; clear hSw; go_simp; first | (with_reducible rfl) | (rw [if_pos (by omega)]; with_reducible rfl) | skip
                try simp only [Act.put, List.setIfInBounds_toArray, List.set_cons_zero, List.set_cons_succ]
                refine take_dstH (i := 2) (d := 200) (v := ?_) rfl rfl (by kernel_rfl) (by kernel_rfl) (by kernel_rfl) (fun _ _ _ h => h) (by rfl) hHeld ?_ ?_
                rotate_left
                · intro wZ hSw; clear hSw; go_simp; first | (with_reducible rfl) | (rw [if_pos (by omega)]; with_reducible rfl) | skip
                try simp only [Act.put, List.setIfInBounds_toArray, List.set_cons_zero, List.set_cons_succ]
                refine take_dstH (i := 3) (d := 201) (v := ?_) rfl rfl (by kernel_rfl) (by kernel_rfl) (by kernel_rfl) (fun _ _ _ h => h) (by rfl) hHeld ?_ ?_
                rotate_left
                · intro wZ hSw; clear hSw; go_simp; first | (with_reducible rfl) | (rw [if_pos (by omega)]; with_reducible rfl) | skip
                try simp only [Act.put, List.setIfInBounds_toArray, List.set_cons_zero, List.set_cons_succ]
                refine take_dstH (i := 4) (d := 202) (v := ?_) rfl rfl (by kernel_rfl) (by kernel_rfl) (by kernel_rfl) (fun _ _ _ h => h) (by rfl) hHeld ?_ ?_
                rotate_left
                · intro wZ hSw; clear hSw; go_simp; first | (with_reducible rfl) | (rw [if_pos (by omega)]; with_reducible rfl) | skip
                try simp only [Act.put, List.setIfInBounds_toArray, List.set_cons_zero, List.set_cons_succ]
                refine take_dstH (i := 5) (d := 203) (v := ?_) rfl rfl (by kernel_rfl) (by kernel_rfl) (by kernel_rfl) (fun _ _ _ h => h) (by rfl) hHeld ?_ ?_
                rotate_left
                · intro wZ hSw; clear hSw; go_simp; first | (with_reducible rfl) | (rw [if_pos (by omega)]; with_reducible rfl) | skip
                try simp only [Act.put, List.setIfInBounds_toArray, List.set_cons_zero, List.set_cons_succ]
                refine take_dstH (i := 6) (d := 204) (v := ?_) rfl rfl (by kernel_rfl) (by kernel_rfl) (by kernel_rfl) (fun _ _ _ h => h) (by rfl) hHeld ?_ ?_
                rotate_left
                · intro wZ hSw; refine exec_load_all 25 (.tmp 5) ?_ W.heap.size ?_ 25 (kCells code mark) _ (KB.out _ hSw) Tryd.underlying25 rfl IK2.out <;> rfl
                try simp only [Act.put, List.setIfInBounds_toArray, List.set_cons_zero, List.set_cons_succ]
                refine take_dstH (i := 7) (d := 205) (v := ?_) rfl rfl (by kernel_rfl) (by kernel_rfl) (by kernel_rfl) (fun _ _ _ h => h) (by rfl) hHeld ?_ ?_
                rotate_left
                · intro wZ hSw; refine exec_load_all 44 (.tmp 17) ?_ gx ?_ 44 o.C _ (OPA.out _ hSw) Tryd.underlying44 rfl infoOp <;> rfl
                try simp only [Act.put, List.setIfInBounds_toArray, List.set_cons_zero, List.set_cons_succ]
                refine take_dstH (i := 8) (d := 206) (v := ?_) rfl rfl (by kernel_rfl) (by kernel_rfl) (by kernel_rfl) (fun _ _ _ h => h) (by rfl) hHeld ?_ ?_
                rotate_left
                · intro wZ hSw; clear hSw; go_simp; first | (with_reducible rfl) | (rw [if_pos (by omega)]; with_reducible rfl) | skip
                try simp only [Act.put, List.setIfInBounds_toArray, List.set_cons_zero, List.set_cons_succ]
                refine take_dstH (i := 9) (d := 207) (v := ?_) rfl rfl (by kernel_rfl) (by kernel_rfl) (by kernel_rfl) (fun _ _ _ h => h) (by rfl) hHeld ?_ ?_
                rotate_left
                · intro wZ hSw; clear hSw; go_simp; first | (with_reducible rfl) | (rw [if_pos (by omega)]; with_reducible rfl) | skip
                try simp only [Act.put, List.setIfInBounds_toArray, List.set_cons_zero, List.set_cons_succ]
                refine take_dstH (i := 10) (d := 208) (v := ?_) rfl rfl (by kernel_rfl) (by kernel_rfl) (by kernel_rfl) (fun _ _ _ h => h) (by rfl) hHeld ?_ ?_
                rotate_left
                · intro wZ hSw; have hfS := CA.out wZ hSw; clear hSw; go_simp; first | (with_reducible rfl) | (rw [if_pos (by omega)]; with_reducible rfl) | skip
                try simp only [Act.put, List.setIfInBounds_toArray, List.set_cons_zero, List.set_cons_succ]
                refine take_dstH (i := 11) (d := 209) (v := ?_) rfl rfl (by kernel_rfl) (by kernel_rfl) (by kernel_rfl) (fun _ _ _ h => h) (by rfl) hHeld ?_ ?_
                rotate_left
                · intro wZ hSw; clear hSw; go_simp; first | (with_reducible rfl) | (rw [if_pos (by omega)]; with_reducible rfl) | skip
                try simp only [Act.put, List.setIfInBounds_toArray, List.set_cons_zero, List.set_cons_succ]
                refine take_dstH (i := 12) (d := 210) (v := ?_) rfl rfl (by kernel_rfl) (by kernel_rfl) (by kernel_rfl) (fun _ _ _ h => h) (by rfl) hHeld ?_ ?_
                rotate_left
                · intro wZ hSw; clear hSw; go_simp; first | (with_reducible rfl) | (rw [if_pos (by omega)]; with_reducible rfl) | skip
                try simp only [Act.put, List.setIfInBounds_toArray, List.set_cons_zero, List.set_cons_succ]
                refine take_dstH (i := 13) (d := 211) (v := ?_) rfl rfl (by kernel_rfl) (by kernel_rfl) (by kernel_rfl) (fun _ _ _ h => h) (by rfl) hHeld ?_ ?_
                rotate_left
                · intro wZ hSw; clear hSw; go_simp; first | (with_reducible rfl) | (rw [if_pos (by omega)]; with_reducible rfl) | skip
                try simp only [Act.put, List.setIfInBounds_toArray, List.set_cons_zero, List.set_cons_succ]
                refine take_dstH (i := 14) (d := 212) (v := ?_) rfl rfl (by kernel_rfl) (by kernel_rfl) (by kernel_rfl) (fun _ _ _ h => h) (by rfl) hHeld ?_ ?_
                rotate_left
                · intro wZ hSw; clear hSw; go_simp; first | (with_reducible rfl) | (rw [if_pos (by omega)]; with_reducible rfl) | skip
                try simp only [Act.put, List.setIfInBounds_toArray, List.set_cons_zero, List.set_cons_succ]
                refine take_dstH (i := 15) (d := 213) (v := ?_) rfl rfl (by kernel_rfl) (by kernel_rfl) (by kernel_rfl) (fun _ _ _ h => h) (by rfl) hHeld ?_ ?_
                rotate_left
                · intro wZ hSw; clear hSw; go_simp; first | (with_reducible rfl) | (rw [if_pos (by omega)]; with_reducible rfl) | skip
                try simp only [Act.put, List.setIfInBounds_toArray, List.set_cons_zero, List.set_cons_succ]
                refine take_dstH (i := 16) (d := 214) (v := ?_) rfl rfl (by kernel_rfl) (by kernel_rfl) (by kernel_rfl) (fun _ _ _ h => h) (by rfl) hHeld ?_ ?_
                rotate_left
                · intro wZ hSw; clear hSw; go_simp; first | (with_reducible rfl) | (rw [if_pos (by omega)]; with_reducible rfl) | skip
                try simp only [Act.put, List.setIfInBounds_toArray, List.set_cons_zero, List.set_cons_succ]
                refine take_dstH (i := 17) (d := 215) (v := ?_) rfl rfl (by kernel_rfl) (by kernel_rfl) (by kernel_rfl) (fun _ _ _ h => h) (by rfl) hHeld ?_ ?_
                rotate_left
                · intro wZ hSw; clear hSw; go_simp; first | (with_reducible rfl) | (rw [if_pos (by omega)]; with_reducible rfl) | skip
                try simp only [Act.put, List.setIfInBounds_toArray, List.set_cons_zero, List.set_cons_succ]
                refine take_dstH (i := 18) (d := 216) (v := ?_) rfl rfl (by kernel_rfl) (by kernel_rfl) (by kernel_rfl) (fun _ _ _ h => h) (by rfl) hHeld ?_ ?_
                rotate_left
                · intro wZ hSw; have hfS := CE.out wZ hSw; clear hSw; go_simp; first | (with_reducible rfl) | (rw [if_pos (by omega)]; with_reducible rfl) | skip
                try simp only [Act.put, List.setIfInBounds_toArray, List.set_cons_zero, List.set_cons_succ]
                refine wpAnyH_ready (rs := [19]) (by kernel_rfl) (by simp) ?_
                refine (AllReadyH.cons rfl (fun K hK => ?_) AllReadyH.nil)
                go_simp
                refine Calls.mono (HCL.out _ hHeld) ?_; rintro e wa ⟨rfl, HK⟩
                go_wp2_with fail
                refine hK.out _ _ ?_ (fun hHeld => ?_)
                · exact HK
                clear hK K
                try simp only [Act.put, List.setIfInBounds_toArray, List.set_cons_zero, List.set_cons_succ]
                refine take_dstH (i := 20) (d := 218) (v := ?_) rfl rfl (by kernel_rfl) (by kernel_rfl) (by kernel_rfl) (fun _ _ _ h => h) (by rfl) hHeld ?_ ?_
                rotate_left
                · intro wZ hSw; clear hSw; go_simp; first | (with_reducible rfl) | (rw [if_pos (by omega)]; with_reducible rfl) | skip
                try simp only [Act.put, List.setIfInBounds_toArray, List.set_cons_zero, List.set_cons_succ]
                refine take_dstH (i := 21) (d := 219) (v := ?_) rfl rfl (by kernel_rfl) (by kernel_rfl) (by kernel_rfl) (fun _ _ _ h => h) (by rfl) hHeld ?_ ?_
                rotate_left
                · intro wZ hSw; clear hSw; go_simp; first | (with_reducible rfl) | (rw [if_pos (by omega)]; with_reducible rfl) | skip
                try simp only [Act.put, List.setIfInBounds_toArray, List.set_cons_zero, List.set_cons_succ]
                refine wpAnyH_done (by kernel_rfl) ?_ _
                all_goals
                  obtain ⟨⟨L8, s8, t8, hp8⟩, _⟩ := hHeld.out
                  have HPR := hide hp8
                  clear hp8 CE KB OPA CA GXN HCL HS0 hgt hl0 hri2 hri hre hrm hrn
                  have HXL : Hid (xs.length ≤ j + 1) := Nat.le_succ_of_le hxl
                  have HYL : Hid (ys.length ≤ j + 1) := Nat.le_succ_of_le hyl
                  go_wp2_with fail
                  refine (stands_ok _ k _ _ _ _ HPR.out.l HPR.out.r).mono ?_
                  rintro r w7 ⟨rfl, hb⟩
                  have HP7 := hide (HPR.out.kept hb)
                  clear hb HPR
                  go_wp2_with fail
                  go_roundg (n - j)
                  case measure => exact hf
                  case rel => exact ⟨j + 1, _, _, _, rfl, by rw [hwj], hjn, Nat.sub_lt_sub_left hjn (Nat.lt_succ_self j), HXL.out, HYL.out, ⟨_, _, _, HP7.out⟩⟩
              · obtain ⟨rp, rn, rcap, hrv, hrn⟩ := HP5.out.heard.shape
                have hz : rn = 0 := by omega
                subst hz
                subst hrv
                have HS0 : Hid (PlS W w5 g k code mark d L s t u14 (.slice rp 0 rcap) xs ys) := HP5.out
                clear hrn hl
                go_upto_region 44 with fail
                clear x6 d3 x0 HP5 HX
                refine wp_region_held_drew (S := fun v => Hid (PlS W v g k code mark d L s t u14 (.slice rp 0 rcap) xs ys)) (by kernel_rfl) (hide (HS0.out.kept (Below.refl _ _).drew)) (fun hHeld => ?_)
                refine take_dstH (i := 0) (d := 198) (v := ?_) rfl rfl (by kernel_rfl) (by kernel_rfl) (by kernel_rfl) (fun _ _ _ h => h) (by rfl) hHeld ?_ ?_
                rotate_left
                · intro wZ hSw; clear hSw; go_simp; first | (with_reducible rfl) | (rw [if_pos (by omega)]; with_reducible rfl) | skip
                try simp only [Act.put, List.setIfInBounds_toArray, List.set_cons_zero, List.set_cons_succ]
                refine take_dstH (i := 1) (d := 199) (v := ?_) rfl rfl (by kernel_rfl) (by kernel_rfl) (by kernel_rfl) (fun _ _ _ h => h) (by rfl) hHeld ?_ ?_
                rotate_left
                · intro wZ hSw; clear hSw; go_simp; first | (with_reducible rfl) | (rw [if_pos (by omega)]; with_reducible rfl) | skip
                try simp only [Act.put, List.setIfInBounds_toArray, List.set_cons_zero, List.set_cons_succ]
                refine take_dstH (i := 2) (d := 200) (v := ?_) rfl rfl (by kernel_rfl) (by kernel_rfl) (by kernel_rfl) (fun _ _ _ h => h) (by rfl) hHeld ?_ ?_
                rotate_left
                · intro wZ hSw; clear hSw; go_simp; first | (with_reducible rfl) | (rw [if_pos (by omega)]; with_reducible rfl) | skip
                try simp only [Act.put, List.setIfInBounds_toArray, List.set_cons_zero, List.set_cons_succ]
                refine take_dstH (i := 3) (d := 201) (v := ?_) rfl rfl (by kernel_rfl) (by kernel_rfl) (by kernel_rfl) (fun _ _ _ h => h) (by rfl) hHeld ?_ ?_
                rotate_left
                · intro wZ hSw; clear hSw; go_simp; first | (with_reducible rfl) | (rw [if_pos (by omega)]; with_reducible rfl) | skip
                try simp only [Act.put, List.setIfInBounds_toArray, List.set_cons_zero, List.set_cons_succ]
                refine skip_dstH (i := 4) (d := 202) rfl rfl (by kernel_rfl) (by kernel_rfl) (by kernel_rfl) (fun _ _ _ h => h) (by rfl) hHeld ?_
                try simp only [Act.put, List.setIfInBounds_toArray, List.set_cons_zero, List.set_cons_succ]
                refine skip_dstH (i := 5) (d := 203) rfl rfl (by kernel_rfl) (by kernel_rfl) (by kernel_rfl) (fun _ _ _ h => h) (by rfl) hHeld ?_
                try simp only [Act.put, List.setIfInBounds_toArray, List.set_cons_zero, List.set_cons_succ]
                refine skip_dstH (i := 6) (d := 204) rfl rfl (by kernel_rfl) (by kernel_rfl) (by kernel_rfl) (fun _ _ _ h => h) (by rfl) hHeld ?_
                try simp only [Act.put, List.setIfInBounds_toArray, List.set_cons_zero, List.set_cons_succ]
                refine skip_dstH (i := 7) (d := 205) rfl rfl (by kernel_rfl) (by kernel_rfl) (by kernel_rfl) (fun _ _ _ h => h) (by rfl) hHeld ?_
                try simp only [Act.put, List.setIfInBounds_toArray, List.set_cons_zero, List.set_cons_succ]
                refine skip_dstH (i := 8) (d := 206) rfl rfl (by kernel_rfl) (by kernel_rfl) (by kernel_rfl) (fun _ _ _ h => h) (by rfl) hHeld ?_
                try simp only [Act.put, List.setIfInBounds_toArray, List.set_cons_zero, List.set_cons_succ]
                refine skip_dstH (i := 9) (d := 207) rfl rfl (by kernel_rfl) (by kernel_rfl) (by kernel_rfl) (fun _ _ _ h => h) (by rfl) hHeld ?_
                try simp only [Act.put, List.setIfInBounds_toArray, List.set_cons_zero, List.set_cons_succ]
                refine skip_dstH (i := 10) (d := 208) rfl rfl (by kernel_rfl) (by kernel_rfl) (by kernel_rfl) (fun _ _ _ h => h) (by rfl) hHeld ?_
                try simp only [Act.put, List.setIfInBounds_toArray, List.set_cons_zero, List.set_cons_succ]
                refine skip_dstH (i := 11) (d := 209) rfl rfl (by kernel_rfl) (by kernel_rfl) (by kernel_rfl) (fun _ _ _ h => h) (by rfl) hHeld ?_
                try simp only [Act.put, List.setIfInBounds_toArray, List.set_cons_zero, List.set_cons_succ]
                refine skip_dstH (i := 12) (d := 210) rfl rfl (by kernel_rfl) (by kernel_rfl) (by kernel_rfl) (fun _ _ _ h => h) (by rfl) hHeld ?_
                try simp only [Act.put, List.setIfInBounds_toArray, List.set_cons_zero, List.set_cons_succ]
                refine skip_dstH (i := 13) (d := 211) rfl rfl (by kernel_rfl) (by kernel_rfl) (by kernel_rfl) (fun _ _ _ h => h) (by rfl) hHeld ?_
                try simp only [Act.put, List.setIfInBounds_toArray, List.set_cons_zero, List.set_cons_succ]
                refine skip_dstH (i := 14) (d := 212) rfl rfl (by kernel_rfl) (by kernel_rfl) (by kernel_rfl) (fun _ _ _ h => h) (by rfl) hHeld ?_
                try simp only [Act.put, List.setIfInBounds_toArray, List.set_cons_zero, List.set_cons_succ]
                refine skip_dstH (i := 15) (d := 213) rfl rfl (by kernel_rfl) (by kernel_rfl) (by kernel_rfl) (fun _ _ _ h => h) (by rfl) hHeld ?_
                try simp only [Act.put, List.setIfInBounds_toArray, List.set_cons_zero, List.set_cons_succ]
                refine skip_dstH (i := 16) (d := 214) rfl rfl (by kernel_rfl) (by kernel_rfl) (by kernel_rfl) (fun _ _ _ h => h) (by rfl) hHeld ?_
                try simp only [Act.put, List.setIfInBounds_toArray, List.set_cons_zero, List.set_cons_succ]
                refine skip_dstH (i := 17) (d := 215) rfl rfl (by kernel_rfl) (by kernel_rfl) (by kernel_rfl) (fun _ _ _ h => h) (by rfl) hHeld ?_
                try simp only [Act.put, List.setIfInBounds_toArray, List.set_cons_zero, List.set_cons_succ]
                refine skip_dstH (i := 18) (d := 216) rfl rfl (by kernel_rfl) (by kernel_rfl) (by kernel_rfl) (fun _ _ _ h => h) (by rfl) hHeld ?_
                try simp only [Act.put, List.setIfInBounds_toArray, List.set_cons_zero, List.set_cons_succ]
                refine skip_dstH (i := 19) (d := 217) rfl rfl (by kernel_rfl) (by kernel_rfl) (by kernel_rfl) (fun _ _ _ h => h) (by rfl) hHeld ?_
                try simp only [Act.put, List.setIfInBounds_toArray, List.set_cons_zero, List.set_cons_succ]
                refine skip_dstH (i := 20) (d := 218) rfl rfl (by kernel_rfl) (by kernel_rfl) (by kernel_rfl) (fun _ _ _ h => h) (by rfl) hHeld ?_
                try simp only [Act.put, List.setIfInBounds_toArray, List.set_cons_zero, List.set_cons_succ]
                refine take_dstH (i := 21) (d := 219) (v := ?_) rfl rfl (by kernel_rfl) (by kernel_rfl) (by kernel_rfl) (fun _ _ _ h => h) (by rfl) hHeld ?_ ?_
                rotate_left
                · intro wZ hSw; clear hSw; go_simp; first | (with_reducible rfl) | (rw [if_pos (by omega)]; with_reducible rfl) | skip
                try simp only [Act.put, List.setIfInBounds_toArray, List.set_cons_zero, List.set_cons_succ]
                refine wpAnyH_done (by kernel_rfl) ?_ _
                all_goals
                  have HPR := hHeld
                  clear hHeld HS0
                  have HXL : Hid (xs.length ≤ j + 1) := Nat.le_succ_of_le hxl
                  have HYL : Hid (ys.length ≤ j + 1) := Nat.le_succ_of_le hyl
                  go_wp2_with fail
                  refine (stands_ok _ k _ _ _ _ HPR.out.l HPR.out.r).mono ?_
                  rintro r w7 ⟨rfl, hb⟩
                  have HP7 := hide (HPR.out.kept hb)
                  clear hb HPR
                  go_wp2_with fail
                  go_roundg (n - j)
                  case measure => exact hf
                  case rel => exact ⟨j + 1, _, _, _, rfl, by rw [hwj], hjn, Nat.sub_lt_sub_left hjn (Nat.lt_succ_self j), HXL.out, HYL.out, ⟨_, _, _, HP7.out⟩⟩
          by_cases k5 : kd = 5
          · subst k5
            as_aux_lemma =>
              have kc := fun (w : World) (C : Array Value) (n c : Nat) => Lib.run_convert_bytes_const (P := Tryd.prog) w 42 5 C n c Tryd.underlying42 Tryd.underlying5
              go_wp2_with fail
              refine (copy_at w5 g L HP5.out.l).mono ?_
              rintro r w6 ⟨gk, rfl, hgk, hk6, hb6⟩
              have HB6 := hide hb6
              have HK6 := hide hk6
              have HGK := hide hgk
              have HL6 := hide (HP5.out.l.kept hb6)
              clear hb6 hk6 hgk
              go_wp2_with fail
              refine (send_let g L none 0 0 [] 1 w6 HL6.out ⟨Or.inl rfl, fun _ => rfl, (fun y hy => by cases hy), Nat.le_refl _, by decide⟩ rfl (HLB.out _ (HP5.out.kept HB6.out).be) (Nat.le_trans H2.out HP5.out.bg)).mono ?_
              rintro r w7 ⟨v7, E7, L7, rfl, hg7, hl7⟩
              have HG7 := hide hg7
              have HL7 := hide hl7
              have HLA7 := hide ((HLB.out _ (HP5.out.kept HB6.out).be).grown hg7 (Nat.le_trans H2.out HP5.out.bg))
              clear hg7 hl7 HL6
              have HOP := hide (other_piece w7)
              go_wp2_with fail
              refine (send_let g L7 _ _ 5 _ 2 _ (HL7.out.kept HOP.out.2) HOP.out.1 rfl (HLA7.out.kept HOP.out.2) (Nat.le_trans H2.out HP5.out.bg)).mono ?_
              rintro r w8 ⟨v8, E8, L8, rfl, hg8, _⟩
              have HPR := hide (HP5.out.copy HB6.out HK6.out HGK.out (grown_trans (grown_trans HG7.out (below_grown HOP.out.2 _)) hg8))
              clear hg8 HB6 HK6 HGK HL7 HLA7 HG7 HOP HP5 HX kc
              have HXL : Hid (xs.length ≤ j + 1) := Nat.le_succ_of_le hxl
              have HYL : Hid (ys.length ≤ j + 1) := Nat.le_succ_of_le hyl
              go_wp2_with fail
              refine (stands_ok _ k _ _ _ _ HPR.out.l HPR.out.r).mono ?_
              rintro r w7 ⟨rfl, hb⟩
              have HP7 := hide (HPR.out.kept hb)
              clear hb HPR
              go_wp2_with fail
              go_roundg (n - j)
              case measure => exact hf
              case rel => exact ⟨j + 1, _, _, _, rfl, by rw [hwj], hjn, Nat.sub_lt_sub_left hjn (Nat.lt_succ_self j), HXL.out, HYL.out, ⟨_, _, _, HP7.out⟩⟩
          have e0 : (kd == 0) = false := by simpa using k0
          have e1 : (kd == 1) = false := by simpa using k1
          have e2 : (kd == 2) = false := by simpa using k2
          have e3 : (kd == 3) = false := by simpa using k3
          have e4 : (kd == 4) = false := by simpa using k4
          have e5 : (kd == 5) = false := by simpa using k5
          have HPR := HP5
          clear HP5 HX k0 k1 k2 k3 k4 k5
          have HXL : Hid (xs.length ≤ j + 1) := Nat.le_succ_of_le hxl
          have HYL : Hid (ys.length ≤ j + 1) := Nat.le_succ_of_le hyl
          go_wp2_with fail
          refine (stands_ok _ k _ _ _ _ HPR.out.l HPR.out.r).mono ?_
          rintro r w7 ⟨rfl, hb⟩
          have HP7 := hide (HPR.out.kept hb)
          clear hb HPR
          go_wp2_with fail
          go_roundg (n - j)
          case measure => exact hf
          case rel => exact ⟨j + 1, _, _, _, rfl, by rw [hwj], hjn, Nat.sub_lt_sub_left hjn (Nat.lt_succ_self j), HXL.out, HYL.out, ⟨_, _, _, HP7.out⟩⟩
      · have hjd : ¬ ((j : Int) < (n : Int)) := by omega
        obtain ⟨L, s, t, hp⟩ := HP.out
        have HB := hide hp.be
        clear hp HP
        go_wp2
        go_ret
        exact ⟨rfl, HB.out⟩

theorem walk (code mark : List Nat) (d : Bool) (b : Int) (ad : Int) (sp : Option Addr) (sc : Nat) (zs : List Ob) (W : World) (hk : IsKey code mark) (hb : (Lit.int .u64 b).wf = true) (_hw : (Lit.int .i64 ad).wf = true) (hx : RowIn Ob.C 7 W sp zs ∧ ∀ o ∈ zs, ObIn W o) (hL : Laid W) :
    Calls Tryd.prog 3 #[keyV code mark, .bool d, .int .u64 b, .int .i64 ad, .slice sp zs.length sc] W fun r w' => r = .returned (.bool true) ∧ Below W.heap.size W w' := by
  obtain ⟨N, rfl, hN⟩ := wf_u64 hb
  have hL2 := hL.size
  have hLB : ∀ v, Below W.heap.size W v → Laid v := fun v hb => hL.keptB (B := W.heap.size) hL2 hb
  have hK := fun v hb => lknown_any v (hLB v hb)
  by_cases h : N ≤ 9223372036854775808 ∧ IsAddr ad
  · exact walk_in code mark d N ad sp zs.length sc zs W hk h.1 h.2 rfl hx.1 hx.2 hL2 hLB hK
  · exact walk_bad code mark d N ad sp zs.length sc W hk h hK

set_option maxRecDepth 100000 in
theorem lifted (os : Os) (started : os.Started) (H : Type) (enc : TypeId × Value → H) :
    ReturnsInHanded {} Tryd.checked os 3 .any (fun w args => (Rows.linkPlaysSpec.pre enc Tryd.prog Tryd.f3 [] false w args ∧ laidMetH Tryd.prog laid2 w) ∧ sizedMet enc Tryd.prog Tryd.f3 (OpenSpec.ofChange Rows.linkPlaysSpec) false w args)
      (Rows.linkPlaysSpec.post enc Tryd.prog Tryd.f3 false true false false) := by
  refine returnsInHanded_of_change_and (C := Tryd.checked) (X := fun w _ => laidMetH Tryd.prog laid2 w) (fun _ _ _ hh h => h.of_heap hh) own started (by kernel_rfl) Tryd.func3
    (ChangeSpec.witness_shaped (enc := enc) (C := Tryd.checked) (os := os) (X := fun w _ => laidMetH Tryd.prog laid2 w) false (World.doorLaid Tryd.prog 400 os) #[.agg zeroK.toArray, .bool false, .int .u64 0, .int .i64 0, .slice none 0 0] 8 rfl (World.shaped_of_RefB (by kernel_rfl) (by kernel_rfl)) (by kernel_rfl) (by kernel_rfl) (by kernel_rfl) (door_met os _)) ?_
  intro W base args ds gs before hval0 hW _ hsz hL _
  have hval : ∀ (j : Nat) t v, Tryd.f3.params[j]? = some t → args[j]? = some v → Value.okWide Tryd.prog W .any base t v := hval0
  have hW' := hW
  obtain ⟨p, q, hA0, hV, rfl, hfz, hnd⟩ := hW
  have hA : DataW.TrodAll enc Tryd.prog W 0 (fun _ => true) true Tryd.f3.params.toList args.toList ds p := hA0
  rw [Tryd.params3] at hA hval
  obtain ⟨v0, vs0, d0, ds0, p0, q0, hargs, rfl, rfl, h0, r0⟩ := trodAll_cons hA
  obtain ⟨v1, vs1, d1, ds1, p1, q1, rfl, rfl, rfl, h1, r1⟩ := trodAll_cons r0
  obtain ⟨v2, vs2, d2, ds2, p2, q2, rfl, rfl, rfl, h2, r2⟩ := trodAll_cons r1
  obtain ⟨v3, vs3, d3, ds3, p3, q3, rfl, rfl, rfl, h3, r3⟩ := trodAll_cons r2
  obtain ⟨v4, vs4, d4, ds4, p4, q4, rfl, rfl, rfl, h4, r4⟩ := trodAll_cons r3
  obtain ⟨rfl, rfl, rfl⟩ := trodAll_nil r4
  obtain rfl : args = #[v0, v1, v2, v3, v4] := by cases args; simp_all
  obtain ⟨rfl, rfl⟩ := trodVars_none hV
  have k0 := h0
  obtain ⟨x0, y0, rfl, w0, z0⟩ := open_key (hval 0 25 v0 rfl rfl) h0
  obtain ⟨a1, rfl, rfl, rfl⟩ := open_bool Tryd.underlying4 (hval 1 4 v1 rfl rfl) h1
  obtain ⟨a2, rfl, rfl, rfl, w2⟩ := open_int Tryd.underlying26 (hval 2 26 v2 rfl rfl) h2
  obtain ⟨a3, rfl, rfl, rfl, w3⟩ := open_int Tryd.underlying3 (hval 3 3 v3 rfl rfl) h3
  obtain ⟨a4, len4, cap4, rfl⟩ := okWide_slice Tryd.underlying27 (hval 4 27 v4 rfl rfl)
  have k4 := h4
  have lt4 : ∀ x ∈ p4, x.block < W.heap.size := by obtain ⟨m, hm⟩ := k4; exact DataW.trod_lt m _ _ _ hm
  obtain ⟨fuel4, hf4⟩ := h4
  obtain ⟨a4', cap4', x4, hcs4, w4⟩ := lops_of hf4
  simp [Value.cells] at hcs4
  obtain ⟨rfl, rfl, rfl⟩ := hcs4
  clear hf4
  clear hA0 hval0
  refine (walk x0 y0 a1 a2 a3 a4 cap4 x4 W w0 w2 w3 w4 (of_laid hL)).mono fun e W' ⟨he, bel⟩ => ?_
  subst he
  exact ⟨_, rfl, _, _, _, [], _, [], hW', trodAll_mk1 (shut_bool Tryd.underlying4 _), (trodAll_cons_mk (Below.trod laidOut (by kernel_rfl) (of_decide_eq_true (by kernel_rfl)) k0 bel (fun x hx => (z0 x hx).elim)) (trodAll_cons_mk (shut_bool Tryd.underlying4 _) (trodAll_cons_mk (shut_int Tryd.underlying26 w2) (trodAll_cons_mk (shut_int Tryd.underlying3 w3) (trodAll_cons_mk (Below.trod laidOut (by kernel_rfl) (of_decide_eq_true (by kernel_rfl)) k4 bel lt4) trodAll_mk0))))), rfl, bel.frame _, fun h => by cases h⟩

theorem row : Rows.LinkPlaysSaid :=
  OpenClaim.holds_of_wide 3 Tryd.f3 rfl rfl rfl rfl rfl rfl rfl ⟨rfl, rfl, rfl, rfl, rfl⟩ rfl rfl rfl rfl rfl (by kernel_rfl) Tryd.func3 (by kernel_rfl)
    (of_decide_eq_true (by kernel_rfl)) (by unfold Func.isWrapper; first | (rw [if_pos (by decide +kernel)]; kernel_rfl) | (rw [if_neg (by decide +kernel)]; exact ⟨rfl, rfl⟩))
    (fun os started H enc _ => lifted os started H enc)

theorem card : Rows.LinkPlaysCardSaid :=
  Claim7.holds_tied_plain_at .later [] [.data, .data] true (true, Rows.linkPlaysCard.stood.harness.2) false
    row (fun _ h => by cases h) (by kernel_rfl) (fun _ h => by cases h) linkPlays_row_tie rfl ⟨rfl, rfl⟩ (by kernel_rfl) rfl
    (fun f fn hf hfn => by
      obtain rfl : f = 3 := Option.some.inj ((show Tryd.prog.funcNamed "oriel/oriellaw09.LinkPlays" = some 3 by kernel_rfl).symm.trans hf) |>.symm
      obtain rfl : fn = Tryd.f3 := (Option.some.inj (Tryd.func3.symm.trans hfn)).symm
      exact ⟨by kernel_rfl, fun j t ht => by
        rw [Tryd.params3] at ht
        have hm : t ∈ [25, 4, 26, 3, 27] := by simpa using Array.mem_of_getElem? ht
        have hall : ([25, 4, 26, 3, 27].all fun u => !Tryd.prog.wantsStandIn u) = true := by kernel_rfl
        exact (show Tryd.prog.wantsStandIn t = false by simpa using List.all_eq_true.1 hall t hm)⟩)
    (by kernel_rfl)

end LinkPlaysProof

/-- Whatever comes and goes, a link sends, tells and refuses what the document says, and stands as it says. -/
theorem linkPlays_holds : Rows.LinkPlaysCardSaid := LinkPlaysProof.card

#print axioms linkPlays_holds
end Go.Proofs.YtbmjlofehbbkbaaDoor
