/-
  A walk: the reference's Derive: the document's key of a member in an epoch.
-/
import Derived.Test.YtfopjobcjafgaabDoorNG
namespace Go.Proofs.YtfopjobcjafgaabDoor
open Go.RowKit

/-- a whole array stored into the middle of a block -/
theorem wpList_store_at {P : Program} {ops : Array Oper} {rest : List Oper} {o : Oper} {a : Act} {w : World} {Q : Exit → Act → World → Prop} (hgd : o.guard = none) (ty : TypeId) (x y : Operand) (ho : o.op = .store ty x y)
    (g off : Nat) (cells : Array Value) (hx : a.eval x = .pointer (some ⟨g, off, none⟩)) (hy : a.eval y = .agg cells)
    (t : TypeId) (cur : Array Value) (hg : w.heap[g]? = some (.cells cur t (0, 0))) (hi : (P.info? ty).map (·.size) = some cells.size)
    (hfit : off + cells.size ≤ cur.size) (h1 : cells.all (·.oneCell') = true)
    (h : wpList P ops Q rest (a.put o.dst undef) (w.setRow g (cur.toList.take off ++ cells.toList ++ cur.toList.drop (off + cells.size)).toArray)) : wpList P ops Q (o :: rest) a w := by
  have hst := run_storeCells_at P g off t cells.toList 0 cur w hg (by simpa using hfit) (fun v hv => (Array.all_eq_true_iff_forall_mem.1 h1) v (by simpa using hv))
  have hrun : (storeVar ty ⟨g, off, none⟩ (.agg cells)).run P w = .ok () (w.setRow g (cur.toList.take off ++ cells.toList ++ cur.toList.drop (off + cells.size)).toArray) := by
    cases hq : P.info? ty with
    | none => simp [hq] at hi
    | some i =>
      have hs : cells.size = i.size := by simp [hq] at hi; omega
      simp [storeVar, sizeOf, typeInfo, hq, Value.cells, hs] at hst ⊢
      exact hst
  refine wpList_plain hgd fun K hK => ?_
  unfold Oper.wp execOp
  simp only [ho, hx, hy, Instr.storeAt, Instr.sureAddr, Sem.run_bind, Sem.run_pure, Result.andThen_ok, hrun]
  exact hK _ _ h

theorem kCells_set {a b : List Nat} (h1 : a.length = 16) (i x : Nat) (hi : i < 16) : (kCells a b).set i (.int .u8 (x : Int)) = kCells (a.set i x) b := by
  unfold kCells
  rw [List.set_append, if_pos (by simp [u8s, h1]; exact hi), u8s_set]

theorem kCells_mark {a b D : List Nat} (h1 : a.length = 16) (h2 : b.length = 32) (hD : D.length = 32) : ((kCells a b).toArray.toList.take 16 ++ (u8s D).toArray.toList ++ (kCells a b).toArray.toList.drop (16 + (u8s D).toArray.size)).toArray = (kCells a D).toArray := by
  show ((kCells a b).take 16 ++ u8s D ++ (kCells a b).drop (16 + (u8s D).length)).toArray = _
  rw [kCells, List.take_left' (by simp [u8s, h1]), List.drop_eq_nil_of_le (by simp [u8s, h1, h2, hD]), List.append_nil, kCells]

set_option maxHeartbeats 8000000 in
set_option maxRecDepth 100000 in
theorem refderive_in (p : Option Addr) (c : Nat) (ms : List Nat) (m e : Nat) (w : World) (hP : Piece w p c ms) (hl : ms.length ≤ 1000) (hm1 : 1 ≤ m) (hm8 : m ≤ 8) (he1 : 1 ≤ e) (heM : e ≤ 1048576) :
    Calls Tryd.prog 12 #[.slice p ms.length c, .int .i64 (m : Int), .int .i64 (e : Int)] w fun r w' => r = .returned (.tuple #[.agg (kCells ((codeF ms m e).take 16) (markF ms m e)).toArray, .int .i64 0]) ∧ Below w.heap.size w w' := by
  have HP := hide hP
  have HN1 := hide (fun v => refnum_form m (by omega) v)
  have HN2 := hide (fun v => refnum_form e (by omega) v)
  have f1 := formF_short m
  have f2 := formF_short e
  have HFP : Hid (1 ≤ (formF m).length) := by show _ ≤ _; rw [formF_length, Num.numF]; simp
  have HO1 := hide (fun (v : World) (hb : Below w.heap.size w v) (q : Option Addr) (d : Nat) (h : Piece v q d (codeT ++ (formF m ++ formF e))) => refof_any p q c d ms (codeT ++ (formF m ++ formF e)) (codeF ms m e) v (hP.kept hb) h (by omega) (by simp [codeT]; omega) (by rw [codeF, List.append_assoc]))
  have HO2 := hide (fun (v : World) (hb : Below w.heap.size w v) (q : Option Addr) (d : Nat) (h : Piece v q d (markT ++ (formF m ++ formF e))) => refof_any p q c d ms (markT ++ (formF m ++ formF e)) (markF ms m e) v (hP.kept hb) h (by omega) (by simp [markT]; omega) (by rw [markF, List.append_assoc]))
  rw [List.length_append, List.length_append, show codeT.length = 4 from rfl] at HO1
  rw [List.length_append, List.length_append, show markT.length = 4 from rfl] at HO2
  have FB := hide (bytes_append (formF_bytes m) (formF_bytes e))
  have L1 := hide (show (codeF ms m e).length = 32 from macF_length _ _)
  have L2 := hide (show (markF ms m e).length = 32 from macF_length _ _)
  clear hP
  generalize codeF ms m e = D1 at *
  generalize markF ms m e = D2 at *
  generalize formF m = F1 at *
  generalize formF e = F2 at *
  generalize hf1 : F1.length = l1 at *
  generalize hf2 : F2.length = l2 at *
  have HL1 := hide hf1
  have HL2 := hide hf2
  clear hf1 hf2
  generalize ms.length = n at *
  have I1 : Hid ((Tryd.prog.info? 25).map (·.size) = some (u8s D1).toArray.size) := by show _ = _; rw [info35]; simp [u8s, L1.out]
  have O1 : Hid ((u8s (List.replicate 32 0)).toArray.size = (u8s D1).toArray.size) := by show _ = _; simp [u8s, L1.out]
  have I2 : Hid ((Tryd.prog.info? 25).map (·.size) = some (u8s D2).toArray.size) := by show _ = _; rw [info35]; simp [u8s, L2.out]
  have LK1 := hide (show (kCells (D1.take 16) D2).length = 48 by simp [kCells, u8s, L1.out, L2.out])
  have LZ := hide (show zeroK.length = 48 from rfl)
  have IK1 : Hid ((Tryd.prog.info? 32).map (·.size) = some (kCells (D1.take 16) D2).toArray.size) := by show _ = _; rw [infoK, List.size_toArray, LK1.out]
  have OK1 : Hid (zeroK.toArray.size = (kCells (D1.take 16) D2).toArray.size) := by show _ = _; rw [List.size_toArray, List.size_toArray, LK1.out, LZ.out]
  have HC1 := hide (one_kCells (D1.take 16) D2)
  have HT : Hid ((D1.take 16).length = 16) := by show _ = _; simp [L1.out]
  have g1 : ¬ (m : Int) < 1 := by omega
  have g2 : ¬ (8 : Int) < (m : Int) := by omega
  have g3 : ¬ (e : Int) < 1 := by omega
  have g4 : ¬ (1048576 : Int) < (e : Int) := by omega
  go_enter Tryd.func12, Tryd.ntmps12
  go_upto_region 1 with fail
  rw [← zeroK_lit]
  have B1 : Hid (Below w.heap.size w (w.alloc (Obj.cells zeroK.toArray 32))) := (Below.refl _ _).alloc (Nat.le_refl _) _
  have R1 := hide (Arr.new w 32 zeroK)
  generalize w.alloc (Obj.cells zeroK.toArray 32) = w1 at *
  go_upto_region 3 with fail
  clear g1 g2 g3 g4
  go_cut [8] (fun s8 wx => ∃ q d, s8 = .slice q (l1 + l2) d ∧ Piece wx q d (F1 ++ F2) ∧ Arr wx w.heap.size 32 zeroK ∧ Below w.heap.size w wx)
  case first =>
    go_wp2_with fail
    refine (HN1.out w1).mono ?_
    rintro r w2 ⟨p1, c1, rfl, ho1, _, hb2⟩
    have R2 := hide (R1.out.kept hb2)
    have B2 : Hid (Below w.heap.size w w2) := B1.out.trans (hb2.mono B1.out.size)
    have V1 := hide ho1
    have S1 : Hid (w.heap.size < w1.heap.size) := R1.out.lt
    clear ho1 hb2 R1 B1 HN1
    go_wp2_with fail
    refine (HN2.out w2).mono ?_
    rintro r w3 ⟨p2, c2, rfl, _, hp2, hb3⟩
    have R3 := hide (R2.out.kept hb3)
    have B3 : Hid (Below w.heap.size w w3) := B2.out.trans (hb3.mono B2.out.size)
    have V3 := hide (own_below V1.out hb3)
    have P23 := hide hp2
    clear hp2 hb3 R2 B2 HN2 V1
    go_wp2_with (at_builtin; refine wpList_append_bytes rfl (.tmp 29) (.tmp 32) rfl w1.heap.size _ F1 rfl l1 HL1.out V3.out p2 l2 c2 F2 HL2.out rfl P23.out.1 P23.out.2.1 (by omega) (by have h1 := (V3.out.lt); have h2 := own_shape V3.out HFP.out; obtain ⟨gg, cp, _, h3, h4, _⟩ := h2; omega) ?_)
    intro v4 w4 ho4 hg4
    have R4 := hide (R3.out.keptR hg4 (own_ne_arr V3.out R3.out (by decide)))
    have B4 : Hid (Below w.heap.size w w4) := B3.out.grown hg4 B3.out.size (fun k hk => by have h1 := (V3.out.lt k hk).1; have h2 := S1.out; omega)
    obtain ⟨q4, d4, hv4, hp4, _⟩ := own_piece (l := F1 ++ F2) (by rw [List.length_append, HL1.out, HL2.out]; exact ho4) FB.out
    rw [List.length_append, HL1.out, HL2.out] at hv4
    subst hv4
    have P4 := hide hp4
    clear ho4 hg4 hp4 R3 B3 V3 P23
    go_wp2_with fail
    go_meet
    case rel => exact ⟨q4, d4, rfl, P4.out, R4.out, B4.out⟩
  case rest =>
    clear R1 B1 HN1 HN2
    obtain ⟨q, d, rfl, hq, hR, hB⟩ := hcut
    have HQ := hide hq
    have R5 := hide hR
    have B5 := hide hB
    clear hq hR hB
    generalize wc = w5 at *
    have kc := fun (w : World) (C : Array Value) (n c : Nat) => Lib.run_convert_bytes_const (P := Tryd.prog) w 22 5 C n c Tryd.underlying22 Tryd.underlying5
    go_upto_region 4 with fail
    go_cut [9] (fun s9 wx => ∃ a, s9 = .pointer (some ⟨a, 0, none⟩) ∧ Arr wx a 25 (u8s D1) ∧ Below w5.heap.size w5 wx)
    case first =>
      have bA : Hid (Below w5.heap.size w5 (w5.alloc (Obj.cells (u8s codeT).toArray 5 (4, 5)))) := (Below.refl _ _).alloc (Nat.le_refl _) _
      obtain ⟨v6, w6, hr6, ho6, hb6⟩ := append_const (w5.alloc (Obj.cells (u8s codeT).toArray 5 (4, 5))) w5.heap.size codeT (F1 ++ F2) rfl (4, 5) (heap_at w5 _ _ rfl) q (l1 + l2) d (HQ.out.kept bA.out) (by rw [List.length_append, HL1.out, HL2.out]) (by have := HFP.out; omega) (by omega) 22
      have HR6 := hide hr6
      have b6 : Hid (Below w5.heap.size w5 w6) := bA.out.trans (hb6.mono bA.out.size)
      obtain ⟨q6, d6, hv6, hp6, _⟩ := own_piece (l := codeT ++ (F1 ++ F2)) (by rw [List.length_append, List.length_append, HL1.out, HL2.out, show codeT.length = 4 from rfl]; exact ho6) (bytes_append codeT_bytes FB.out)
      rw [List.length_append, List.length_append, HL1.out, HL2.out, show codeT.length = 4 from rfl] at hv6
      subst hv6
      have P6 := hide hp6
      have B6 : Hid (Below w.heap.size w w6) := B5.out.trans (b6.out.mono B5.out.size)
      clear hr6 ho6 hb6 hp6
      go_wp2_with (at_builtin; refine Lib.wpList_append_run _ rfl (.tmp 36) (.tmp 37) 22 22 rfl _ _ rfl rfl _ _ HR6.out ?_)
      go_wp2_with fail
      refine (HO1.out w6 B6.out q6 d6 P6.out).mono ?_
      rintro r w7 ⟨rfl, hb7⟩
      have b7 : Hid (Below w5.heap.size w5 w7) := b6.out.trans (hb7.mono b6.out.size)
      clear hb7 kc
      go_wp2_with (refine wpList_store_row rfl 25 _ _ rfl w7.heap.size (u8s D1).toArray rfl rfl 25 (u8s (List.replicate 32 0)).toArray (heap_at w7 _ _ rfl) I1.out O1.out (all_u8s _) ?_)
      go_meet
      case rel => exact ⟨w7.heap.size, rfl, (Arr.new w7 25 (u8s (List.replicate 32 0))).row _, below_setRow (b7.out.alloc b7.out.size _) b7.out.size (by simp) _⟩
    case rest =>
      obtain ⟨a, rfl, ha, hb⟩ := hcut
      have HA := hide ha
      have R8 := hide (R5.out.kept hb)
      have B8 : Hid (Below w.heap.size w wc) := B5.out.trans (hb.mono B5.out.size)
      have Q8 := hide (HQ.out.kept hb)
      clear ha hb R5 B5 HQ HO1
      generalize wc = w8 at *
      go_upto_region 5 with fail
      go_cut [10] (fun s10 wx => ∃ g, s10 = .pointer (some ⟨g, 0, none⟩) ∧ w.heap.size < g ∧ w8.heap.size ≤ g ∧ Arr wx g 32 zeroK ∧ Below w8.heap.size w8 wx)
      case first =>
        go_wp2
        go_meet
        case rel => exact ⟨w8.heap.size, rfl, R8.out.lt, Nat.le_refl _, Arr.new w8 32 zeroK, (Below.refl _ _).alloc (Nat.le_refl _) _⟩
      case rest =>
        obtain ⟨g, rfl, hwg, hw8g, hg, hb⟩ := hcut
        have HQG : Hid (∀ b, q = some b → F1 ++ F2 ≠ [] → b.block ≠ g) := fun b hb hn => by
          have := bi_lt Q8.out.1 hn b hb
          omega
        have A9 := hide (HA.out.kept hb)
        have R9 := hide (R8.out.kept hb)
        have Q9 := hide (Q8.out.kept hb)
        have B9 : Hid (Below w.heap.size w wc) := B8.out.trans (hb.mono B8.out.size)
        have G9 := hide hg
        have hag : Hid (a ≠ g) := fun e => by
          subst e
          have h1 := A9.out
          have h2 := hg
          unfold Arr at h1 h2
          rw [h1] at h2
          simp at h2
        clear hg hb HA R8 Q8 B8
        generalize wc = w9 at *
        have HTA : Hid (∀ i, i < 16 → (D1.take 16).getD i 0 = D1.getD i 0) := fun i hi => by simp [List.getD, hi]
        generalize htt : D1.take 16 = TT at *
        have HTT := hide htt
        clear htt
        go_wp2
        go_loopg [11] 17 (fun f s11 wr => ∃ (i : Nat), s11 = .int .i64 i ∧ i ≤ 16 ∧ 16 - i < f ∧ Arr wr g 32 (kCells (part TT 16 i) (List.replicate 32 0)) ∧ w9.grownBy wr (some g))
        case atStart => exact ⟨0, rfl, by omega, by omega, G9.out, grown_refl _ _⟩
        case round =>
          clear G9
          obtain ⟨i, rfl, hi, hf, hG, hgr⟩ := hrel
          have HG := hide hG
          have HGR := hide hgr
          clear hG hgr
          by_cases hlt : i < 16
          · have hlt' : (i : Int) < 16 := by omega
            have ca := ((A9.out.grown' HGR.out hag.out).cell i).trans (u8s_at (l := D1) (by rw [L1.out]; omega))
            rw [← HTA.out i hlt] at ca
            have hpl : (part TT 16 i).length = 16 := part_length _ _ _ HT.out (by omega)
            have ez : ∃ x, wr.cell? ⟨g, i, none⟩ = some (.int .u8 x) := by
              refine ⟨(((part TT 16 i).getD i 0 : Nat) : Int), ?_⟩
              rw [HG.out.cell i, kCells, List.getElem?_append_left (by simp [u8s, hpl]; exact hlt)]
              exact u8s_at (by rw [hpl]; exact hlt)
            obtain ⟨xz, cz⟩ := ez
            have fz := HG.out.frozen i
            have HST := hide (HG.out.set i (.int .u8 ((TT.getD i 0 : Nat) : Int)))
            rw [kCells_set hpl _ _ hlt, part_set _ _ _ HT.out hlt] at HST
            clear hpl HG
            generalize TT.getD i 0 = tv at *
            go_wp2
            go_roundg (16 - i)
            case measure => omega
            case rel => exact ⟨i + 1, by go_num, by omega, by omega, HST.out, grown_set2 HGR.out i _⟩
          · have e : i = 16 := by omega
            subst e
            have hG := HG.out
            rw [part_full _ _ HT.out] at hG
            have G10 := hide hG
            have R10 := hide (R9.out.grown' HGR.out (Nat.ne_of_lt hwg))
            have B10 : Hid (Below w.heap.size w wr) := B9.out.grown HGR.out B9.out.size (by intro k hk; cases hk; exact Nat.le_of_lt hwg)
            have Q10 : Hid (Piece wr q d (F1 ++ F2)) := ⟨bi_grown Q9.out.1 HGR.out HQG.out, Q9.out.2⟩
            clear hG HG R9 B9 Q9 A9 HGR
            go_upto_region 10 with fail
            go_cut [] (fun wx => Arr wx g 32 (kCells TT D2) ∧ Arr wx w.heap.size 32 zeroK ∧ Below w.heap.size w wx)
            case first =>
              have bA : Hid (Below wr.heap.size wr (wr.alloc (Obj.cells (u8s markT).toArray 5 (4, 5)))) := (Below.refl _ _).alloc (Nat.le_refl _) _
              obtain ⟨v6, w6, hr6, ho6, hb6⟩ := append_const (wr.alloc (Obj.cells (u8s markT).toArray 5 (4, 5))) wr.heap.size markT (F1 ++ F2) rfl (4, 5) (heap_at wr _ _ rfl) q (l1 + l2) d (Q10.out.kept bA.out) (by rw [List.length_append, HL1.out, HL2.out]) (by have := HFP.out; omega) (by omega) 22
              have HR6 := hide hr6
              have b6 : Hid (Below wr.heap.size wr w6) := bA.out.trans (hb6.mono bA.out.size)
              obtain ⟨q6, d6, hv6, hp6, _⟩ := own_piece (l := markT ++ (F1 ++ F2)) (by rw [List.length_append, List.length_append, HL1.out, HL2.out, show markT.length = 4 from rfl]; exact ho6) (bytes_append markT_bytes FB.out)
              rw [List.length_append, List.length_append, HL1.out, HL2.out, show markT.length = 4 from rfl] at hv6
              subst hv6
              have P6 := hide hp6
              have B6 : Hid (Below w.heap.size w w6) := B10.out.trans (b6.out.mono B10.out.size)
              clear hr6 ho6 hb6 hp6
              go_wp2_with (at_builtin; refine Lib.wpList_append_run _ rfl (.tmp 52) (.tmp 53) 22 22 rfl _ _ rfl rfl _ _ HR6.out ?_)
              go_wp2_with fail
              refine (HO2.out w6 B6.out q6 d6 P6.out).mono ?_
              rintro r w7 ⟨rfl, hb7⟩
              have b7 : Hid (Below wr.heap.size wr w7) := b6.out.trans (hb7.mono b6.out.size)
              have G7 := hide (G10.out.kept b7.out)
              have R7 := hide (R10.out.kept b7.out)
              have B7 : Hid (Below w.heap.size w w7) := B10.out.trans (b7.out.mono B10.out.size)
              have HKM := hide (kCells_mark (b := List.replicate 32 0) HT.out (by simp) L2.out)
              have HFT : Hid (16 + (u8s D2).toArray.size ≤ (kCells TT (List.replicate 32 0)).toArray.size) := by show _ ≤ _; simp [kCells, u8s, HT.out, L2.out]
              clear hb7 kc b6 b7 P6 HR6 Q10 G10 R10 B10 B6 bA
              generalize kCells TT (List.replicate 32 0) = KZ at *
              go_wp2_with (refine wpList_store_at rfl 25 (.tmp 56) (.tmp 55) rfl g 16 (u8s D2).toArray rfl rfl 32 KZ.toArray G7.out I2.out HFT.out (all_u8s _) ?_; rw [HKM.out])
              go_meet
              case rel => exact ⟨G7.out.row _, R7.out.rowOther _ _ (Nat.ne_of_lt hwg), below_setRow B7.out (Nat.le_of_lt hwg) G7.out.lt _⟩
            case rest =>
              clear Q10 G10 R10 B10 kc
              obtain ⟨hg, hr, hb⟩ := hcut
              have G11 := hide hg
              have R11 := hide hr
              have B11 := hide hb
              clear hg hr hb
              generalize hkc : kCells TT D2 = KC1 at *
              have HKC := hide hkc
              clear hkc
              go_wp2_with (first
                | (refine wpList_load_row rfl 32 _ rfl g rfl 32 _ (0, 0) _ G11.out Tryd.underlying32 rfl IK1.out ?_)
                | (refine wpList_store_row rfl 32 _ _ rfl w.heap.size _ rfl rfl 32 _ R11.out IK1.out OK1.out HC1.out ?_))
              exact bodyPost_ret (v := .tuple #[.agg KC1.toArray, .int .i64 0]) (results_key Tryd.results12 _ _ w.heap.size KC1 rfl (R11.out.row _) LK1.out) rfl ⟨by rw [HTT.out, HKC.out], below_setRow B11.out (Nat.le_refl _) R11.out.lt _⟩

end Go.Proofs.YtfopjobcjafgaabDoor
