/-
  UtfPlays: whatever is done with a decoder.
-/
import Derived.Test.YtijjifdgmffenaaDoorUY
import Derived.Test.YtijjifdgmffenaaDoorUM
namespace Go.Proofs.YtijjifdgmffenaaDoor
namespace UtfPlaysProof
open Go.ChangeShapes Go.WideShapes Go.ChangeAt Go.WideMaps Go.WideElems Go.RowKit

theorem own_kpt {w w' : World} {B Z n : Nat} {D : Dc} {v : Value} {us : List Value} (h : w.ownsRow B 5 1 v n us) (hA : Arr w Z 41 (dcC D)) (hk : Kp w.heap.size Z w w') : w'.ownsRow B 5 1 v n us := by
  refine h.kept (w' := w') (row := some Z) hk.to_grown ?_
  by_cases hv : v.ownBlock = none
  · exact Or.inl hv
  · exact Or.inr (own_ne_arr h hA (by decide))
/-- a decoder lies where it lay, while a row of bytes grows -/
theorem arr_grown {w w' : World} {B Z n : Nat} {D : Dc} {v : Value} {us : List Value} (h : w.ownsRow B 5 1 v n us) (hA : Arr w Z 41 (dcC D)) (hg : w.grownBy w' v.ownBlock) : Arr w' Z 41 (dcC D) :=
  (hg.block Z hA.lt (fun e => own_ne_arr h hA (by decide) e.symm)).trans hA

set_option maxHeartbeats 8000000 in
set_option maxRecDepth 100000 in
theorem walk (sp : Option Addr) (len cap : Nat) (K : Nat → Int) (P : Nat → Option Addr) (C : Nat → Nat) (B : Nat → List Nat) (w : World) (hO : Ops w sp len K P C B) (hL : LaidU w) :
    Calls Tryd.prog 5 #[.slice sp len cap] w fun e w' => e = .returned (.bool true) ∧ Below w.heap.size w w' := by
  have HK := hide (known_any w hL)
  have HN := hide new_any
  have HO := hide hO
  have HL := hide hL
  clear hO hL
  go_enter Tryd.func5, Tryd.ntmps5
  go_wp2_with fail
  refine HK.out.mono ?_
  rintro r w0 ⟨rfl, b0⟩
  have HB0 := hide b0
  have HL0 := hide (HL.out.kept b0)
  clear b0 HK
  go_wp2_with fail
  refine (HN.out w0).mono ?_
  rintro r w1 ⟨rfl, a1, b1⟩
  have HS0 : Hid (PyS w0 w1 w0.heap.size Dc.no [] (.slice none 0 0)) := ⟨a1, ⟨rfl, Or.inl ⟨rfl, rfl⟩⟩, b1, rfl, rfl, Nat.le_refl _, fun x hx => by cases hx⟩
  clear a1 b1
  go_wp2_with fail
  go_loopg [3, 4, 5, 6] 62 (fun f s3 s4 s5 s6 wx => ∃ (i n Z : Nat) (D : Dc) (H : List Nat), s3 = .pointer (some ⟨Z, 0, none⟩) ∧ s5 = .int .i64 (n : Int) ∧ s6 = .int .i64 (i : Int) ∧ n ≤ 2000 ∧ i ≤ 60 ∧ 61 - i < f ∧ Hid (PyS w0 wx Z D H s4))
  case atStart => exact ⟨0, 0, w0.heap.size, Dc.no, [], rfl, rfl, rfl, Nat.zero_le _, Nat.zero_le _, by decide, HS0.out⟩
  case round =>
    clear HS0
    obtain ⟨i, n, Z, D, H, rfl, rfl, rfl, hn2, hi60, hf, HS⟩ := hrel
    obtain ⟨x, hx⟩ : ∃ x : Int, (len : Int) = x := ⟨_, rfl⟩
    by_cases hlt : i < len
    · obtain ⟨q, o, rfl, hcl⟩ := (show ∃ q o, sp = some ⟨q, o, none⟩ ∧ ∀ i, i < len → w.cell? ⟨q, o + i * 2, none⟩ = some (.int .i64 (K i)) ∧ w.cell? ⟨q, o + i * 2 + 1, none⟩ = some (.slice (P i) (B i).length (C i)) from by
        rcases HO.out.1 with h | h
        · omega
        · exact h)
      have hcw := hcl i hlt
      have hBW : Below w.heap.size w wr := HB0.out.trans (HS.out.lo.mono HB0.out.size)
      have HCK := hide hcw
      have k0 : wr.cell? ⟨q, o + i * 2, none⟩ = some (.int .i64 (K i)) := (hBW.cell (p := ⟨q, o + i * 2, none⟩) (block_lt_of_cell hcw.1)).trans hcw.1
      have k1 : wr.cell? ⟨q, o + i * 2 + 1, none⟩ = some (.slice (P i) (B i).length (C i)) := (hBW.cell (p := ⟨q, o + i * 2 + 1, none⟩) (block_lt_of_cell hcw.2)).trans hcw.2
      have HPB := hide (HO.out.2.1 i hlt)
      have il : (i : Int) < (len : Int) := by omega
      obtain ⟨pb, hpb⟩ : ∃ pb, P i = pb := ⟨_, rfl⟩
      obtain ⟨cb, hcb⟩ : ∃ cb, C i = cb := ⟨_, rfl⟩
      obtain ⟨b, hb⟩ : ∃ b, B i = b := ⟨_, rfl⟩
      obtain ⟨Lb, hLb⟩ : ∃ Lb, b.length = Lb := ⟨_, rfl⟩
      obtain ⟨kd, hkd⟩ : ∃ kd, K i = kd := ⟨_, rfl⟩
      rw [hpb, hcb, hb] at HPB
      rw [hpb, hcb, hb, hLb] at k1 HCK
      rw [hkd] at k0 HCK
      have HLB := hide hLb
      clear hcl hcw hBW hx hpb hcb hb hLb hkd hlt
      by_cases h60 : (60 : Int) ≤ (i : Int)
      · have d60 : decide ((60 : Int) ≤ (i : Int)) = true := decide_eq_true h60
        go_wp2_with fail
        go_ret
        exact ⟨rfl, HB0.out.trans (HS.out.lo.mono HB0.out.size)⟩
      · have d60 : decide ((60 : Int) ≤ (i : Int)) = false := decide_eq_false h60
        by_cases hbig : (2000 : Int) - (n : Int) < (Lb : Int)
        · have db : decide ((2000 : Int) - (n : Int) < (Lb : Int)) = true := decide_eq_true hbig
          clear hf
          go_wp2_with fail
          go_ret
          exact ⟨rfl, HB0.out.trans (HS.out.lo.mono HB0.out.size)⟩
        · have db : decide ((2000 : Int) - (n : Int) < (Lb : Int)) = false := decide_eq_false hbig
          go_upto_block 2 with fail
          go_cut [3, 4, 5] (fun s3 s4 s5 wx => ∃ (n' Z' : Nat) (D' : Dc) (H' : List Nat), s3 = .pointer (some ⟨Z', 0, none⟩) ∧ s5 = .int .i64 (n' : Int) ∧ n' ≤ 2000 ∧ Hid (PyS w0 wx Z' D' H' s4))
          case first =>
            clear hf hi60 h60 d60 db
            have HZ0 : Hid (0 < Z) := Nat.lt_of_lt_of_le (Nat.lt_of_lt_of_le (Nat.succ_pos 0) HL0.out.size) HS.out.z
            have HLR : Hid (LaidU wr) := HL0.out.kept HS.out.lo
            have h3 : H.length ≤ 3 := by rw [HS.out.h]; exact Dc.ok_le HS.out.ok
            have HBW : Hid (Below w.heap.size w wr) := HB0.out.trans (HS.out.lo.mono HB0.out.size)
            by_cases hk0 : kd = 0
            · as_aux_lemma =>
              have e0 : (kd == 0) = true := by rw [hk0]; rfl
              have hsum : n + Lb ≤ 2000 := by omega
              obtain ⟨D', ts, hrun⟩ : ∃ d t, D.run b = (d, t) := ⟨_, _, rfl⟩
              have hrt : Dc.no.run (H ++ b) = (D', ts) := by
                rw [Dc.run_append, HS.out.r]
                simp only
                rw [hrun]
                rfl
              obtain ⟨M, hM⟩ : ∃ M, H.length + Lb = M := ⟨_, rfl⟩
              have hMl : (H ++ b).length = M := by rw [List.length_append, HLB.out, hM]
              have htl := tail_run (H ++ b)
              have hle := held_le (H ++ b)
              rw [hrt] at htl hle
              rw [hMl] at htl hle
              have hM9 : M ≤ 2003 := by omega
              have hdl : D'.h ≤ M := hle
              have hd3 : D'.h ≤ 3 := by
                have h := Dc.run_ok no_ok (H ++ b)
                rw [hrt] at h
                exact Dc.ok_le h
              obtain ⟨hh, hhh⟩ : ∃ hh : Int, (D'.h : Int) = hh := ⟨_, rfl⟩
              have hh0 : 0 ≤ hh := by omega
              have hh3 : hh ≤ 3 := by omega
              have hhM : hh ≤ (M : Int) := by omega
              obtain ⟨kq, hkq⟩ : ∃ kq, M - D'.h = kq := ⟨_, rfl⟩
              have HKQ : Hid ((kq : Int) = (M : Int) - hh ∧ kq ≤ M ∧ M - kq = D'.h) := ⟨by omega, by omega, by omega⟩
              have HT : Hid (Dc.no.run ((H ++ b).drop kq) = (D', [])) := by show _ = _; rw [← hkq]; exact htl
              have HRT := hide (And.intro hrun hrt)
              have HML := hide hMl
              have HHH := hide hhh
              have HSZ : Hid (H.length + Lb ≤ 140737488355328) := by show _ ≤ _; omega
              have HBYT : Hid (BytesN (H ++ b)) := bytes_append HS.out.b HPB.out.2.2.1
              have HPR := hide (HPB.out.kept HBW.out)
              have HNB : Hid (n + Lb ≤ 2000 ∧ M ≤ 99000 ∧ Lb ≤ 99000) := ⟨hsum, by omega, by omega⟩
              have hn9 : n ≤ 2000 := hn2
              clear hrun hrt hMl htl hle hdl hd3 hhh hkq hk0 hbig h3 HN
              go_upto_region 15 with (refine wpList_append_bytes rfl _ _ rfl w0.heap.size _ H rfl H.length rfl HS.out.o pb Lb cb b HLB.out rfl HPR.out.1 HPR.out.2.1 HSZ.out HS.out.lo.size ?_; intro v1 w1 ho1 hw1; have HO1 := hide ho1; have HA1 := hide (arr_grown HS.out.o HS.out.a hw1); have HB1 := hide (HS.out.lo.grown hw1 HS.out.lo.size (fun k hk => own_ge HS.out.o k hk)); clear ho1 hw1)
              have ho1 := HO1.out
              rw [hM] at ho1
              obtain ⟨p1, c1, rfl, hq1, _⟩ := own_piece_n ho1 HML.out HBYT.out
              have HQ1 := hide hq1
              have HBW1 : Hid (Below w.heap.size w w1) := HB0.out.trans (HB1.out.mono HB0.out.size)
              have HRD := rdecode_fresh M c1 p1 (H ++ b) w1 hq1 HML.out HNB.out.2.1 HRT.out.2
              rw [HHH.out] at HRD
              have HRD1 := hide HRD
              have HOK := hide HS.out.ok
              have HZS := hide HS.out.z
              clear ho1 hq1 HRD HO1 hM k0 k1 HBW HLR HPR HS
              go_wp2_with fail
              refine HRD1.out.mono ?_
              rintro r w2 ⟨pw, cw, rfl, r2, f2, b2⟩
              have HF2 := hide f2
              have HW2 := hide r2
              have HA2 := hide (HA1.out.kept b2)
              have HQ2 := hide (HQ1.out.kept b2)
              have HB2 : Hid (Below w0.heap.size w0 w2) := HB1.out.trans (b2.mono HB1.out.size)
              have HBW2 : Hid (Below w.heap.size w w2) := HB0.out.trans (HB2.out.mono HB0.out.size)
              have k2 : w2.cell? ⟨q, o + i * 2 + 1, none⟩ = some (.slice pb Lb cb) := (HBW2.out.cell (p := ⟨q, o + i * 2 + 1, none⟩) (block_lt_of_cell HCK.out.2)).trans HCK.out.2
              have HPU := hide (put_of D Z Lb cb pb b w2 HOK.out (HL0.out.kept HB2.out) HA2.out HZ0.out (HPB.out.kept HBW2.out) HLB.out HNB.out.2.2 HRT.out.1)
              have HZ1 : Hid (Z < w1.heap.size) := HA1.out.lt
              clear r2 f2 b2 HRD1 HQ1 HA1 HB1 HBW1 HBW2
              go_wp2_with fail
              refine HPU.out.mono ?_
              rintro r w3 ⟨p3, c3, rfl, r3, _, a3, k3⟩
              have hw3 := HW2.out.kp HF2.out HZ1.out k3 (Nat.le_refl _)
              have HQ3 := hide (HQ2.out.kp HA2.out k3)
              have HA3 := hide a3
              have HB3 : Hid (Below w0.heap.size w0 w3) := HB2.out.trans ((k3.toBelow (Nat.le_of_lt HA2.out.lt)).mono HZS.out)
              have HLT : Hid (ts.length ≤ 99000) := by
                have h1 := (Dc.run_len no_ok (H ++ b)).1
                rw [HRT.out.2, HML.out] at h1
                have h2 := HNB.out.2.1
                have e : Dc.no.one = 0 := rfl
                have h4 : ts.length + D'.one ≤ Dc.no.one + M := h1
                show _ ≤ _
                omega
              have HSM := hide (rsame_any ts.length c3 cw p3 pw (ints ts) w3 r3 hw3 (ints_length _) HLT.out)
              clear r3 a3 k3 hw3 HPU HW2 HQ2 HA2 HB2 HF2 k2
              go_wp2_with fail
              refine HSM.out.mono ?_
              rintro r w4 ⟨rfl, b4⟩
              have HQ4 := hide (HQ3.out.kept b4)
              have HA4 := hide (HA3.out.kept b4)
              have HB4 : Hid (Below w0.heap.size w0 w4) := HB3.out.trans (b4.mono HB3.out.size)
              have S1 : ∀ v : World, (Instr.slice 22 (.slice p1 M c1) (some (.int .i64 ((M : Int) - hh))) none none).run Tryd.prog v = .ok (.slice (cutP p1 kq c1) (M - kq) (c1 - kq)) v := fun v => by rw [← HKQ.out.1]; exact run_fromL v p1 M c1 kq HKQ.out.2.1
              have HPF := hide ((HQ4.out.kept ((Below.refl _ _).alloc (Nat.le_refl _) (.cells #[] 5))).from kq (by rw [HML.out]; exact HKQ.out.2.1))
              have HDL : Hid (((H ++ b).drop kq).length = M - kq) := by show _ = _; rw [List.length_drop, HML.out]
              have HSZ2 : Hid (0 + (M - kq) ≤ 140737488355328) := by have := HNB.out.2.1; show _ ≤ _; omega
              clear b4 HSM HQ3 HA3 HB3 HQ4
              go_wp2_with (refine wpList_append_bytes rfl _ _ rfl w4.heap.size _ [] rfl 0 rfl (own_emptyb w4) _ (M - kq) _ ((H ++ b).drop kq) HDL.out rfl HPF.out.1 HPF.out.2.1 HSZ2.out (by simp) ?_; intro v5 w5 ho5 hw5; have HO5 := hide ho5; have HG5 := hide hw5; clear ho5 hw5)
              go_meet
              case rel =>
                refine ⟨n + Lb, Z, D', (H ++ b).drop kq, rfl, by first | rfl | (congr 1), HNB.out.1, ?_, ?_, ?_, HT.out, ?_, HZS.out, fun y hy => HBYT.out y (List.mem_of_mem_drop hy)⟩
                · refine (HG5.out.block Z (by have := HA4.out.lt; simp; omega) (fun e => ?_)).trans (HA4.out.alloc _)
                  have h1 := HA4.out.lt
                  have h2 : Z = w4.heap.size := Option.some.inj e
                  omega
                · have h := HO5.out
                  rw [Nat.zero_add, List.nil_append] at h
                  rw [HDL.out]
                  exact own_base h HB4.out.size
                · exact (HB4.out.alloc HB4.out.size _).grown HG5.out (Nat.le_trans HB4.out.size (by simp)) (fun k hk => by cases hk; exact HB4.out.size)
                · rw [HDL.out]; exact HKQ.out.2.2
            · have e0 : (kd == 0) = false := by simp [hk0]
              by_cases hk1 : kd = 1
              · as_aux_lemma =>
                have e1 : (kd == 1) = true := by rw [hk1]; rfl
                obtain ⟨po, co, rfl, hq, _⟩ := own_piece HS.out.o HS.out.b
                have HEN := hide (end_any D Z wr HS.out.a)
                have HHL := HS.out.h
                by_cases hz : D.h = 0
                · have hl0 : H.length = 0 := by rw [HHL, hz]
                  have he : D.end = [] := by unfold Dc.end; rw [if_pos hz]
                  have hno := ok_no HS.out.ok hz
                  rw [he, if_pos hz, hno] at HEN
                  have HS2 := HS
                  rw [hl0]
                  clear hq HHL hz hl0 he hno hbig h3 hk0 hk1 k1 HN HBW HLR HPB HLB HCK
                  go_wp2_with fail
                  refine HEN.out.mono ?_
                  rintro r w1 ⟨p9, c9, rfl, _, _, a9, k9⟩
                  have HA9 := hide a9
                  have HB9 : Hid (Below w0.heap.size w0 w1) := HS.out.lo.trans ((k9.toBelow (Nat.le_of_lt HS.out.a.lt)).mono HS.out.z)
                  clear a9 k9 HEN
                  go_wp2_with fail
                  go_meet
                  case rel => exact ⟨n, Z, Dc.no, [], rfl, rfl, hn2, HA9.out, ⟨rfl, Or.inl ⟨rfl, rfl⟩⟩, HB9.out, rfl, rfl, HS.out.z, fun x hx => by cases hx⟩
                · have he : D.end = [65533] := by unfold Dc.end; rw [if_neg hz]
                  rw [he, if_neg hz] at HEN
                  obtain ⟨M, hM⟩ : ∃ M, H.length = M := ⟨_, rfl⟩
                  have hM0 : ¬ M = 0 := by omega
                  have hM1 : 0 < M := by omega
                  have f1 : ((M : Int) == 0) = false := by simp; omega
                  have f2 : decide ((0 : Int) < (M : Int)) = true := decide_eq_true (by omega)
                  have f3 : decide (0 < M) = true := decide_eq_true hM1
                  rw [hM]
                  clear hq HHL hz he hbig h3 hk0 hk1 k1 HN HBW HLR HPB HLB HCK hM
                  go_wp2_with fail
                  refine HEN.out.mono ?_
                  rintro r w1 ⟨p9, c9, rfl, r9, _, a9, k9⟩
                  have HA9 := hide a9
                  have HB9 : Hid (Below w0.heap.size w0 w1) := HS.out.lo.trans ((k9.toBelow (Nat.le_of_lt HS.out.a.lt)).mono HS.out.z)
                  have HSM := hide (rsame_any 1 c9 1 p9 (some ⟨w1.heap.size, 0, none⟩) [65533] (w1.alloc (Obj.cells #[Value.int .i32 65533] 21)) (r9.kept ((Below.refl _ _).alloc (Nat.le_refl _) _)) (lit_runes (heap_alloc_new _ _) rfl (by decide)) rfl (by decide))
                  clear r9 a9 k9 HEN
                  go_wp2_with fail
                  refine HSM.out.mono ?_
                  rintro r w2 ⟨rfl, b2⟩
                  have HB2 : Hid (Below w1.heap.size w1 w2) := ((Below.refl _ _).alloc (Nat.le_refl _) _).trans (b2.mono (by simp))
                  clear b2 HSM
                  go_wp2_with fail
                  go_meet
                  case rel => exact ⟨n, Z, Dc.no, [], rfl, rfl, hn2, HA9.out.kept HB2.out, ⟨rfl, Or.inl ⟨rfl, rfl⟩⟩, HB9.out.trans (HB2.out.mono HB9.out.size), rfl, rfl, HS.out.z, fun x hx => by cases hx⟩
              · have e1 : (kd == 1) = false := by simp [hk1]
                by_cases hk2 : kd = 2
                · as_aux_lemma =>
                  have e2 : (kd == 2) = true := by rw [hk2]; rfl
                  have HCP := hide (copy_any D Z wr HS.out.a)
                  obtain ⟨D', ts, hrun⟩ : ∃ d t, D.run [240, 144] = (d, t) := ⟨_, _, rfl⟩
                  have HR := hide hrun
                  clear hrun hk0 hk1 hk2 h3 hbig k1 HN HBW HPB HLB HCK
                  go_wp2_with fail
                  refine HCP.out.mono ?_
                  rintro r w1 ⟨rfl, a1, b1⟩
                  have HS1 := hide (HS.out.kept b1)
                  have HA1 := hide a1
                  have HPU := hide (put_of D Z 2 2 (some ⟨w1.heap.size, 0, none⟩) [240, 144] (w1.alloc (Obj.cells #[Value.int .u8 240, Value.int .u8 144] 5)) HS.out.ok ((HLR.out.kept b1).kept ((Below.refl _ _).alloc (Nat.le_refl _) _)) (HS1.out.a.alloc _) HZ0.out (lit_bytes (heap_alloc_new _ _) (by intro x hx; simp at hx; omega) rfl (by decide)) rfl (by decide) HR.out)
                  clear a1 b1 HCP HLR
                  go_wp2_with fail
                  refine HPU.out.mono ?_
                  rintro r w2 ⟨p2, c2, rfl, _, _, _, k2⟩
                  have HB1 : Hid (Below w1.heap.size w1 (w1.alloc (Obj.cells #[Value.int .u8 240, Value.int .u8 144] 5))) := (Below.refl _ _).alloc (Nat.le_refl _) _
                  have HS2 := hide (HS1.out.kept HB1.out)
                  have HK2 := hide k2
                  clear k2 HPU
                  go_wp2_with fail
                  go_meet
                  case rel =>
                    refine ⟨n, wr.heap.size, D, H, rfl, rfl, hn2, (HA1.out.alloc _).kp (fun e => ?_) HK2.out (Nat.le_refl _), own_kpt HS2.out.o HS2.out.a HK2.out, HS2.out.lo.trans ((HK2.out.toBelow (Nat.le_of_lt HS2.out.a.lt)).mono HS.out.z), HS.out.r, HS.out.h, HS.out.lo.size, HS.out.b⟩
                    have := HS.out.a.lt
                    omega
                · as_aux_lemma =>
                  have e2 : (kd == 2) = false := by simp [hk2]
                  clear hk0 hk1 hk2 h3 hbig k1 HN HBW HPB HLB HCK
                  go_wp2_with fail
                  go_meet
                  case rel => exact ⟨n, Z, D, H, rfl, rfl, hn2, HS.out⟩
          case rest =>
            obtain ⟨n', Z', D', H', rfl, rfl, hn', HS'⟩ := hcut
            obtain ⟨po, co, rfl, hq, _⟩ := own_piece HS'.out.o HS'.out.b
            obtain ⟨hh, hhh⟩ : ∃ hh : Int, (D'.h : Int) = hh := ⟨_, rfl⟩
            have HHE := held_any D' Z' wc HS'.out.a
            rw [hhh] at HHE
            have HHE1 := hide HHE
            have hne : (hh != (H'.length : Int)) = false := by
              rw [← hhh, HS'.out.h]; simp
            clear hq hhh HHE HS HCK HPB HLB k0 k1 db d60 hbig
            go_wp2_with fail
            refine HHE1.out.mono ?_
            rintro r wd ⟨rfl, rfl⟩
            clear HHE1
            have HWI : Hid (wrap64 ((i : Int) + 1) = ((i + 1 : Nat) : Int)) := by show _ = _; unfold wrap64; omega
            go_wp2_with fail
            go_roundg (61 - i)
            case measure => omega
            case rel => exact ⟨i + 1, n', Z', D', H', rfl, rfl, by first | rfl | rw [HWI.out], hn', by omega, by omega, HS'.out⟩
    · have dk : decide ((i : Int) < (len : Int)) = false := decide_eq_false (by omega)
      have dk' : decide (i < len) = false := decide_eq_false hlt
      clear hf hi60
      go_wp2_with fail
      go_ret
      exact ⟨rfl, HB0.out.trans (HS.out.lo.mono HB0.out.size)⟩

set_option maxRecDepth 100000 in
theorem lifted (os : Os) (started : os.Started) (H : Type) (enc : TypeId × Value → H) :
    ReturnsInHanded {} Tryd.checked os 5 .any (fun w args => (Rows.utfPlaysSpec.pre enc Tryd.prog Tryd.f5 [] false w args ∧ laidMetH Tryd.prog laid1 w) ∧ sizedMet enc Tryd.prog Tryd.f5 (OpenSpec.ofChange Rows.utfPlaysSpec) false w args)
      (Rows.utfPlaysSpec.post enc Tryd.prog Tryd.f5 false true false false) := by
  refine returnsInHanded_of_change_and (C := Tryd.checked) (X := fun w _ => laidMetH Tryd.prog laid1 w) (fun _ _ _ hh h => h.of_heap hh) own started (by kernel_rfl) Tryd.func5
    (ChangeSpec.witness_shaped (enc := enc) (C := Tryd.checked) (os := os) (X := fun w _ => laidMetH Tryd.prog laid1 w) false (World.doorLaid Tryd.prog 400 os) #[.slice none 0 0] 8 rfl (World.shaped_of_RefB (by kernel_rfl) (by kernel_rfl)) (by kernel_rfl) (by kernel_rfl) (by kernel_rfl) (door_met os _)) ?_
  intro W base args ds gs before hval0 hW _ hsz hL _
  have hval : ∀ (j : Nat) t v, Tryd.f5.params[j]? = some t → args[j]? = some v → Value.okWide Tryd.prog W .any base t v := hval0
  have hW' := hW
  obtain ⟨p, q, hA0, hV, rfl, hfz, hnd⟩ := hW
  have hA : DataW.TrodAll enc Tryd.prog W 0 (fun _ => true) true Tryd.f5.params.toList args.toList ds p := hA0
  rw [Tryd.params5] at hA hval
  obtain ⟨v0, vs0, d0, ds0, p0, q0, hargs, rfl, rfl, h0, r0⟩ := trodAll_cons hA
  obtain ⟨rfl, rfl, rfl⟩ := trodAll_nil r0
  obtain rfl : args = #[v0] := by cases args; simp_all
  obtain ⟨rfl, rfl⟩ := trodVars_none hV
  obtain ⟨a0, len0, cap0, rfl⟩ := okWide_slice Tryd.underlying30 (hval 0 30 v0 rfl rfl)
  have k0 := h0
  have lt0 : ∀ x ∈ p0, x.block < W.heap.size := by obtain ⟨m, hm⟩ := k0; exact DataW.trod_lt m _ _ _ hm
  obtain ⟨fuel0, hf0⟩ := h0
  obtain ⟨a0', len0', cap0', K0, P0, C0, B0, hcs0, w0⟩ := uops_of hf0
  simp [Value.cells] at hcs0
  obtain ⟨rfl, rfl, rfl⟩ := hcs0
  clear hf0
  clear hA0 hval0
  refine (walk a0 len0 cap0 K0 P0 C0 B0 W w0 (of_laid hL)).mono fun e W' ⟨he, bel⟩ => ?_
  subst he
  exact ⟨_, rfl, _, _, _, [], _, [], hW', trodAll_mk1 (shut_bool Tryd.underlying4 _), (trodAll_cons_mk (Below.trod laidOut (by kernel_rfl) (of_decide_eq_true (by kernel_rfl)) k0 bel lt0) trodAll_mk0), rfl, bel.frame _, fun h => by cases h⟩

theorem row : Rows.UtfPlaysSaid :=
  OpenClaim.holds_of_wide 5 Tryd.f5 rfl rfl rfl rfl rfl rfl rfl ⟨rfl, rfl, rfl, rfl, rfl⟩ rfl rfl rfl rfl rfl (by kernel_rfl) Tryd.func5 (by kernel_rfl)
    (of_decide_eq_true (by kernel_rfl)) (by unfold Func.isWrapper; first | (rw [if_pos (by decide +kernel)]; kernel_rfl) | (rw [if_neg (by decide +kernel)]; exact ⟨rfl, rfl⟩))
    (fun os started H enc _ => lifted os started H enc)

theorem card : Rows.UtfPlaysCardSaid :=
  Claim7.holds_tied_plain_at .later [] [.data] true (true, Rows.utfPlaysCard.stood.harness.2) false
    row (fun _ h => by cases h) (by kernel_rfl) (fun _ h => by cases h) utfPlays_row_tie rfl ⟨rfl, rfl⟩ (by kernel_rfl) rfl
    (fun f fn hf hfn => by
      obtain rfl : f = 5 := Option.some.inj ((show Tryd.prog.funcNamed "oriel/oriellaw10.UtfPlays" = some 5 by kernel_rfl).symm.trans hf) |>.symm
      obtain rfl : fn = Tryd.f5 := (Option.some.inj (Tryd.func5.symm.trans hfn)).symm
      exact ⟨by kernel_rfl, fun j t ht => by
        rw [Tryd.params5] at ht
        have hm : t ∈ [30] := by simpa using Array.mem_of_getElem? ht
        have hall : ([30].all fun u => !Tryd.prog.wantsStandIn u) = true := by kernel_rfl
        exact (show Tryd.prog.wantsStandIn t = false by simpa using List.all_eq_true.1 hall t hm)⟩)
    (by kernel_rfl)


end UtfPlaysProof

/-- Whatever is done with a decoder, it tells, holds and copies what the document says. -/
theorem utfPlays_holds : Rows.UtfPlaysCardSaid := UtfPlaysProof.card
#print axioms utfPlays_holds
end Go.Proofs.YtijjifdgmffenaaDoor
