/-
  A walk: Of: the mark, under a key, of all pieces, one behind the other.
-/
import Derived.Test.YtfopjobcjafgaabDoorMD
namespace Go.Proofs.YtfopjobcjafgaabDoor
open Go.RowKit

set_option maxHeartbeats 8000000 in
set_option maxRecDepth 100000 in
theorem of_any (p : Option Addr) (c : Nat) (key : List Nat) (sp : Option Addr) (k cc : Nat) (P : Nat → Option Addr) (C : Nat → Nat) (B : Nat → List Nat) (D : List Nat) (w : World)
    (hP : Piece w p c key) (hkl : key.length ≤ 100000)
    (hsl : k = 0 ∨ ∃ q o, sp = some ⟨q, o, none⟩ ∧ ∀ i, i < k → w.cell? ⟨q, o + i, none⟩ = some (.slice (P i) (B i).length (C i)))
    (hpc : ∀ i, i < k → Piece w (P i) (C i) (B i)) (htot : (joinF B k).length ≤ 90000) (hk : k ≤ 100000) (hL : Laid w) (hD : macF key (joinF B k) = D) :
    Calls Tryd.prog 8 #[.slice p key.length c, .slice sp k cc] w fun e w' => e = .returned (.agg (u8s D).toArray) ∧ Below w.heap.size w w' := by
  have hL2 := hL.size
  have HLB : Hid (∀ v, Below w.heap.size w v → Laid v) := fun v hb => hL.keptB (B := w.heap.size) hL2 hb
  have HPC := hide hpc
  have HSL := hide hsl
  have hKL := kblockF_length key
  have hKB := kblockF_bytes hP.2.2.1
  have HBK := hide (fun (v : World) (hb : Below w.heap.size w v) => block_key p c key v (hP.kept hb) hkl (HLB.out v hb))
  have HG1 := hide (fun (v : World) (hb : Below w.heap.size w v) => begun_any (kblockF key) 54 v hKL hKB (by omega) (HLB.out v hb))
  have HG2 := hide (fun (v : World) (hb : Below w.heap.size w v) => begun_any (kblockF key) 92 v hKL hKB (by omega) (HLB.out v hb))
  rw [show ((54 : Nat) : Int) = 54 from rfl] at HG1
  rw [show ((92 : Nat) : Int) = 92 from rfl] at HG2
  have hx1 : (xorF (kblockF key) 54).length = 64 := by rw [xorF_length, hKL]
  have hx2 : (xorF (kblockF key) 92).length = 64 := by rw [xorF_length, hKL]
  have hs1 := sumF_length (xorF (kblockF key) 54 ++ joinF B k)
  have HSM1 := hide (fun (v : World) (g : Nat) (h1 : MadeH v g (xorF (kblockF key) 54 ++ joinF B k)) (hb : Below w.heap.size w v) => hsum_of (.pointer (some ⟨g, 0, none⟩)) (xorF (kblockF key) 54 ++ joinF B k) (sumF (xorF (kblockF key) 54 ++ joinF B k)) v (Or.inl ⟨g, rfl, h1⟩) (by rw [List.length_append, hx1]; omega) (HLB.out v hb) rfl)
  have HSM2 := hide (fun (v : World) (g : Nat) (h1 : MadeH v g (xorF (kblockF key) 92 ++ sumF (xorF (kblockF key) 54 ++ joinF B k))) (hb : Below w.heap.size w v) => hsum_of (.pointer (some ⟨g, 0, none⟩)) (xorF (kblockF key) 92 ++ sumF (xorF (kblockF key) 54 ++ joinF B k)) D v (Or.inl ⟨g, rfl, h1⟩) (by rw [List.length_append, hx2, hs1]; omega) (HLB.out v hb) hD)
  have hD1b := sumF_bytes (xorF (kblockF key) 54 ++ joinF B k)
  have hDl : D.length = 32 := by rw [← hD]; exact macF_length _ _
  have HKL := hide hKL
  have HJM : Hid (∀ i, i ≤ k → (joinF B i).length ≤ 90000) := fun i hi => Nat.le_trans (joinF_mono B hi) htot
  have HJS : Hid (∀ i, joinF B (i + 1) = joinF B i ++ B i) := fun i => rfl
  have HJ0 : Hid (joinF B 0 = []) := rfl
  have HX1 := hide hx1
  have HX2 := hide hx2
  have HD1L := hide hs1
  have HD1B := hide hD1b
  have HDL := hide hDl
  clear hpc hsl hL htot hD hKL hKB hx1 hx2 hs1 hD1b hDl hP
  generalize sumF (xorF (kblockF key) 54 ++ joinF B k) = D1 at *
  generalize joinF B = J at *
  generalize xorF (kblockF key) 54 = XI at *
  generalize xorF (kblockF key) 92 = XO at *
  generalize kblockF key = KB at *
  have IK : Hid ((Tryd.prog.info? 39).map (·.size) = some (u8s KB).toArray.size) := by show _ = _; rw [info64]; simp [u8s, HKL.out]
  have OK : Hid ((u8s (List.replicate 64 0)).toArray.size = (u8s KB).toArray.size) := by show _ = _; simp [u8s, HKL.out]
  have I1 : Hid ((Tryd.prog.info? 25).map (·.size) = some (u8s D1).toArray.size) := by show _ = _; rw [info35]; simp [u8s, HD1L.out]
  have O1 : Hid ((u8s (List.replicate 32 0)).toArray.size = (u8s D1).toArray.size) := by show _ = _; simp [u8s, HD1L.out]
  have ID : Hid ((Tryd.prog.info? 25).map (·.size) = some (u8s D).toArray.size) := by show _ = _; rw [info35]; simp [u8s, HDL.out]
  have OD : Hid ((u8s (List.replicate 32 0)).toArray.size = (u8s D).toArray.size) := by show _ = _; simp [u8s, HDL.out]
  go_enter Tryd.func8, Tryd.ntmps8
  go_upto_region 1 with fail
  rw [← u8s_zeros]
  have B1 : Hid (Below w.heap.size w (w.alloc Z32)) := (Below.refl _ _).alloc (Nat.le_refl _) _
  have R1 := hide (Arr.new w 25 (u8s (List.replicate 32 0)))
  generalize w.alloc Z32 = w1 at *
  go_cut [5] (fun s5 wx => ∃ b, s5 = .pointer (some ⟨b, 0, none⟩) ∧ w.heap.size ≤ b ∧ Arr wx b 39 (u8s KB) ∧ Arr wx w.heap.size 25 (u8s (List.replicate 32 0)) ∧ Below w.heap.size w wx)
  case first =>
    go_wp2_with fail
    refine (HBK.out w1 B1.out).mono ?_
    rintro e w2 ⟨rfl, hb2⟩
    have R2 := hide (R1.out.kept hb2)
    have B2 : Hid (Below w.heap.size w w2) := B1.out.trans (hb2.mono B1.out.size)
    clear hb2 R1 B1 HBK
    go_wp2_with (refine wpList_store_row rfl 39 _ _ rfl w2.heap.size (u8s KB).toArray rfl rfl 39 (u8s (List.replicate 64 0)).toArray (heap_at w2 _ _ rfl) IK.out OK.out (all_u8s _) ?_)
    go_meet
    case rel =>
      have hlt := R2.out.lt
      exact ⟨w2.heap.size, rfl, Nat.le_of_lt hlt, (Arr.new w2 39 (u8s (List.replicate 64 0))).row _, (R2.out.alloc _).rowOther _ _ (Nat.ne_of_lt hlt), below_setRow (B2.out.alloc B2.out.size _) B2.out.size (by simp) _⟩
  case rest =>
    clear R1 B1 HBK OK
    obtain ⟨b, rfl, hwb, hb, hR, hB⟩ := hcut
    have HBA := hide hb
    have HR := hide hR
    have HB := hide hB
    clear hb hR hB
    go_wp2_with (refine wpList_load_row rfl 39 _ rfl b rfl 39 _ (0, 0) _ HBA.out Tryd.underlying39 rfl IK.out ?_)
    refine (HG1.out wc HB.out).mono ?_
    rintro e w3 ⟨X, rfl, hX, hM, hb3⟩
    have M3 := hide hM
    have A3 := hide (HBA.out.kept hb3)
    have R3 := hide (HR.out.kept hb3)
    have B3 : Hid (Below w.heap.size w w3) := HB.out.trans (hb3.mono HB.out.size)
    have HWX : Hid (w.heap.size ≤ X) := Nat.le_trans HB.out.size hX
    clear hM hb3 hX HBA HR HB HG1
    go_wp2
    go_loopg [17, 8] (k + 1) (fun f s17 _ wr => ∃ (i : Nat), s17 = .int .i64 i ∧ i ≤ k ∧ k - i < f ∧ MadeH wr X (XI ++ J i) ∧ Arr wr b 39 (u8s KB) ∧ Arr wr w.heap.size 25 (u8s (List.replicate 32 0)) ∧ Below w.heap.size w wr)
    case atStart => exact ⟨0, rfl, by omega, by omega, by rw [HJ0.out, List.append_nil]; exact M3.out, A3.out, R3.out, B3.out⟩
    case round =>
      clear M3 A3 R3 B3
      obtain ⟨i, rfl, hi, hf, hM, hA, hR, hB⟩ := hrel
      have HM := hide hM
      have HA := hide hA
      have HR := hide hR
      have HB := hide hB
      clear hM hA hR hB
      by_cases hik : i < k
      · rcases HSL.out with h0 | ⟨q, o, rfl, hcell⟩
        · omega
        have hq := hcell i hik
        have hq' := (HB.out.cell (block_lt_of_cell hq)).trans hq
        have HPI := hide (HPC.out i hik)
        have HW := hide (write_any X (XI ++ J i) (P i) (C i) (B i) wr HM.out (HPI.out.1.kept HB.out) HPI.out.2.1 (fun a ha hne => by have h1 := bi_lt HPI.out.1 hne a ha; have h2 := HWX.out; omega) HPI.out.2.2.1 HPI.out.2.2.2.1 HPI.out.2.2.2.2
          (by have h1 := HJM.out (i + 1) (by omega); rw [HJS.out, List.length_append] at h1; rw [List.length_append, HX1.out]; omega) (HLB.out wr HB.out) (by have := HWX.out; omega))
        clear hq hcell HPI
        have hik' : (i : Int) < (k : Int) := by omega
        go_wp2_with fail
        refine HW.out.mono ?_
        rintro e w5 ⟨rfl, hX5, hg5⟩
        rw [List.append_assoc, ← HJS.out] at hX5
        have X5 := hide hX5
        have A5 := hide (HA.out.grown' hg5 (Ne.symm (made_ne_arr HM.out HA.out (by decide))))
        have R5 := hide (HR.out.grown' hg5 (Ne.symm (made_ne_arr HM.out HR.out (by decide))))
        have B5 : Hid (Below w.heap.size w w5) := HB.out.grown hg5 HB.out.size (by intro k hk; cases hk; exact HWX.out)
        clear hX5 hg5 HW hq' HM HA HR HB
        go_wp2
        go_roundg (k - i)
        case measure => omega
        case rel => exact ⟨i + 1, by go_num, by omega, by omega, X5.out, A5.out, R5.out, B5.out⟩
      · have e : i = k := by omega
        subst e
        have hik' : ¬ (i : Int) < (i : Int) := by omega
        go_upto_region 8 with fail
        go_cut [9] (fun s9 wx => ∃ d, s9 = .pointer (some ⟨d, 0, none⟩) ∧ Arr wx d 25 (u8s D1) ∧ w.heap.size < d ∧ Arr wx b 39 (u8s KB) ∧ Arr wx w.heap.size 25 (u8s (List.replicate 32 0)) ∧ Below w.heap.size w wx)
        case first =>
          go_wp2_with fail
          refine (HSM1.out wr X HM.out HB.out).mono ?_
          rintro e w6 ⟨rfl, hb6⟩
          have A6 := hide (HA.out.kept hb6)
          have R6 := hide (HR.out.kept hb6)
          have B6 : Hid (Below w.heap.size w w6) := HB.out.trans (hb6.mono HB.out.size)
          clear hb6 HM HA HR HB HSM1
          go_wp2_with (refine wpList_store_row rfl 25 _ _ rfl w6.heap.size (u8s D1).toArray rfl rfl 25 (u8s (List.replicate 32 0)).toArray (heap_at w6 _ _ rfl) I1.out O1.out (all_u8s _) ?_)
          go_meet
          case rel =>
            have h1 := A6.out.lt
            have h2 := R6.out.lt
            exact ⟨w6.heap.size, rfl, (Arr.new w6 25 (u8s (List.replicate 32 0))).row _, h2, (A6.out.alloc _).rowOther _ _ (Nat.ne_of_lt h1), (R6.out.alloc _).rowOther _ _ (Nat.ne_of_lt h2), below_setRow (B6.out.alloc B6.out.size _) B6.out.size (by simp) _⟩
        case rest =>
          clear HM HA HR HB HSM1
          obtain ⟨d, rfl, hd, hwd, hA, hR, hB⟩ := hcut
          have HD := hide hd
          have HA := hide hA
          have HR := hide hR
          have HB := hide hB
          clear hd hA hR hB
          go_wp2_with (refine wpList_load_row rfl 39 _ rfl b rfl 39 _ (0, 0) _ HA.out Tryd.underlying39 rfl IK.out ?_)
          refine (HG2.out wc HB.out).mono ?_
          rintro e w7 ⟨X2, rfl, hX2, hM7, hb7⟩
          have M7 := hide hM7
          have D7 := hide (HD.out.kept hb7)
          have R7 := hide (HR.out.kept hb7)
          have B7 : Hid (Below w.heap.size w w7) := HB.out.trans (hb7.mono HB.out.size)
          have HWX2 : Hid (w.heap.size ≤ X2) := Nat.le_trans HB.out.size hX2
          have hdX : Hid (d ≠ X2) := Nat.ne_of_lt (Nat.lt_of_lt_of_le HD.out.lt hX2)
          clear hM7 hb7 hX2 HD HA HR HB HG2
          have P7 := hide (piece_arr D7.out HD1L.out HD1B.out (by omega))
          have HW := hide (write_any X2 XO (some ⟨d, 0, none⟩) 32 D1 w7 M7.out P7.out.1 P7.out.2.1 (fun a ha _ => by cases ha; exact hdX.out) P7.out.2.2.1 P7.out.2.2.2.1 P7.out.2.2.2.2 (by rw [HX2.out, HD1L.out]; omega) (HLB.out w7 B7.out) (by have := HWX2.out; omega))
          rw [HD1L.out] at HW
          have hsl := fun v => run_all32 v d
          go_wp2_with fail
          refine HW.out.mono ?_
          rintro e w8 ⟨rfl, hX8, hg8⟩
          have M8 := hide hX8
          have R8 := hide (R7.out.grown' hg8 (Ne.symm (made_ne_arr M7.out R7.out (by decide))))
          have B8 : Hid (Below w.heap.size w w8) := B7.out.grown hg8 B7.out.size (by intro k hk; cases hk; exact HWX2.out)
          clear hX8 hg8 HW P7 M7 D7 R7 B7 hsl
          go_wp2_with fail
          refine (HSM2.out w8 X2 M8.out B8.out).mono ?_
          rintro e w9 ⟨rfl, hb9⟩
          have R9 := hide (R8.out.kept hb9)
          have B9 : Hid (Below w.heap.size w w9) := B8.out.trans (hb9.mono B8.out.size)
          clear hb9 M8 R8 B8 HSM2
          go_wp2_with (refine wpList_store_row rfl 25 _ _ rfl w.heap.size _ rfl rfl 25 _ R9.out ID.out OD.out (all_u8s _) ?_)
          exact bodyPost_ret (v := .agg (u8s D).toArray) (results_cell_row Tryd.results8 _ _ w.heap.size 25 _ (0, 0) _ rfl (R9.out.row _) Tryd.underlying25 rfl ID.out) rfl ⟨rfl, below_setRow B9.out (Nat.le_refl _) R9.out.lt _⟩

end Go.Proofs.YtfopjobcjafgaabDoor
