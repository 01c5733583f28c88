/-
  Several texts, joined: MC, MD, ME, MO.
-/
import Derived.Test.YtbmjlofehbbkbaaDoorJF

/- Walks: begun: a hash that has a key's block, each byte turned. -/
namespace Go.Proofs.YtbmjlofehbbkbaaDoor
open Go.RowKit

theorem info64 : (Tryd.prog.info? 105).map (·.size) = some 64 := by kernel_rfl

theorem run_all64 (w : World) (g : Nat) : (Instr.sliceAt 105 (.pointer (some ⟨g, 0, none⟩)) none none none).run Tryd.prog w = .ok (.slice (some ⟨g, 0, none⟩) 64 64) w := by
  have hl : Tryd.prog.arrayLen 105 = 64 := by simp [Program.arrayLen, Tryd.underlying105]
  have he : Tryd.prog.elem 105 = 5 := by simp [Program.elem, Tryd.underlying105]
  have ht : Tryd.prog.underlying 105 = some (.array (Tryd.prog.arrayLen 105) (Tryd.prog.elem 105)) := by rw [hl, he]; exact Tryd.underlying105
  rw [run_sliceAt_array_all w 105 ⟨g, 0, none⟩ ht, he, size5, hl]
  simp [Result.andThen, slicedAt, Addr.add_mid]

theorem run_all32 (w : World) (g : Nat) : (Instr.sliceAt 23 (.pointer (some ⟨g, 0, none⟩)) none none none).run Tryd.prog w = .ok (.slice (some ⟨g, 0, none⟩) 32 32) w := by
  have hl : Tryd.prog.arrayLen 23 = 32 := by simp [Program.arrayLen, Tryd.underlying23]
  have he : Tryd.prog.elem 23 = 5 := by simp [Program.elem, Tryd.underlying23]
  have ht : Tryd.prog.underlying 23 = some (.array (Tryd.prog.arrayLen 23) (Tryd.prog.elem 23)) := by rw [hl, he]; exact Tryd.underlying23
  rw [run_sliceAt_array_all w 23 ⟨g, 0, none⟩ ht, he, size5, hl]
  simp [Result.andThen, slicedAt, Addr.add_mid]

/-- an array of bytes, as bytes that are handed on -/
theorem bi_arr {w : World} {g : Nat} {t : TypeId} {l : List Nat} (h : Arr w g t (u8s l)) : BI w (some ⟨g, 0, none⟩) l :=
  Or.inr ⟨g, 0, rfl, fun i hi => by rw [Nat.zero_add]; exact (h.cell i).trans (u8s_at hi)⟩
theorem piece_arr {w : World} {g : Nat} {t : TypeId} {l : List Nat} {n : Nat} (h : Arr w g t (u8s l)) (hl : l.length = n) (hb : BytesN l) (hn : n ≤ 1000) : Piece w (some ⟨g, 0, none⟩) n l :=
  ⟨bi_arr h, (fun e => by cases e), hb, by omega, by unfold maxLen; omega⟩

set_option maxHeartbeats 4000000 in
set_option maxRecDepth 100000 in
theorem begun_any (b : List Nat) (x : Nat) (w : World) (hl : b.length = 64) (hb : BytesN b) (hx : x < 256) (hL : Laid w) :
    Calls Tryd.prog 51 #[.agg (u8s b).toArray, .int .u8 (x : Int)] w fun e w' => ∃ g, e = .returned (.pointer (some ⟨g, 0, none⟩)) ∧ w.heap.size ≤ g ∧ MadeH w' g (xorF b x) ∧ Below w.heap.size w w' := by
  have hL2 := hL.size
  have HL := hide hL
  have HB := hide hb
  have HXL : Hid (∀ i, i ≤ 64 → (xorTo b x i).length = 64) := fun i hi => by show _ = _; rw [xorTo_length _ _ _ (by omega), hl]
  have HXA : Hid (∀ i, i < 64 → (xorTo b x i).getD i 0 = b.getD i 0) := fun i hi => xorTo_at _ _ _ (by omega)
  have HXS : Hid (∀ i, i < 64 → (xorTo b x i).set i (b.getD i 0 ^^^ x) = xorTo b x (i + 1)) := fun i hi => xorTo_set _ _ _ (by omega)
  have HX0 := hide (xorTo_zero b x)
  have HXF := hide (xorTo_full b x)
  rw [hl] at HXF
  have HXB := hide (xorF_bytes hb hx)
  have HFL := hide (xorF_length b x)
  rw [hl] at HFL
  have HBL := hide hl
  clear hL hb hl
  generalize hxt : xorTo b x = XT at *
  generalize hxf : xorF b x = XF at *
  clear hxt hxf
  go_enter Tryd.func51, Tryd.ntmps51
  go_upto_region 1 with fail
  have A1 := hide (Arr.new w 105 (u8s b))
  have B1 : Hid (Below w.heap.size w (w.alloc (Obj.cells (u8s b).toArray 105))) := (Below.refl _ _).alloc (Nat.le_refl _) _
  generalize w.alloc (Obj.cells (u8s b).toArray 105) = w1 at *
  go_wp2
  go_loopg [7] 65 (fun f s7 wr => ∃ (i : Nat), s7 = .int .i64 i ∧ i ≤ 64 ∧ 64 - i < f ∧ Arr wr w.heap.size 105 (u8s (XT i)) ∧ Below w.heap.size w wr)
  case atStart => exact ⟨0, rfl, by omega, by omega, by rw [HX0.out]; exact A1.out, B1.out⟩
  case round =>
    clear A1 B1
    obtain ⟨i, rfl, hi, hf, hA, hB⟩ := hrel
    have HA := hide hA
    have HBW := hide hB
    clear hA hB
    by_cases hlt : i < 64
    · have hlt' : (i : Int) < 64 := by omega
      have c1 := (HA.out.cell i).trans (u8s_at (by rw [HXL.out i (by omega)]; exact hlt))
      rw [HXA.out i hlt] at c1
      have f1 := HA.out.frozen i
      have bx := u8_xor_nat (b.getD i 0) x (HB.out.getD i) hx
      have HST := hide (HA.out.set i (.int .u8 ((b.getD i 0 ^^^ x : Nat) : Int)))
      rw [u8s_set, HXS.out i hlt] at HST
      have hy := HB.out.getD i
      have hyx := s_xor_lt8 hy hx
      generalize b.getD i 0 = y at *
      generalize y ^^^ x = yx at *
      clear HA
      go_wp2
      go_roundg (64 - i)
      case measure => omega
      case rel => exact ⟨i + 1, by go_num, by omega, by omega, HST.out, HBW.out.setCell (Nat.le_refl _) _⟩
    · have e : i = 64 := by omega
      subst e
      have hA := HA.out
      rw [HXF.out] at hA
      have HA2 := hide hA
      clear hA HA
      have hsl := fun v => run_all64 v w.heap.size
      go_wp2_with fail
      refine (s_new_any wr (HL.out.keptB (B := w.heap.size) hL2 HBW.out)).mono ?_
      rintro e w2 ⟨rfl, hw2⟩
      have M2 := hide (show MadeH w2 wr.heap.size [] from by rw [hw2]; exact made_new)
      have A2 := hide (show Arr w2 w.heap.size 105 (u8s XF) from by rw [hw2]; exact HA2.out.alloc _)
      have B2 := hide (show Below w.heap.size w w2 from by rw [hw2]; exact HBW.out.alloc HBW.out.size _)
      have hgw : Hid (w.heap.size < wr.heap.size) := HA2.out.lt
      clear hw2 HA2 HBW
      generalize wr.heap.size = g at *
      have P2 := hide (piece_arr A2.out HFL.out HXB.out (by omega))
      have HW := hide (write_any g [] (some ⟨w.heap.size, 0, none⟩) 64 XF w2 M2.out P2.out.1 P2.out.2.1 (fun a ha _ => by cases ha; exact Nat.ne_of_lt hgw.out) P2.out.2.2.1 P2.out.2.2.2.1 P2.out.2.2.2.2 (by rw [HFL.out]; simp) (HL.out.keptB (B := w.heap.size) hL2 B2.out) (by have := hgw.out; omega))
      rw [HFL.out, List.nil_append] at HW
      go_wp2_with fail
      refine HW.out.mono ?_
      rintro e w3 ⟨rfl, hM3, hg3⟩
      have M3 := hide hM3
      have B3 : Hid (Below w.heap.size w w3) := B2.out.grown hg3 B2.out.size (by intro k hk; cases hk; exact Nat.le_of_lt hgw.out)
      clear hM3 hg3 HW M2 A2 B2 P2
      go_wp2
      go_ret
      exact ⟨g, rfl, Nat.le_of_lt hgw.out, M3.out, B3.out⟩

end Go.Proofs.YtbmjlofehbbkbaaDoor

/- A walk: block: a key's block. -/
namespace Go.Proofs.YtbmjlofehbbkbaaDoor
open Go.RowKit

/-- 'copy(b[:], key)': a key's bytes into an array of noughts -/
theorem copy_key (wr : World) (H : Nat) (a : Option Addr) (key : List Nat) (cap : Nat) (hA : Arr wr H 105 (u8s (List.replicate 64 0))) (hk : key.length ≤ 64) (hP : Piece wr a cap key) :
    ∃ w', (Builtin.copy_ #[42, 42] 3 #[.slice (some ⟨H, 0, none⟩) 64 64, .slice a key.length cap]).run Tryd.prog wr = .ok (.int .i64 (key.length : Int)) w' ∧ Arr w' H 105 (u8s (key ++ List.replicate (64 - key.length) 0)) ∧ wr.grownBy w' (some H) := by
  have e : (u8s (List.replicate 64 0)).toArray.toList.take 0 ++ u8s key ++ (u8s (List.replicate 64 0)).toArray.toList.drop (0 + key.length) = u8s (key ++ List.replicate (64 - key.length) 0) := by
    show u8s key ++ (u8s (List.replicate 64 0)).drop (0 + key.length) = _
    rw [Nat.zero_add, u8s, u8s, u8s, ← List.map_drop, ← List.map_append, List.drop_replicate]
  cases a with
  | none =>
    have h0 : key = [] := by
      have h1 := hP.2.1 rfl
      have h2 := hP.2.2.2.1
      exact List.eq_nil_of_length_eq_zero (by omega)
    have hc := hP.2.1 rfl
    subst h0 hc
    exact ⟨wr, run_copy_nil (P := Tryd.prog) wr 42 42 3 5 ⟨H, 0, none⟩ 64 64 Tryd.underlying42 (by rw [info8]; rfl), hA, grown_refl _ _⟩
  | some ad =>
    have hlen : (u8s key).length = key.length := by simp [u8s]
    have hmin : Nat.min key.length 64 = key.length := Nat.min_eq_left hk
    have h := run_copy_row (P := Tryd.prog) wr 42 42 3 5 H 0 64 64 ad key.length cap (u8s (List.replicate 64 0)).toArray 105 (u8s key) Tryd.underlying42 info8 hA (by rw [hlen]; exact hmin.symm)
      (fun j v hv => by
        have hj : j < key.length := by have := (List.getElem?_eq_some_iff.1 hv).1; simpa [u8s] using this
        rw [u8s_at hj] at hv
        cases hv
        rcases hP.1 with h0 | ⟨g, o, hp, hc⟩
        · subst h0; simp at hj
        · cases hp
          rw [Addr.add_mid]
          exact hc j hj)
      (by rw [hlen]; simp [u8s]; omega) (one_mem _)
    rw [hlen, e] at h
    exact ⟨_, h, hA.row _, grown_row _ H _⟩

set_option maxHeartbeats 4000000 in
set_option maxRecDepth 100000 in
theorem block_key (p : Option Addr) (c : Nat) (key : List Nat) (w : World) (hP : Piece w p c key) (hk : key.length ≤ 100000) (hL : Laid w) :
    Calls Tryd.prog 50 #[.slice p key.length c] w fun e w' => e = .returned (.agg (u8s (kblockF key)).toArray) ∧ Below w.heap.size w w' := by
  have hL2 := hL.size
  have HL := hide hL
  have HP := hide hP
  have HKL := hide (kblockF_length key)
  have HS := hide (fun (v : World) (hb : Below w.heap.size w v) => ssum_one p c key (sumF key) v (hP.kept hb) hk (hL.keptB (B := w.heap.size) hL2 hb) (Nat.le_trans hL2 hb.size) rfl)
  have HLong : Hid (64 < key.length → kblockF key = sumF key ++ List.replicate (64 - (sumF key).length) 0) := fun h => by rw [kblockF_long h, sumF_length]
  have HShort : Hid (¬ 64 < key.length → kblockF key = key ++ List.replicate (64 - key.length) 0) := fun h => kblockF_short h
  have DL := hide (sumF_length key)
  have DB := hide (sumF_bytes key)
  clear hP hL
  have ID : Hid ((Tryd.prog.info? 23).map (·.size) = some (u8s (sumF key)).toArray.size) := by show _ = _; rw [info35]; simp [u8s, DL.out]
  have OD : Hid ((u8s (List.replicate 32 0)).toArray.size = (u8s (sumF key)).toArray.size) := by show _ = _; simp [u8s, DL.out]
  have IK : Hid ((Tryd.prog.info? 105).map (·.size) = some (u8s (kblockF key)).toArray.size) := by show _ = _; rw [info64]; simp [u8s, HKL.out]
  have OK : Hid ((u8s (List.replicate 64 0)).toArray.size = (u8s (kblockF key)).toArray.size) := by show _ = _; simp [u8s, HKL.out]
  generalize hkb : kblockF key = KB at *
  generalize sumF key = D at *
  clear hkb
  generalize hn : key.length = n at *
  have HN := hide hn
  clear hn
  go_enter Tryd.func50, Tryd.ntmps50
  go_upto_region 1 with fail
  go_cut [3] (fun s3 wx => s3 = .pointer (some ⟨w.heap.size + 1, 0, none⟩) ∧ Arr wx w.heap.size 105 (u8s (List.replicate 64 0)) ∧ Arr wx (w.heap.size + 1) 105 (u8s (List.replicate 64 0)) ∧ Below w.heap.size w wx)
  case first =>
    go_wp2
    go_meet
    case rel => exact ⟨rfl, (Arr.new w 105 (u8s (List.replicate 64 0))).alloc _, Arr.newAt (w.alloc _) 105 (u8s (List.replicate 64 0)) _ (by simp), ((Below.refl _ _).alloc (Nat.le_refl _) _).alloc (by simp) _⟩
  case rest =>
    obtain ⟨rfl, hR, hX, hB⟩ := hcut
    have HR := hide hR
    have HX := hide hX
    have HB := hide hB
    clear hR hX hB
    go_upto_if 7 with fail
    go_cut [0, 4] (fun s0 _ wx => ∃ (q : Option Addr) (cq : Nat) (kk : List Nat), s0 = .slice q kk.length cq ∧ Hid (Piece wx q cq kk) ∧ kk.length ≤ 64 ∧ Hid (KB = kk ++ List.replicate (64 - kk.length) 0) ∧ Hid (Arr wx w.heap.size 105 (u8s (List.replicate 64 0))) ∧ Hid (Arr wx (w.heap.size + 1) 105 (u8s (List.replicate 64 0))) ∧ Hid (Below w.heap.size w wx))
    case first =>
      by_cases hbig : 64 < n
      · have hbig' : (64 : Int) < (n : Int) := by omega
        have hsl := fun v => run_all32 v
        go_wp2_with fail
        refine (HS.out wc HB.out).mono ?_
        rintro e w9 ⟨rfl, hb9⟩
        have R9 := hide (HR.out.kept hb9)
        have X9 := hide (HX.out.kept hb9)
        have B9 : Hid (Below w.heap.size w w9) := HB.out.trans (hb9.mono HB.out.size)
        clear hb9 HR HX HB
        go_wp2_with (refine wpList_store_row rfl 23 _ _ rfl w9.heap.size (u8s D).toArray rfl rfl 23 (u8s (List.replicate 32 0)).toArray (heap_at w9 _ _ rfl) ID.out OD.out (all_u8s _) ?_)
        go_meet
        case rel =>
          have hlt1 := R9.out.lt
          have hlt2 := X9.out.lt
          have hD := (Arr.new w9 23 (u8s (List.replicate 32 0))).row (u8s D).toArray
          refine ⟨some ⟨w9.heap.size, 0, none⟩, 32, D, by rw [DL.out], piece_arr hD DL.out DB.out (by omega), by rw [DL.out]; omega, HLong.out hbig, ?_, ?_, ?_⟩
          · exact (R9.out.alloc _).rowOther _ _ (Nat.ne_of_lt hlt1)
          · exact (X9.out.alloc _).rowOther _ _ (Nat.ne_of_lt hlt2)
          · exact below_setRow (B9.out.alloc B9.out.size _) B9.out.size (by simp) _
      · have hbig' : ¬ (64 : Int) < (n : Int) := by omega
        go_wp2
        go_meet
        case rel => exact ⟨p, c, key, by rw [HN.out], HP.out.kept HB.out, by rw [HN.out]; omega, by have h := HShort.out hbig; rw [← HN.out] at h; exact h, HR, HX, HB⟩
    case rest =>
      clear HR HX HB HS HLong HShort ID OD DL DB HP
      obtain ⟨q, cq, kk, rfl, hp, hk64, hkb, hr, hx, hb⟩ := hcut
      have hsl := fun v => run_all64 v (w.heap.size + 1)
      obtain ⟨w5, hcp, hA5, hg5⟩ := copy_key wc (w.heap.size + 1) q kk cq hx.out hk64 hp.out
      rw [← hkb.out] at hA5
      have X5 := hide hA5
      have R5 := hide (hr.out.grown' hg5 (by omega))
      have B5 : Hid (Below w.heap.size w w5) := hb.out.grown hg5 hb.out.size (by intro k hk; cases hk; omega)
      clear hA5 hg5 hr hx hb hkb hp
      go_wp2_with (first
        | (refine wpList_load_row rfl 105 _ rfl (w.heap.size + 1) rfl 105 _ (0, 0) _ X5.out Tryd.underlying105 rfl IK.out ?_)
        | (refine wpList_store_row rfl 105 _ _ rfl w.heap.size _ rfl rfl 105 _ R5.out IK.out OK.out (all_u8s _) ?_))
      exact bodyPost_ret (v := .agg (u8s KB).toArray) (results_cell_row Tryd.results50 _ _ w.heap.size 105 _ (0, 0) _ rfl (R5.out.row _) Tryd.underlying105 rfl IK.out) rfl ⟨rfl, below_setRow B5.out (Nat.le_refl _) R5.out.lt _⟩

end Go.Proofs.YtbmjlofehbbkbaaDoor

/- A walk: Of: the mark, under a key, of all pieces, one behind the other. -/
namespace Go.Proofs.YtbmjlofehbbkbaaDoor
open Go.RowKit

set_option maxHeartbeats 8000000 in
set_option maxRecDepth 100000 in
theorem of_any (p : Option Addr) (c : Nat) (key : List Nat) (sp : Option Addr) (k cc : Nat) (P : Nat → Option Addr) (C : Nat → Nat) (B : Nat → List Nat) (D : List Nat) (w : World)
    (hP : Piece w p c key) (hkl : key.length ≤ 100000)
    (hsl : k = 0 ∨ ∃ q o, sp = some ⟨q, o, none⟩ ∧ ∀ i, i < k → w.cell? ⟨q, o + i, none⟩ = some (.slice (P i) (B i).length (C i)))
    (hpc : ∀ i, i < k → Piece w (P i) (C i) (B i)) (htot : (joinF B k).length ≤ 90000) (hk : k ≤ 100000) (hL : Laid w) (hD : macF key (joinF B k) = D) :
    Calls Tryd.prog 39 #[.slice p key.length c, .slice sp k cc] w fun e w' => e = .returned (.agg (u8s D).toArray) ∧ Below w.heap.size w w' := by
  have hL2 := hL.size
  have HLB : Hid (∀ v, Below w.heap.size w v → Laid v) := fun v hb => hL.keptB (B := w.heap.size) hL2 hb
  have HPC := hide hpc
  have HSL := hide hsl
  have hKL := kblockF_length key
  have hKB := kblockF_bytes hP.2.2.1
  have HBK := hide (fun (v : World) (hb : Below w.heap.size w v) => block_key p c key v (hP.kept hb) hkl (HLB.out v hb))
  have HG1 := hide (fun (v : World) (hb : Below w.heap.size w v) => begun_any (kblockF key) 54 v hKL hKB (by omega) (HLB.out v hb))
  have HG2 := hide (fun (v : World) (hb : Below w.heap.size w v) => begun_any (kblockF key) 92 v hKL hKB (by omega) (HLB.out v hb))
  rw [show ((54 : Nat) : Int) = 54 from rfl] at HG1
  rw [show ((92 : Nat) : Int) = 92 from rfl] at HG2
  have hx1 : (xorF (kblockF key) 54).length = 64 := by rw [xorF_length, hKL]
  have hx2 : (xorF (kblockF key) 92).length = 64 := by rw [xorF_length, hKL]
  have hs1 := sumF_length (xorF (kblockF key) 54 ++ joinF B k)
  have HSM1 := hide (fun (v : World) (g : Nat) (h1 : MadeH v g (xorF (kblockF key) 54 ++ joinF B k)) (hb : Below w.heap.size w v) => hsum_of (.pointer (some ⟨g, 0, none⟩)) (xorF (kblockF key) 54 ++ joinF B k) (sumF (xorF (kblockF key) 54 ++ joinF B k)) v (Or.inl ⟨g, rfl, h1⟩) (by rw [List.length_append, hx1]; omega) (HLB.out v hb) rfl)
  have HSM2 := hide (fun (v : World) (g : Nat) (h1 : MadeH v g (xorF (kblockF key) 92 ++ sumF (xorF (kblockF key) 54 ++ joinF B k))) (hb : Below w.heap.size w v) => hsum_of (.pointer (some ⟨g, 0, none⟩)) (xorF (kblockF key) 92 ++ sumF (xorF (kblockF key) 54 ++ joinF B k)) D v (Or.inl ⟨g, rfl, h1⟩) (by rw [List.length_append, hx2, hs1]; omega) (HLB.out v hb) hD)
  have hD1b := sumF_bytes (xorF (kblockF key) 54 ++ joinF B k)
  have hDl : D.length = 32 := by rw [← hD]; exact macF_length _ _
  have HKL := hide hKL
  have HJM : Hid (∀ i, i ≤ k → (joinF B i).length ≤ 90000) := fun i hi => Nat.le_trans (joinF_mono B hi) htot
  have HJS : Hid (∀ i, joinF B (i + 1) = joinF B i ++ B i) := fun i => rfl
  have HJ0 : Hid (joinF B 0 = []) := rfl
  have HX1 := hide hx1
  have HX2 := hide hx2
  have HD1L := hide hs1
  have HD1B := hide hD1b
  have HDL := hide hDl
  clear hpc hsl hL htot hD hKL hKB hx1 hx2 hs1 hD1b hDl hP
  generalize sumF (xorF (kblockF key) 54 ++ joinF B k) = D1 at *
  generalize joinF B = J at *
  generalize xorF (kblockF key) 54 = XI at *
  generalize xorF (kblockF key) 92 = XO at *
  generalize kblockF key = KB at *
  have IK : Hid ((Tryd.prog.info? 105).map (·.size) = some (u8s KB).toArray.size) := by show _ = _; rw [info64]; simp [u8s, HKL.out]
  have OK : Hid ((u8s (List.replicate 64 0)).toArray.size = (u8s KB).toArray.size) := by show _ = _; simp [u8s, HKL.out]
  have I1 : Hid ((Tryd.prog.info? 23).map (·.size) = some (u8s D1).toArray.size) := by show _ = _; rw [info35]; simp [u8s, HD1L.out]
  have O1 : Hid ((u8s (List.replicate 32 0)).toArray.size = (u8s D1).toArray.size) := by show _ = _; simp [u8s, HD1L.out]
  have ID : Hid ((Tryd.prog.info? 23).map (·.size) = some (u8s D).toArray.size) := by show _ = _; rw [info35]; simp [u8s, HDL.out]
  have OD : Hid ((u8s (List.replicate 32 0)).toArray.size = (u8s D).toArray.size) := by show _ = _; simp [u8s, HDL.out]
  go_enter Tryd.func39, Tryd.ntmps39
  go_upto_region 1 with fail
  rw [← u8s_zeros]
  have B1 : Hid (Below w.heap.size w (w.alloc Z32)) := (Below.refl _ _).alloc (Nat.le_refl _) _
  have R1 := hide (Arr.new w 23 (u8s (List.replicate 32 0)))
  generalize w.alloc Z32 = w1 at *
  go_cut [5] (fun s5 wx => ∃ b, s5 = .pointer (some ⟨b, 0, none⟩) ∧ w.heap.size ≤ b ∧ Arr wx b 105 (u8s KB) ∧ Arr wx w.heap.size 23 (u8s (List.replicate 32 0)) ∧ Below w.heap.size w wx)
  case first =>
    go_wp2_with fail
    refine (HBK.out w1 B1.out).mono ?_
    rintro e w2 ⟨rfl, hb2⟩
    have R2 := hide (R1.out.kept hb2)
    have B2 : Hid (Below w.heap.size w w2) := B1.out.trans (hb2.mono B1.out.size)
    clear hb2 R1 B1 HBK
    go_wp2_with (refine wpList_store_row rfl 105 _ _ rfl w2.heap.size (u8s KB).toArray rfl rfl 105 (u8s (List.replicate 64 0)).toArray (heap_at w2 _ _ rfl) IK.out OK.out (all_u8s _) ?_)
    go_meet
    case rel =>
      have hlt := R2.out.lt
      exact ⟨w2.heap.size, rfl, Nat.le_of_lt hlt, (Arr.new w2 105 (u8s (List.replicate 64 0))).row _, (R2.out.alloc _).rowOther _ _ (Nat.ne_of_lt hlt), below_setRow (B2.out.alloc B2.out.size _) B2.out.size (by simp) _⟩
  case rest =>
    clear R1 B1 HBK OK
    obtain ⟨b, rfl, hwb, hb, hR, hB⟩ := hcut
    have HBA := hide hb
    have HR := hide hR
    have HB := hide hB
    clear hb hR hB
    go_wp2_with (refine wpList_load_row rfl 105 _ rfl b rfl 105 _ (0, 0) _ HBA.out Tryd.underlying105 rfl IK.out ?_)
    refine (HG1.out wc HB.out).mono ?_
    rintro e w3 ⟨X, rfl, hX, hM, hb3⟩
    have M3 := hide hM
    have A3 := hide (HBA.out.kept hb3)
    have R3 := hide (HR.out.kept hb3)
    have B3 : Hid (Below w.heap.size w w3) := HB.out.trans (hb3.mono HB.out.size)
    have HWX : Hid (w.heap.size ≤ X) := Nat.le_trans HB.out.size hX
    clear hM hb3 hX HBA HR HB HG1
    go_wp2
    go_loopg [17, 8] (k + 1) (fun f s17 _ wr => ∃ (i : Nat), s17 = .int .i64 i ∧ i ≤ k ∧ k - i < f ∧ MadeH wr X (XI ++ J i) ∧ Arr wr b 105 (u8s KB) ∧ Arr wr w.heap.size 23 (u8s (List.replicate 32 0)) ∧ Below w.heap.size w wr)
    case atStart => exact ⟨0, rfl, by omega, by omega, by rw [HJ0.out, List.append_nil]; exact M3.out, A3.out, R3.out, B3.out⟩
    case round =>
      clear M3 A3 R3 B3
      obtain ⟨i, rfl, hi, hf, hM, hA, hR, hB⟩ := hrel
      have HM := hide hM
      have HA := hide hA
      have HR := hide hR
      have HB := hide hB
      clear hM hA hR hB
      by_cases hik : i < k
      · rcases HSL.out with h0 | ⟨q, o, rfl, hcell⟩
        · omega
        have hq := hcell i hik
        have hq' := (HB.out.cell (block_lt_of_cell hq)).trans hq
        have HPI := hide (HPC.out i hik)
        have HW := hide (write_any X (XI ++ J i) (P i) (C i) (B i) wr HM.out (HPI.out.1.kept HB.out) HPI.out.2.1 (fun a ha hne => by have h1 := bi_lt HPI.out.1 hne a ha; have h2 := HWX.out; omega) HPI.out.2.2.1 HPI.out.2.2.2.1 HPI.out.2.2.2.2
          (by have h1 := HJM.out (i + 1) (by omega); rw [HJS.out, List.length_append] at h1; rw [List.length_append, HX1.out]; omega) (HLB.out wr HB.out) (by have := HWX.out; omega))
        clear hq hcell HPI
        have hik' : (i : Int) < (k : Int) := by omega
        go_wp2_with fail
        refine HW.out.mono ?_
        rintro e w5 ⟨rfl, hX5, hg5⟩
        rw [List.append_assoc, ← HJS.out] at hX5
        have X5 := hide hX5
        have A5 := hide (HA.out.grown' hg5 (Ne.symm (made_ne_arr HM.out HA.out (by decide))))
        have R5 := hide (HR.out.grown' hg5 (Ne.symm (made_ne_arr HM.out HR.out (by decide))))
        have B5 : Hid (Below w.heap.size w w5) := HB.out.grown hg5 HB.out.size (by intro k hk; cases hk; exact HWX.out)
        clear hX5 hg5 HW hq' HM HA HR HB
        go_wp2
        go_roundg (k - i)
        case measure => omega
        case rel => exact ⟨i + 1, by go_num, by omega, by omega, X5.out, A5.out, R5.out, B5.out⟩
      · have e : i = k := by omega
        subst e
        have hik' : ¬ (i : Int) < (i : Int) := by omega
        go_upto_region 8 with fail
        go_cut [9] (fun s9 wx => ∃ d, s9 = .pointer (some ⟨d, 0, none⟩) ∧ Arr wx d 23 (u8s D1) ∧ w.heap.size < d ∧ Arr wx b 105 (u8s KB) ∧ Arr wx w.heap.size 23 (u8s (List.replicate 32 0)) ∧ Below w.heap.size w wx)
        case first =>
          go_wp2_with fail
          refine (HSM1.out wr X HM.out HB.out).mono ?_
          rintro e w6 ⟨rfl, hb6⟩
          have A6 := hide (HA.out.kept hb6)
          have R6 := hide (HR.out.kept hb6)
          have B6 : Hid (Below w.heap.size w w6) := HB.out.trans (hb6.mono HB.out.size)
          clear hb6 HM HA HR HB HSM1
          go_wp2_with (refine wpList_store_row rfl 23 _ _ rfl w6.heap.size (u8s D1).toArray rfl rfl 23 (u8s (List.replicate 32 0)).toArray (heap_at w6 _ _ rfl) I1.out O1.out (all_u8s _) ?_)
          go_meet
          case rel =>
            have h1 := A6.out.lt
            have h2 := R6.out.lt
            exact ⟨w6.heap.size, rfl, (Arr.new w6 23 (u8s (List.replicate 32 0))).row _, h2, (A6.out.alloc _).rowOther _ _ (Nat.ne_of_lt h1), (R6.out.alloc _).rowOther _ _ (Nat.ne_of_lt h2), below_setRow (B6.out.alloc B6.out.size _) B6.out.size (by simp) _⟩
        case rest =>
          clear HM HA HR HB HSM1
          obtain ⟨d, rfl, hd, hwd, hA, hR, hB⟩ := hcut
          have HD := hide hd
          have HA := hide hA
          have HR := hide hR
          have HB := hide hB
          clear hd hA hR hB
          go_wp2_with (refine wpList_load_row rfl 105 _ rfl b rfl 105 _ (0, 0) _ HA.out Tryd.underlying105 rfl IK.out ?_)
          refine (HG2.out wc HB.out).mono ?_
          rintro e w7 ⟨X2, rfl, hX2, hM7, hb7⟩
          have M7 := hide hM7
          have D7 := hide (HD.out.kept hb7)
          have R7 := hide (HR.out.kept hb7)
          have B7 : Hid (Below w.heap.size w w7) := HB.out.trans (hb7.mono HB.out.size)
          have HWX2 : Hid (w.heap.size ≤ X2) := Nat.le_trans HB.out.size hX2
          have hdX : Hid (d ≠ X2) := Nat.ne_of_lt (Nat.lt_of_lt_of_le HD.out.lt hX2)
          clear hM7 hb7 hX2 HD HA HR HB HG2
          have P7 := hide (piece_arr D7.out HD1L.out HD1B.out (by omega))
          have HW := hide (write_any X2 XO (some ⟨d, 0, none⟩) 32 D1 w7 M7.out P7.out.1 P7.out.2.1 (fun a ha _ => by cases ha; exact hdX.out) P7.out.2.2.1 P7.out.2.2.2.1 P7.out.2.2.2.2 (by rw [HX2.out, HD1L.out]; omega) (HLB.out w7 B7.out) (by have := HWX2.out; omega))
          rw [HD1L.out] at HW
          have hsl := fun v => run_all32 v d
          go_wp2_with fail
          refine HW.out.mono ?_
          rintro e w8 ⟨rfl, hX8, hg8⟩
          have M8 := hide hX8
          have R8 := hide (R7.out.grown' hg8 (Ne.symm (made_ne_arr M7.out R7.out (by decide))))
          have B8 : Hid (Below w.heap.size w w8) := B7.out.grown hg8 B7.out.size (by intro k hk; cases hk; exact HWX2.out)
          clear hX8 hg8 HW P7 M7 D7 R7 B7 hsl
          go_wp2_with fail
          refine (HSM2.out w8 X2 M8.out B8.out).mono ?_
          rintro e w9 ⟨rfl, hb9⟩
          have R9 := hide (R8.out.kept hb9)
          have B9 : Hid (Below w.heap.size w w9) := B8.out.trans (hb9.mono B8.out.size)
          clear hb9 M8 R8 B8 HSM2
          go_wp2_with (refine wpList_store_row rfl 23 _ _ rfl w.heap.size _ rfl rfl 23 _ R9.out ID.out OD.out (all_u8s _) ?_)
          exact bodyPost_ret (v := .agg (u8s D).toArray) (results_cell_row Tryd.results39 _ _ w.heap.size 23 _ (0, 0) _ rfl (R9.out.row _) Tryd.underlying23 rfl ID.out) rfl ⟨rfl, below_setRow B9.out (Nat.le_refl _) R9.out.lt _⟩

end Go.Proofs.YtbmjlofehbbkbaaDoor

/- The mark of none, one, two, three pieces; bytes of a block. -/
namespace Go.Proofs.YtbmjlofehbbkbaaDoor
open Go.RowKit

def two {α : Type} (a b : α) : Nat → α
  | 0 => a
  | _ => b

theorem of_none (p : Option Addr) (c : Nat) (key D : List Nat) (v : World) (hP : Piece v p c key) (hk : key.length ≤ 100000) (hL : Laid v) (hD : macF key [] = D) :
    Calls Tryd.prog 39 #[.slice p key.length c, .slice none 0 0] v fun e w' => e = .returned (.agg (u8s D).toArray) ∧ Below v.heap.size v w' :=
  of_any p c key none 0 0 (fun _ => none) (fun _ => 0) (fun _ => []) D v hP hk (Or.inl rfl) (fun i hi => absurd hi (Nat.not_lt_zero _)) (by simp [joinF]) (by omega) hL hD

theorem of_one (p : Option Addr) (c : Nat) (key : List Nat) (q cc : Nat) (p1 : Option Addr) (c1 : Nat) (x1 D : List Nat) (v : World) (hP : Piece v p c key) (hk : key.length ≤ 100000)
    (h1 : Piece v p1 c1 x1) (hs : x1.length ≤ 90000) (hq0 : v.cell? ⟨q, 0, none⟩ = some (.slice p1 x1.length c1)) (hL : Laid v) (hD : macF key x1 = D) :
    Calls Tryd.prog 39 #[.slice p key.length c, .slice (some ⟨q, 0, none⟩) 1 cc] v fun e w' => e = .returned (.agg (u8s D).toArray) ∧ Below v.heap.size v w' :=
  of_any p c key (some ⟨q, 0, none⟩) 1 cc (fun _ => p1) (fun _ => c1) (fun _ => x1) D v hP hk (Or.inr ⟨q, 0, rfl, fun i hi => by
    have : i = 0 := by omega
    subst this
    exact hq0⟩) (fun _ _ => h1) (by simpa [joinF] using hs) (by omega) hL (by simpa [joinF] using hD)

theorem of_two (p : Option Addr) (c : Nat) (key : List Nat) (q cc : Nat) (p1 p2 : Option Addr) (c1 c2 : Nat) (x1 x2 D : List Nat) (v : World) (hP : Piece v p c key) (hk : key.length ≤ 100000)
    (h1 : Piece v p1 c1 x1) (h2 : Piece v p2 c2 x2) (hs : x1.length + x2.length ≤ 90000) (hq0 : v.cell? ⟨q, 0, none⟩ = some (.slice p1 x1.length c1)) (hq1 : v.cell? ⟨q, 1, none⟩ = some (.slice p2 x2.length c2)) (hL : Laid v) (hD : macF key (x1 ++ x2) = D) :
    Calls Tryd.prog 39 #[.slice p key.length c, .slice (some ⟨q, 0, none⟩) 2 cc] v fun e w' => e = .returned (.agg (u8s D).toArray) ∧ Below v.heap.size v w' :=
  of_any p c key (some ⟨q, 0, none⟩) 2 cc (two p1 p2) (two c1 c2) (two x1 x2) D v hP hk (Or.inr ⟨q, 0, rfl, fun i hi => by
    match i, hi with
    | 0, _ => exact hq0
    | 1, _ => exact hq1⟩) (fun i hi => by
    match i, hi with
    | 0, _ => exact h1
    | 1, _ => exact h2) (by simp [joinF, two]; omega) (by omega) hL (by simpa [joinF, two] using hD)

theorem of_three (p : Option Addr) (c : Nat) (key : List Nat) (q cc : Nat) (p1 p2 p3 : Option Addr) (c1 c2 c3 : Nat) (x1 x2 x3 D : List Nat) (v : World) (hP : Piece v p c key) (hk : key.length ≤ 100000)
    (h1 : Piece v p1 c1 x1) (h2 : Piece v p2 c2 x2) (h3 : Piece v p3 c3 x3) (hs : x1.length + x2.length + x3.length ≤ 90000) (hq0 : v.cell? ⟨q, 0, none⟩ = some (.slice p1 x1.length c1)) (hq1 : v.cell? ⟨q, 1, none⟩ = some (.slice p2 x2.length c2)) (hq2 : v.cell? ⟨q, 2, none⟩ = some (.slice p3 x3.length c3)) (hL : Laid v) (hD : macF key (x1 ++ x2 ++ x3) = D) :
    Calls Tryd.prog 39 #[.slice p key.length c, .slice (some ⟨q, 0, none⟩) 3 cc] v fun e w' => e = .returned (.agg (u8s D).toArray) ∧ Below v.heap.size v w' :=
  of_any p c key (some ⟨q, 0, none⟩) 3 cc (three p1 p2 p3) (three c1 c2 c3) (three x1 x2 x3) D v hP hk (Or.inr ⟨q, 0, rfl, fun i hi => by
    match i, hi with
    | 0, _ => exact hq0
    | 1, _ => exact hq1
    | 2, _ => exact hq2⟩) (fun i hi => by
    match i, hi with
    | 0, _ => exact h1
    | 1, _ => exact h2
    | 2, _ => exact h3) (by simp [joinF, three]; omega) (by omega) hL (by simpa [joinF, three] using hD)

/-- bytes of a block -/
theorem piece_obj {w : World} {g n : Nat} {l : List Nat} {fr : Nat × Nat} (h : w.heap[g]? = some (.cells (u8s l).toArray 5 fr)) (hn : l.length = n) (hb : BytesN l) (hl : n ≤ 1000) : Piece w (some ⟨g, 0, none⟩) n l :=
  ⟨Or.inr ⟨g, 0, rfl, fun i hi => by rw [Nat.zero_add, cell_of_row _ _ _ _ _ _ h]; simpa using u8s_at hi⟩, (fun e => by cases e), hb, by omega, by unfold maxLen; omega⟩

end Go.Proofs.YtbmjlofehbbkbaaDoor
