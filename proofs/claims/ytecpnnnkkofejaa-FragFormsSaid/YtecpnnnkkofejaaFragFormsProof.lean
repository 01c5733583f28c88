/-
  FragForms: the form of any piece is the document's, or refused alike; any bytes are a piece, or refused alike; and a form is read as the piece: the law returns true. No condition.
-/
import Derived.Test.YtecpnnnkkofejaaGV
import Derived.Test.YtecpnnnkkofejaaBT
namespace Go.Proofs.Ytecpnnnkkofejaa
namespace FragFormsProof
open Go.ChangeShapes Go.WideShapes Go.ChangeAt Go.WideMaps Go.WideElems Go.RowKit Go.Maps
set_option linter.unusedVariables false
set_option linter.unusedSimpArgs false

set_option maxHeartbeats 4000000 in
set_option maxRecDepth 100000 in
theorem walk_of (x M : Pc) (n c c2 : Nat) (E G : Int) (q p2 : Option Addr) (b : List Nat) (w : World) (hx : PcIn w x q c) (hb : Piece w p2 c2 b) (hn : b.length = n) (hlt : ∀ a, p2 = some a → a.block < w.heap.size) (hE : x.e = E) (hM : pcRead b = (M, G)) :
    Calls Try.prog 3 #[pcV x q c, .slice p2 n c2] w fun e w' => e = .returned (.bool true) ∧ Below w.heap.size w w' := by
  have A1 := hide (And.intro (pc_box w x q c) (And.intro (hx.2.2.kept (pc_box w x q c).2) (hb.kept (pc_box w x q c).2)))
  have HXI := hide hx.1
  have HL := hide hlt
  have HN := hide hn
  have HK := hide (fun v => known_any v)
  have HE := hide hE
  have HM := hide hM
  clear hx hb hlt hn hE hM
  go_enter Try.func3, Try.ntmps3
  go_upto_region 1 with fail
  generalize w.alloc (Obj.cells #[.int .u64 (x.i : Int), .int .i64 x.a, .bool x.l, .slice q x.b.length c] 25) = w1 at *
  go_wp2_with fail
  refine (HK.out w1).mono ?_
  rintro e w2 ⟨rfl, hb⟩
  have A2 := hide (And.intro (A1.out.1.1.kept hb) (And.intro (A1.out.1.2.trans (hb.mono A1.out.1.2.size)) (And.intro (A1.out.2.1.kept hb) (A1.out.2.2.kept hb))))
  clear hb A1 HK
  have c3 := A2.out.1.cell 3
  simp only [List.getElem?_cons_zero, List.getElem?_cons_succ] at c3
  by_cases hb1 : (3000 : Int) < (x.b.length : Int)
  · go_wp2
    go_ret
    exact ⟨rfl, A2.out.2.1⟩
  by_cases hb2 : (3000 : Int) < (n : Int)
  · go_wp2
    go_ret
    exact ⟨rfl, A2.out.2.1⟩
  have hn3 : n ≤ 3000 := by omega
  have RP := hide (fun (v : World) (h : Piece v p2 c2 b) => pread_any b n p2 c2 v h HN.out (by omega))
  have RR := hide (fun (v : World) (h : Piece v p2 c2 b) (hl : ∀ a, p2 = some a → a.block < v.heap.size) => rpread_any b n p2 c2 v h HN.out (by omega) hl)
  rw [HM.out] at RP RR
  simp only at RP RR
  by_cases h0 : E = 0
  · subst h0
    have FN := hide (fun (v : World) (h : Piece v q c x.b) => pform_any x q c v HE.out HXI.out h)
    have FM := hide (fun v => rpmay_any x q c v)
    have FR := hide (fun (v : World) (h : Piece v q c x.b) => rpform_any x q c v HE.out HXI.out h)
    have RX := hide (fun (v : World) (qq : Option Addr) (dd : Nat) (h : Piece v qq dd x.form) => pread_any x.form x.form.length qq dd v h rfl (by
      have h1 := nm_short x.i; have h2 := nm_short x.n; have h3 := (Pc.e_zero HE.out).2.2
      have h4 : x.form.length = (nmF x.i).length + (nmF x.n).length + x.b.length := by simp [Pc.form]; omega
      omega))
    rw [HE.out] at FM
    simp only [read_form x HE.out HXI.out] at RX
    have HFB : Hid (BytesN x.form) := bytes_append (bytes_append (nm_bytes _) (nm_bytes _)) A2.out.2.2.1.2.2.1
    obtain ⟨fl, hfl⟩ : ∃ fl, x.form.length = fl := ⟨_, rfl⟩
    have HFL := hide hfl
    rw [hfl] at FN FR RX
    clear hfl
    go_wp2_with (refine wpList_exec (by rfl) _ (exec_load_all 25 (.tmp 2) rfl w.heap.size rfl 25 (pcC x q c) _ A2.out.1 Try.underlying25 rfl infoPc) ?_)
    refine (FN.out w2 A2.out.2.2.1).mono ?_
    rintro e w3 ⟨v3, rfl, ho, hb⟩
    obtain ⟨fp, fd, rfl, hfp, _⟩ := own_piece_n ho HFL.out HFB.out
    have A3 := hide (And.intro (A2.out.1.kept hb) (And.intro (A2.out.2.1.trans (hb.mono A2.out.2.1.size)) (And.intro (A2.out.2.2.1.kept hb) (And.intro (A2.out.2.2.2.kept hb) hfp))))
    clear ho hb hfp A2 FN
    go_wp2_with (refine wpList_exec (by rfl) _ (exec_load_all 25 (.tmp 2) rfl w.heap.size rfl 25 (pcC x q c) _ A3.out.1 Try.underlying25 rfl infoPc) ?_)
    refine (FM.out w3).mono ?_
    rintro e w4 ⟨rfl, hb⟩
    have A4 := hide (And.intro (A3.out.1.kept hb) (And.intro (A3.out.2.1.trans (hb.mono A3.out.2.1.size)) (And.intro (A3.out.2.2.1.kept hb) (And.intro (A3.out.2.2.2.1.kept hb) (A3.out.2.2.2.2.kept hb)))))
    clear hb A3 FM
    go_upto_region 7 with fail
    refine wp_region_held_drew (S := fun v => Hid (Below w4.heap.size w4 v)) (by kernel_rfl) (hide (Below.refl _ _).drew) (fun hHeld => ?_)
    refine take_dstH (i := 0) (d := 30) (v := ?_) rfl rfl (by kernel_rfl) (by kernel_rfl) (by kernel_rfl) (fun _ _ _ h => h) (by rfl) hHeld ?_ ?_
    rotate_left
    · intro wZ hSw; clear hSw; go_simp; first | (with_reducible rfl) | (rw [if_pos (by omega)]; with_reducible rfl) | skip
    try simp only [Act.put, List.setIfInBounds_toArray, List.set_cons_zero, List.set_cons_succ]
    refine take_dstH (i := 1) (d := 31) (v := ?_) rfl rfl (by kernel_rfl) (by kernel_rfl) (by kernel_rfl) (fun _ _ _ h => h) (by rfl) hHeld ?_ ?_
    rotate_left
    · intro wZ hSw; clear hSw; go_simp; first | (with_reducible rfl) | (rw [if_pos (by omega)]; with_reducible rfl) | skip
    try simp only [Act.put, List.setIfInBounds_toArray, List.set_cons_zero, List.set_cons_succ]
    refine take_dstH (i := 2) (d := 32) (v := ?_) rfl rfl (by kernel_rfl) (by kernel_rfl) (by kernel_rfl) (fun _ _ _ h => h) (by rfl) hHeld ?_ ?_
    rotate_left
    · intro wZ hSw; clear hSw; go_simp; first | (with_reducible rfl) | (rw [if_pos (by omega)]; with_reducible rfl) | skip
    try simp only [Act.put, List.setIfInBounds_toArray, List.set_cons_zero, List.set_cons_succ]
    refine take_dstH (i := 3) (d := 33) (v := ?_) rfl rfl (by kernel_rfl) (by kernel_rfl) (by kernel_rfl) (fun _ _ _ h => h) (by rfl) hHeld ?_ ?_
    rotate_left
    · intro wZ hSw; clear hSw; go_simp; first | (with_reducible rfl) | (rw [if_pos (by omega)]; with_reducible rfl) | skip
    try simp only [Act.put, List.setIfInBounds_toArray, List.set_cons_zero, List.set_cons_succ]
    refine take_dstH (i := 4) (d := 34) (v := ?_) rfl rfl (by kernel_rfl) (by kernel_rfl) (by kernel_rfl) (fun _ _ _ h => h) (by rfl) hHeld ?_ ?_
    rotate_left
    · intro wZ hSw; clear hSw; go_simp; first | (with_reducible rfl) | (rw [if_pos (by omega)]; with_reducible rfl) | skip
    try simp only [Act.put, List.setIfInBounds_toArray, List.set_cons_zero, List.set_cons_succ]
    refine take_dstH (i := 5) (d := 35) (v := ?_) rfl rfl (by kernel_rfl) (by kernel_rfl) (by kernel_rfl) (fun _ _ _ h => h) (by rfl) hHeld ?_ ?_
    rotate_left
    · intro wZ hSw; clear hSw; go_simp; first | (with_reducible rfl) | (rw [if_pos (by omega)]; with_reducible rfl) | skip
    try simp only [Act.put, List.setIfInBounds_toArray, List.set_cons_zero, List.set_cons_succ]
    refine take_dstH (i := 6) (d := 36) (v := ?_) rfl rfl (by kernel_rfl) (by kernel_rfl) (by kernel_rfl) (fun _ _ _ h => h) (by rfl) hHeld ?_ ?_
    rotate_left
    · intro wZ hSw; clear hSw; go_simp; first | (with_reducible rfl) | (rw [if_pos (by omega)]; with_reducible rfl) | skip
    try simp only [Act.put, List.setIfInBounds_toArray, List.set_cons_zero, List.set_cons_succ]
    refine skip_dstH (i := 7) (d := 37) rfl rfl (by kernel_rfl) (by kernel_rfl) (by kernel_rfl) (fun _ _ _ h => h) (by rfl) hHeld ?_
    try simp only [Act.put, List.setIfInBounds_toArray, List.set_cons_zero, List.set_cons_succ]
    refine skip_dstH (i := 8) (d := 38) rfl rfl (by kernel_rfl) (by kernel_rfl) (by kernel_rfl) (fun _ _ _ h => h) (by rfl) hHeld ?_
    try simp only [Act.put, List.setIfInBounds_toArray, List.set_cons_zero, List.set_cons_succ]
    refine skip_dstH (i := 9) (d := 39) rfl rfl (by kernel_rfl) (by kernel_rfl) (by kernel_rfl) (fun _ _ _ h => h) (by rfl) hHeld ?_
    try simp only [Act.put, List.setIfInBounds_toArray, List.set_cons_zero, List.set_cons_succ]
    refine take_dstH (i := 10) (d := 40) (v := ?_) rfl rfl (by kernel_rfl) (by kernel_rfl) (by kernel_rfl) (fun _ _ _ h => h) (by rfl) hHeld ?_ ?_
    rotate_left
    · intro wZ hSw; clear hSw; go_simp; first | (with_reducible rfl) | (rw [if_pos (by omega)]; with_reducible rfl) | skip
    try simp only [Act.put, List.setIfInBounds_toArray, List.set_cons_zero, List.set_cons_succ]
    refine take_dstH (i := 11) (d := 41) (v := ?_) rfl rfl (by kernel_rfl) (by kernel_rfl) (by kernel_rfl) (fun _ _ _ h => h) (by rfl) hHeld ?_ ?_
    rotate_left
    · intro wZ hSw; clear hSw; go_simp; first | (with_reducible rfl) | (rw [if_pos (by omega)]; with_reducible rfl) | skip
    try simp only [Act.put, List.setIfInBounds_toArray, List.set_cons_zero, List.set_cons_succ]
    refine take_dstH (i := 12) (d := 42) (v := ?_) rfl rfl (by kernel_rfl) (by kernel_rfl) (by kernel_rfl) (fun _ _ _ h => h) (by rfl) hHeld ?_ ?_
    rotate_left
    · intro wZ hSw; clear hSw; go_simp; first | (with_reducible rfl) | (rw [if_pos (by omega)]; with_reducible rfl) | skip
    try simp only [Act.put, List.setIfInBounds_toArray, List.set_cons_zero, List.set_cons_succ]
    refine take_dstH (i := 13) (d := 43) (v := ?_) rfl rfl (by kernel_rfl) (by kernel_rfl) (by kernel_rfl) (fun _ _ _ h => h) (by rfl) hHeld ?_ ?_
    rotate_left
    · intro wZ hSw; clear hSw; go_simp; first | (with_reducible rfl) | (rw [if_pos (by omega)]; with_reducible rfl) | skip
    try simp only [Act.put, List.setIfInBounds_toArray, List.set_cons_zero, List.set_cons_succ]
    refine take_dstH (i := 14) (d := 44) (v := ?_) rfl rfl (by kernel_rfl) (by kernel_rfl) (by kernel_rfl) (fun _ _ _ h => h) (by rfl) hHeld ?_ ?_
    rotate_left
    · intro wZ hSw; clear hSw; go_simp; first | (with_reducible rfl) | (rw [if_pos (by omega)]; with_reducible rfl) | skip
    try simp only [Act.put, List.setIfInBounds_toArray, List.set_cons_zero, List.set_cons_succ]
    refine take_dstH (i := 15) (d := 45) (v := ?_) rfl rfl (by kernel_rfl) (by kernel_rfl) (by kernel_rfl) (fun _ _ _ h => h) (by rfl) hHeld ?_ ?_
    rotate_left
    · intro wZ hSw; clear hSw; go_simp; first | (with_reducible rfl) | (rw [if_pos (by omega)]; with_reducible rfl) | skip
    try simp only [Act.put, List.setIfInBounds_toArray, List.set_cons_zero, List.set_cons_succ]
    refine take_dstH (i := 16) (d := 46) (v := ?_) rfl rfl (by kernel_rfl) (by kernel_rfl) (by kernel_rfl) (fun _ _ _ h => h) (by rfl) hHeld ?_ ?_
    rotate_left
    · intro wZ hSw; clear hSw; go_simp; first | (with_reducible rfl) | (rw [if_pos (by omega)]; with_reducible rfl) | skip
    try simp only [Act.put, List.setIfInBounds_toArray, List.set_cons_zero, List.set_cons_succ]
    refine take_dstH (i := 17) (d := 47) (v := ?_) rfl rfl (by kernel_rfl) (by kernel_rfl) (by kernel_rfl) (fun _ _ _ h => h) (by rfl) hHeld ?_ ?_
    rotate_left
    · intro wZ hSw; have hfS := (fun (v : World) (hv : Hid (Below w4.heap.size w4 v)) => conv_any ((A4.out.2.2.2.2.kept hv.out).1) (c := fd) fl HFL.out) wZ hSw; clear hSw; go_simp; first | (with_reducible rfl) | (rw [if_pos (by omega)]; with_reducible rfl) | skip
    try simp only [Act.put, List.setIfInBounds_toArray, List.set_cons_zero, List.set_cons_succ]
    refine take_dstH (i := 18) (d := 48) (v := ?_) rfl rfl (by kernel_rfl) (by kernel_rfl) (by kernel_rfl) (fun _ _ _ h => h) (by rfl) hHeld ?_ ?_
    rotate_left
    · intro wZ hSw; refine exec_load_all 25 (.tmp 2) ?_ w.heap.size ?_ 25 (pcC x q c) _ (A4.out.1.kept (Hid.out hSw)) Try.underlying25 rfl infoPc <;> rfl
    try simp only [Act.put, List.setIfInBounds_toArray, List.set_cons_zero, List.set_cons_succ]
    refine wpAnyH_ready (rs := [19]) (by kernel_rfl) (by simp) ?_
    refine (AllReadyH.cons rfl (fun K hK => ?_) AllReadyH.nil)
    go_simp
    refine (FR.out _ (A4.out.2.2.1.kept (Hid.out hHeld))).mono ?_; rintro e w5 ⟨v5, rfl, ho, hb⟩; obtain ⟨gp, gd, rfl, hgp, _⟩ := own_piece_n ho HFL.out HFB.out; have B5 : Hid (Below w4.heap.size w4 w5) := (Hid.out hHeld).trans (hb.mono (Hid.out hHeld).size); have cv5 := conv_any hgp.1 (c := gd) fl HFL.out; clear ho hb hgp
    go_wp2_with fail
    refine hK.out _ _ ?_ (fun hHeld => ?_)
    · exact B5
    clear hK K
    try simp only [Act.put, List.setIfInBounds_toArray, List.set_cons_zero, List.set_cons_succ]
    refine wpAnyH_ready (rs := [20]) (by kernel_rfl) (by simp) ?_
    refine (AllReadyH.cons rfl (fun K hK => ?_) AllReadyH.nil)
    go_simp
    refine hK.out _ _ ?_ (fun hHeld => ?_)
    · exact hHeld
    clear hK K
    try simp only [Act.put, List.setIfInBounds_toArray, List.set_cons_zero, List.set_cons_succ]
    refine take_dstH (i := 21) (d := 51) (v := ?_) rfl rfl (by kernel_rfl) (by kernel_rfl) (by kernel_rfl) (fun _ _ _ h => h) (by rfl) hHeld ?_ ?_
    rotate_left
    · intro wZ hSw; clear hSw; go_simp; first | (with_reducible rfl) | (rw [if_pos (by omega)]; with_reducible rfl) | skip
    try simp only [Act.put, List.setIfInBounds_toArray, List.set_cons_zero, List.set_cons_succ]
    refine take_dstH (i := 22) (d := 52) (v := ?_) rfl rfl (by kernel_rfl) (by kernel_rfl) (by kernel_rfl) (fun _ _ _ h => h) (by rfl) hHeld ?_ ?_
    rotate_left
    · intro wZ hSw; clear hSw; go_simp; first | (with_reducible rfl) | (rw [if_pos (by omega)]; with_reducible rfl) | skip
    try simp only [Act.put, List.setIfInBounds_toArray, List.set_cons_zero, List.set_cons_succ]
    refine take_dstH (i := 23) (d := 53) (v := ?_) rfl rfl (by kernel_rfl) (by kernel_rfl) (by kernel_rfl) (fun _ _ _ h => h) (by rfl) hHeld ?_ ?_
    rotate_left
    · intro wZ hSw; clear hSw; go_simp; first | (with_reducible rfl) | (rw [if_pos (by omega)]; with_reducible rfl) | skip
    try simp only [Act.put, List.setIfInBounds_toArray, List.set_cons_zero, List.set_cons_succ]
    refine wpAnyH_done (by kernel_rfl) ?_ _
    have A5 := hide (And.intro (A4.out.2.1.trans (B5.out.mono A4.out.2.1.size)) (A4.out.2.2.2.1.kept B5.out))
    have Z5 := hide (And.intro (A4.out.1.kept B5.out) (And.intro (A4.out.2.2.1.kept B5.out) (A4.out.2.2.2.2.kept B5.out)))
    clear A4 FR cv5
    go_wp2_with fail
    refine (RP.out w5 A5.out.2).mono ?_
    rintro e wa ⟨qa, da, rfl, hbr, hb⟩
    have A6 := hide (And.intro (A5.out.1.trans (hb.mono A5.out.1.size)) (And.intro (A5.out.2.kept hb) hbr))
    have PA := hide (put_cell wa M qa da)
    have hb6 := hide hb
    clear hbr hb A5
    have Z6 := hide (And.intro (Z5.out.1.kept (hb6.out.trans (PA.out.2.mono hb6.out.size))) (And.intro (Z5.out.2.1.kept (hb6.out.trans (PA.out.2.mono hb6.out.size))) (Z5.out.2.2.kept (hb6.out.trans (PA.out.2.mono hb6.out.size)))))
    have HWA := hide (Z5.out.1.kept hb6.out).lt
    clear Z5 hb6
    go_upto_region 10 with (refine wpList_store_row rfl 25 _ _ rfl wa.heap.size (pcC M qa da).toArray rfl rfl 25 _ (zero_cell wa) infoPc rfl (one_pcC _ _ _) ?_)
    generalize (wa.alloc (Obj.cells #[.int .u64 0, .int .i64 0, .bool false, .slice none 0 0] 25)).setRow wa.heap.size (pcC M qa da).toArray = wb at *
    have A7 := hide (And.intro PA.out.1 (And.intro (A6.out.1.trans (PA.out.2.mono A6.out.1.size)) (And.intro (A6.out.2.1.kept PA.out.2) (A6.out.2.2.kept PA.out.2))))
    clear A6 PA
    go_wp2_with fail
    refine (RR.out wb A7.out.2.2.1 (fun a ha => Nat.lt_of_lt_of_le (HL.out a ha) A7.out.2.1.size)).mono ?_
    rintro e wc ⟨qc, dc, rfl, hbr, hb⟩
    have A8 := hide (And.intro (A7.out.1.kept hb) (And.intro (A7.out.2.1.trans (hb.mono A7.out.2.1.size)) (And.intro (A7.out.2.2.2.kept hb) hbr)))
    have PC := hide (put_cell wc M qc dc)
    have Z8 := hide (And.intro (Z6.out.1.kept (hb.trans (PC.out.2.mono hb.size))) (And.intro (Z6.out.2.1.kept (hb.trans (PC.out.2.mono hb.size))) (Z6.out.2.2.kept (hb.trans (PC.out.2.mono hb.size)))))
    clear hbr hb A7 RR Z6
    go_upto_region 11 with (refine wpList_store_row rfl 25 _ _ rfl wc.heap.size (pcC M qc dc).toArray rfl rfl 25 _ (zero_cell wc) infoPc rfl (one_pcC _ _ _) ?_)
    generalize (wc.alloc (Obj.cells #[.int .u64 0, .int .i64 0, .bool false, .slice none 0 0] 25)).setRow wc.heap.size (pcC M qc dc).toArray = wd at *
    have A9 := hide (And.intro PC.out.1 (And.intro (A8.out.1.kept PC.out.2) (And.intro (A8.out.2.1.trans (PC.out.2.mono A8.out.2.1.size)) (And.intro (A8.out.2.2.1.kept PC.out.2) (A8.out.2.2.2.kept PC.out.2)))))
    have SM := hide (same_any M M qa qc da dc wd A9.out.2.2.2.1 A9.out.2.2.2.2)
    rw [Pc.same_self] at SM
    clear A8 PC
    go_wp2_with (first
      | (refine wpList_exec (by rfl) _ (exec_load_all 25 (.tmp 8) rfl wa.heap.size rfl 25 (pcC M qa da) _ A9.out.2.1 Try.underlying25 rfl infoPc) ?_)
      | (refine wpList_exec (by rfl) _ (exec_load_all 25 (.tmp 10) rfl wc.heap.size rfl 25 (pcC M qc dc) _ A9.out.1 Try.underlying25 rfl infoPc) ?_))
    refine SM.out.mono ?_
    rintro e we ⟨rfl, hb⟩
    have A10 := hide (And.intro (A9.out.2.1.kept hb) (A9.out.2.2.1.trans (hb.mono A9.out.2.2.1.size)))
    have Z10 := hide (And.intro (Z8.out.1.kept hb) (And.intro (Z8.out.2.1.kept hb) (Z8.out.2.2.kept hb)))
    clear hb SM A9 Z8
    go_wp2_with fail
    refine (RX.out we fp fd Z10.out.2.2).mono ?_
    rintro e wf ⟨qf, df, rfl, hbr, hb⟩
    have AF := hide (A10.out.1.kept hb)
    have BF := hide (A10.out.2.trans (hb.mono A10.out.2.size))
    have ZF := hide (And.intro (Z10.out.1.kept hb) (Z10.out.2.1.kept hb))
    have RF := hide hbr
    clear hbr hb A10 Z10
    go_upto_region 16 with (refine wpList_store_row rfl 25 _ _ rfl wa.heap.size (pcC x qf df).toArray rfl rfl 25 (pcC M qa da).toArray AF.out infoPc rfl (one_pcC _ _ _) ?_)
    have AG : Hid (Arr (wf.setRow wa.heap.size (pcC x qf df).toArray) wa.heap.size 25 (pcC x qf df)) := AF.out.row _
    have AH : Hid (Arr (wf.setRow wa.heap.size (pcC x qf df).toArray) w.heap.size 25 (pcC x q c)) := ZF.out.1.rowOther _ _ (by have := HWA.out; omega)
    have BQ : Hid (BR (wf.setRow wa.heap.size (pcC x qf df).toArray) q x.b) := BR.setPc ZF.out.2.br AF.out _
    have BF2 : Hid (BR (wf.setRow wa.heap.size (pcC x qf df).toArray) qf x.b) := RF.out.setPc AF.out _
    have BB : Hid (Below w.heap.size w (wf.setRow wa.heap.size (pcC x qf df).toArray)) := below_setRow BF.out (Nat.le_of_lt HWA.out) AF.out.lt _
    clear AF ZF RF BF
    generalize wf.setRow wa.heap.size (pcC x qf df).toArray = wg at *
    have SM := hide (same_any x x qf q df c wg BF2.out BQ.out)
    rw [Pc.same_self] at SM
    go_wp2_with (first
      | (refine wpList_exec (by rfl) _ (exec_load_all 25 (.tmp 8) rfl wa.heap.size rfl 25 (pcC x qf df) _ AG.out Try.underlying25 rfl infoPc) ?_)
      | (refine wpList_exec (by rfl) _ (exec_load_all 25 (.tmp 2) rfl w.heap.size rfl 25 (pcC x q c) _ AH.out Try.underlying25 rfl infoPc) ?_))
    refine SM.out.mono ?_
    rintro e wh ⟨rfl, hb⟩
    have BH := hide (BB.out.trans (hb.mono BB.out.size))
    clear hb
    go_wp2
    go_ret
    exact ⟨rfl, BH.out⟩
  · have hne : (E == 0) = false := by simpa using h0
    have hne' : (E != 0) = true := by simpa using h0
    have FN := hide (fun v => pform_no x q c v (by rw [HE.out]; exact h0))
    have FM := hide (fun v => rpmay_any x q c v)
    rw [HE.out] at FN FM
    skip
    go_wp2_with (refine wpList_exec (by rfl) _ (exec_load_all 25 (.tmp 2) rfl w.heap.size rfl 25 (pcC x q c) _ A2.out.1 Try.underlying25 rfl infoPc) ?_)
    refine (FN.out w2).mono ?_
    rintro e w3 ⟨rfl, hb⟩
    have A3 := hide (And.intro (A2.out.1.kept hb) (And.intro (A2.out.2.1.trans (hb.mono A2.out.2.1.size)) (A2.out.2.2.2.kept hb)))
    clear hb A2 FN
    go_wp2_with (refine wpList_exec (by rfl) _ (exec_load_all 25 (.tmp 2) rfl w.heap.size rfl 25 (pcC x q c) _ A3.out.1 Try.underlying25 rfl infoPc) ?_)
    refine (FM.out w3).mono ?_
    rintro e w4 ⟨rfl, hb⟩
    have A4 := hide (And.intro (A3.out.2.1.trans (hb.mono A3.out.2.1.size)) (A3.out.2.2.kept hb))
    clear hb A3 FM
    go_upto_region 7 with fail
    refine wp_region_any (by kernel_rfl) ?_
    try (change wpAny _ _ _ _ _ _ _ (World.drew _))
    refine take_dst (i := 0) (d := 30) (v := ?_) rfl rfl (by kernel_rfl) (by kernel_rfl) (by kernel_rfl) (fun _ _ _ h => h) (by rfl) ?_ ?_
    rotate_left
    · intro wZ; go_simp; first | (with_reducible rfl) | (rw [if_pos (by omega)]; with_reducible rfl) | skip
    try simp only [Act.put, List.setIfInBounds_toArray, List.set_cons_zero, List.set_cons_succ]
    refine take_dst (i := 1) (d := 31) (v := ?_) rfl rfl (by kernel_rfl) (by kernel_rfl) (by kernel_rfl) (fun _ _ _ h => h) (by rfl) ?_ ?_
    rotate_left
    · intro wZ; go_simp; first | (with_reducible rfl) | (rw [if_pos (by omega)]; with_reducible rfl) | skip
    try simp only [Act.put, List.setIfInBounds_toArray, List.set_cons_zero, List.set_cons_succ]
    refine take_dst (i := 2) (d := 32) (v := ?_) rfl rfl (by kernel_rfl) (by kernel_rfl) (by kernel_rfl) (fun _ _ _ h => h) (by rfl) ?_ ?_
    rotate_left
    · intro wZ; go_simp; first | (with_reducible rfl) | (rw [if_pos (by omega)]; with_reducible rfl) | skip
    try simp only [Act.put, List.setIfInBounds_toArray, List.set_cons_zero, List.set_cons_succ]
    refine take_dst (i := 3) (d := 33) (v := ?_) rfl rfl (by kernel_rfl) (by kernel_rfl) (by kernel_rfl) (fun _ _ _ h => h) (by rfl) ?_ ?_
    rotate_left
    · intro wZ; go_simp; first | (with_reducible rfl) | (rw [if_pos (by omega)]; with_reducible rfl) | skip
    try simp only [Act.put, List.setIfInBounds_toArray, List.set_cons_zero, List.set_cons_succ]
    refine take_dst (i := 4) (d := 34) (v := ?_) rfl rfl (by kernel_rfl) (by kernel_rfl) (by kernel_rfl) (fun _ _ _ h => h) (by rfl) ?_ ?_
    rotate_left
    · intro wZ; go_simp; first | (with_reducible rfl) | (rw [if_pos (by omega)]; with_reducible rfl) | skip
    try simp only [Act.put, List.setIfInBounds_toArray, List.set_cons_zero, List.set_cons_succ]
    refine take_dst (i := 5) (d := 35) (v := ?_) rfl rfl (by kernel_rfl) (by kernel_rfl) (by kernel_rfl) (fun _ _ _ h => h) (by rfl) ?_ ?_
    rotate_left
    · intro wZ; go_simp; first | (with_reducible rfl) | (rw [if_pos (by omega)]; with_reducible rfl) | skip
    try simp only [Act.put, List.setIfInBounds_toArray, List.set_cons_zero, List.set_cons_succ]
    refine take_dst (i := 6) (d := 36) (v := ?_) rfl rfl (by kernel_rfl) (by kernel_rfl) (by kernel_rfl) (fun _ _ _ h => h) (by rfl) ?_ ?_
    rotate_left
    · intro wZ; go_simp; first | (with_reducible rfl) | (rw [if_pos (by omega)]; with_reducible rfl) | skip
    try simp only [Act.put, List.setIfInBounds_toArray, List.set_cons_zero, List.set_cons_succ]
    refine take_dst (i := 7) (d := 37) (v := ?_) rfl rfl (by kernel_rfl) (by kernel_rfl) (by kernel_rfl) (fun _ _ _ h => h) (by rfl) ?_ ?_
    rotate_left
    · intro wZ; go_simp; first | (with_reducible rfl) | (rw [if_pos (by omega)]; with_reducible rfl) | skip
    try simp only [Act.put, List.setIfInBounds_toArray, List.set_cons_zero, List.set_cons_succ]
    refine take_dst (i := 8) (d := 38) (v := ?_) rfl rfl (by kernel_rfl) (by kernel_rfl) (by kernel_rfl) (fun _ _ _ h => h) (by rfl) ?_ ?_
    rotate_left
    · intro wZ; go_simp; first | (with_reducible rfl) | (rw [if_pos (by omega)]; with_reducible rfl) | skip
    try simp only [Act.put, List.setIfInBounds_toArray, List.set_cons_zero, List.set_cons_succ]
    refine take_dst (i := 9) (d := 39) (v := ?_) rfl rfl (by kernel_rfl) (by kernel_rfl) (by kernel_rfl) (fun _ _ _ h => h) (by rfl) ?_ ?_
    rotate_left
    · intro wZ; go_simp; first | (with_reducible rfl) | (rw [if_pos (by omega)]; with_reducible rfl) | skip
    try simp only [Act.put, List.setIfInBounds_toArray, List.set_cons_zero, List.set_cons_succ]
    refine take_dst (i := 10) (d := 40) (v := ?_) rfl rfl (by kernel_rfl) (by kernel_rfl) (by kernel_rfl) (fun _ _ _ h => h) (by rfl) ?_ ?_
    rotate_left
    · intro wZ; go_simp; first | (with_reducible rfl) | (rw [if_pos (by omega)]; with_reducible rfl) | skip
    try simp only [Act.put, List.setIfInBounds_toArray, List.set_cons_zero, List.set_cons_succ]
    refine take_dst (i := 11) (d := 41) (v := ?_) rfl rfl (by kernel_rfl) (by kernel_rfl) (by kernel_rfl) (fun _ _ _ h => h) (by rfl) ?_ ?_
    rotate_left
    · intro wZ; go_simp; first | (with_reducible rfl) | (rw [if_pos (by omega)]; with_reducible rfl) | skip
    try simp only [Act.put, List.setIfInBounds_toArray, List.set_cons_zero, List.set_cons_succ]
    refine take_dst (i := 12) (d := 42) (v := ?_) rfl rfl (by kernel_rfl) (by kernel_rfl) (by kernel_rfl) (fun _ _ _ h => h) (by rfl) ?_ ?_
    rotate_left
    · intro wZ; go_simp; first | (with_reducible rfl) | (rw [if_pos (by omega)]; with_reducible rfl) | skip
    try simp only [Act.put, List.setIfInBounds_toArray, List.set_cons_zero, List.set_cons_succ]
    refine take_dst (i := 13) (d := 43) (v := ?_) rfl rfl (by kernel_rfl) (by kernel_rfl) (by kernel_rfl) (fun _ _ _ h => h) (by rfl) ?_ ?_
    rotate_left
    · intro wZ; go_simp; first | (with_reducible rfl) | (rw [if_pos (by omega)]; with_reducible rfl) | skip
    try simp only [Act.put, List.setIfInBounds_toArray, List.set_cons_zero, List.set_cons_succ]
    refine take_dst (i := 14) (d := 44) (v := ?_) rfl rfl (by kernel_rfl) (by kernel_rfl) (by kernel_rfl) (fun _ _ _ h => h) (by rfl) ?_ ?_
    rotate_left
    · intro wZ; go_simp; first | (with_reducible rfl) | (rw [if_pos (by omega)]; with_reducible rfl) | skip
    try simp only [Act.put, List.setIfInBounds_toArray, List.set_cons_zero, List.set_cons_succ]
    refine take_dst (i := 15) (d := 45) (v := ?_) rfl rfl (by kernel_rfl) (by kernel_rfl) (by kernel_rfl) (fun _ _ _ h => h) (by rfl) ?_ ?_
    rotate_left
    · intro wZ; go_simp; first | (with_reducible rfl) | (rw [if_pos (by omega)]; with_reducible rfl) | skip
    try simp only [Act.put, List.setIfInBounds_toArray, List.set_cons_zero, List.set_cons_succ]
    refine skip_dst (i := 16) (d := 46) rfl rfl (by kernel_rfl) (by kernel_rfl) (by kernel_rfl) (fun _ _ _ h => h) (by rfl) ?_
    try simp only [Act.put, List.setIfInBounds_toArray, List.set_cons_zero, List.set_cons_succ]
    refine skip_dst (i := 17) (d := 47) rfl rfl (by kernel_rfl) (by kernel_rfl) (by kernel_rfl) (fun _ _ _ h => h) (by rfl) ?_
    try simp only [Act.put, List.setIfInBounds_toArray, List.set_cons_zero, List.set_cons_succ]
    refine skip_dst (i := 18) (d := 48) rfl rfl (by kernel_rfl) (by kernel_rfl) (by kernel_rfl) (fun _ _ _ h => h) (by rfl) ?_
    try simp only [Act.put, List.setIfInBounds_toArray, List.set_cons_zero, List.set_cons_succ]
    refine skip_dst (i := 19) (d := 49) rfl rfl (by kernel_rfl) (by kernel_rfl) (by kernel_rfl) (fun _ _ _ h => h) (by rfl) ?_
    try simp only [Act.put, List.setIfInBounds_toArray, List.set_cons_zero, List.set_cons_succ]
    refine skip_dst (i := 20) (d := 50) rfl rfl (by kernel_rfl) (by kernel_rfl) (by kernel_rfl) (fun _ _ _ h => h) (by rfl) ?_
    try simp only [Act.put, List.setIfInBounds_toArray, List.set_cons_zero, List.set_cons_succ]
    refine skip_dst (i := 21) (d := 51) rfl rfl (by kernel_rfl) (by kernel_rfl) (by kernel_rfl) (fun _ _ _ h => h) (by rfl) ?_
    try simp only [Act.put, List.setIfInBounds_toArray, List.set_cons_zero, List.set_cons_succ]
    refine take_dst (i := 22) (d := 52) (v := ?_) rfl rfl (by kernel_rfl) (by kernel_rfl) (by kernel_rfl) (fun _ _ _ h => h) (by rfl) ?_ ?_
    rotate_left
    · intro wZ; go_simp; first | (with_reducible rfl) | (rw [if_pos (by omega)]; with_reducible rfl) | skip
    try simp only [Act.put, List.setIfInBounds_toArray, List.set_cons_zero, List.set_cons_succ]
    refine take_dst (i := 23) (d := 53) (v := ?_) rfl rfl (by kernel_rfl) (by kernel_rfl) (by kernel_rfl) (fun _ _ _ h => h) (by rfl) ?_ ?_
    rotate_left
    · intro wZ; go_simp; first | (with_reducible rfl) | (rw [if_pos (by omega)]; with_reducible rfl) | skip
    try simp only [Act.put, List.setIfInBounds_toArray, List.set_cons_zero, List.set_cons_succ]
    refine wpAny_done (by kernel_rfl) ?_ _
    have A5 := hide (And.intro A4.out.1.drew (A4.out.2.kept (Below.refl _ _).drew))
    clear A4
    go_wp2_with fail
    refine (RP.out w4.drew A5.out.2).mono ?_
    rintro e wa ⟨qa, da, rfl, hbr, hb⟩
    have A6 := hide (And.intro (A5.out.1.trans (hb.mono A5.out.1.size)) (And.intro (A5.out.2.kept hb) hbr))
    have PA := hide (put_cell wa M qa da)
    clear hbr hb A5 RP
    go_upto_region 10 with (refine wpList_store_row rfl 25 _ _ rfl wa.heap.size (pcC M qa da).toArray rfl rfl 25 _ (zero_cell wa) infoPc rfl (one_pcC _ _ _) ?_)
    generalize (wa.alloc (Obj.cells #[.int .u64 0, .int .i64 0, .bool false, .slice none 0 0] 25)).setRow wa.heap.size (pcC M qa da).toArray = wb at *
    have A7 := hide (And.intro PA.out.1 (And.intro (A6.out.1.trans (PA.out.2.mono A6.out.1.size)) (And.intro (A6.out.2.1.kept PA.out.2) (A6.out.2.2.kept PA.out.2))))
    clear A6 PA
    go_wp2_with fail
    refine (RR.out wb A7.out.2.2.1 (fun a ha => Nat.lt_of_lt_of_le (HL.out a ha) A7.out.2.1.size)).mono ?_
    rintro e wc ⟨qc, dc, rfl, hbr, hb⟩
    have A8 := hide (And.intro (A7.out.1.kept hb) (And.intro (A7.out.2.1.trans (hb.mono A7.out.2.1.size)) (And.intro (A7.out.2.2.2.kept hb) hbr)))
    have PC := hide (put_cell wc M qc dc)
    clear hbr hb A7 RR
    go_upto_region 11 with (refine wpList_store_row rfl 25 _ _ rfl wc.heap.size (pcC M qc dc).toArray rfl rfl 25 _ (zero_cell wc) infoPc rfl (one_pcC _ _ _) ?_)
    generalize (wc.alloc (Obj.cells #[.int .u64 0, .int .i64 0, .bool false, .slice none 0 0] 25)).setRow wc.heap.size (pcC M qc dc).toArray = wd at *
    have A9 := hide (And.intro PC.out.1 (And.intro (A8.out.1.kept PC.out.2) (And.intro (A8.out.2.1.trans (PC.out.2.mono A8.out.2.1.size)) (And.intro (A8.out.2.2.1.kept PC.out.2) (A8.out.2.2.2.kept PC.out.2)))))
    have SM := hide (same_any M M qa qc da dc wd A9.out.2.2.2.1 A9.out.2.2.2.2)
    rw [Pc.same_self] at SM
    clear A8 PC
    go_wp2_with (first
      | (refine wpList_exec (by rfl) _ (exec_load_all 25 (.tmp 8) rfl wa.heap.size rfl 25 (pcC M qa da) _ A9.out.2.1 Try.underlying25 rfl infoPc) ?_)
      | (refine wpList_exec (by rfl) _ (exec_load_all 25 (.tmp 10) rfl wc.heap.size rfl 25 (pcC M qc dc) _ A9.out.1 Try.underlying25 rfl infoPc) ?_))
    refine SM.out.mono ?_
    rintro e we ⟨rfl, hb⟩
    have B9 := hide (A9.out.2.2.1.trans (hb.mono A9.out.2.2.1.size))
    clear hb SM A9
    go_wp2
    go_ret
    exact ⟨rfl, B9.out⟩

theorem walk (x : Pc) (q : Option Addr) (c : Nat) (p2 : Option Addr) (c2 : Nat) (b : List Nat) (w : World) (hx : PcIn w x q c) (hb : Piece w p2 c2 b) (hlt : ∀ a, p2 = some a → a.block < w.heap.size) :
    Calls Try.prog 3 #[pcV x q c, .slice p2 b.length c2] w fun e w' => e = .returned (.bool true) ∧ Below w.heap.size w w' :=
  walk_of x _ b.length c c2 _ _ q p2 b w hx hb rfl hlt rfl rfl

theorem own : ownKnob Try.prog.godebug = none := by kernel_rfl
theorem laidOut : laidOutB Try.prog = true := by kernel_rfl
set_option maxRecDepth 100000 in
theorem lifted (os : Os) (started : os.Started) (H : Type) (enc : TypeId × Value → H) :
    ReturnsInHanded {} Try.checked os 3 .any (Rows.fragFormsSpec.pre6 enc Try.prog Try.f3 Rows.fragFormsRow.domain false) (Rows.fragFormsSpec.post enc Try.prog Try.f3 false true false false) := by
  refine returnsInHanded_of_change (C := Try.checked) own started (by kernel_rfl) Try.func3
    (ChangeSpec.witness6 (enc := enc) (C := Try.checked) false ⟨#[], #[.agg #[.int .u64 0, .int .i64 0, .bool false, .slice none 0 0], .slice none 0 0], []⟩ 8 (by kernel_rfl) (by kernel_rfl) (by kernel_rfl) (by kernel_rfl)) ?_
  intro W base args ds gs before hval0 hW hcnd _
  have hval : ∀ (j : Nat) t v, Try.f3.params[j]? = some t → args[j]? = some v → Value.okWide Try.prog W .any base t v := hval0
  have hW' := hW
  obtain ⟨p, q, hA0, hV, rfl, hfz, hnd⟩ := hW
  have hA : DataW.TrodAll enc Try.prog W 0 (fun _ => true) true Try.f3.params.toList args.toList ds p := hA0
  rw [Try.params3] at hA hval
  obtain ⟨v0, vs0, d0, ds0, p0, q0, hargs, rfl, rfl, h0, r0⟩ := trodAll_cons hA
  obtain ⟨v1, vs1, d1, ds1, p1, q1, rfl, rfl, rfl, h1, r1⟩ := trodAll_cons r0
  obtain ⟨rfl, rfl, rfl⟩ := trodAll_nil r1
  obtain rfl : args = #[v0, v1] := by cases args; simp_all
  obtain ⟨rfl, rfl⟩ := trodVars_none hV
  have k0 := h0
  have lt0 : ∀ x ∈ p0, x.block < W.heap.size := by obtain ⟨m, hm⟩ := k0; exact DataW.trod_lt m _ _ _ hm
  obtain ⟨x0, a0, cap0, rfl, w0⟩ := open_pc (hval 0 25 v0 rfl rfl) h0
  obtain ⟨a1, len1, cap1, rfl⟩ := okWide_slice Try.underlying23 (hval 1 23 v1 rfl rfl)
  have k1 := h1
  have lt1 : ∀ x ∈ p1, x.block < W.heap.size := by obtain ⟨m, hm⟩ := k1; exact DataW.trod_lt m _ _ _ hm
  obtain ⟨fuel1, hf1⟩ := h1
  obtain ⟨a1', cap1', x1, hcs1, w1⟩ := piece_of hf1
  simp [Value.cells] at hcs1
  obtain ⟨rfl, rfl, rfl⟩ := hcs1
  clear hf1
  have b1 : ∀ a, a1 = some a → a.block < W.heap.size := fun a ha => by subst ha; exact okWide_lt Try.underlying23 (hval 1 23 _ rfl rfl)
  clear hA0 hval0
  refine (walk x0 a0 cap0 a1 cap1 x1 W w0 w1 b1).mono fun e W' ⟨he, bel⟩ => ?_
  subst he
  exact ⟨_, rfl, _, _, _, [], _, [], hW', trodAll_mk1 (shut_bool Try.underlying4 _), (trodAll_cons_mk (Below.trod laidOut (by kernel_rfl) (of_decide_eq_true (by kernel_rfl)) k0 bel lt0) (trodAll_cons_mk (Below.trod laidOut (by kernel_rfl) (of_decide_eq_true (by kernel_rfl)) k1 bel lt1) trodAll_mk0)), rfl, bel.frame _, fun h => by cases h⟩

theorem over : Rows.fragFormsRow.holds Try.pinned (OpenSpec.ofChange Rows.fragFormsSpec) :=
  OpenClaim.holds_of_wide 3 Try.f3 rfl rfl rfl rfl rfl rfl rfl ⟨rfl, rfl, rfl, rfl, rfl⟩ rfl rfl rfl rfl rfl (by kernel_rfl) Try.func3 (by kernel_rfl)
    (of_decide_eq_true (by kernel_rfl)) (by unfold Func.isWrapper; first | (rw [if_pos (by decide +kernel)]; kernel_rfl) | (rw [if_neg (by decide +kernel)]; exact ⟨rfl, rfl⟩))
    (fun os started H enc _ => lifted os started H enc)

end FragFormsProof

/-- The form of any piece is the document's, or refused; any bytes are a piece, or refused. -/
theorem fragForms_holds : Rows.FragFormsSaid := FragFormsProof.over

#print axioms fragForms_holds
end Go.Proofs.Ytecpnnnkkofejaa
