/-
  Several texts, joined: IF, IG, IH, IJ.
-/
import Derived.Test.YtbmjlofehbbkbaaDoorKA
import Derived.Test.YtbmjlofehbbkbaaDoorJR
import Derived.Test.YtbmjlofehbbkbaaDoorJW

/- Walks: Send: a packet. -/
namespace Go.Proofs.YtbmjlofehbbkbaaDoor
open Go.RowKit

theorem one_ecC (b : Bool) (x y : Int) : (ecC b x y).toArray.all (·.oneCell') = true := by simp [Value.oneCell']
theorem sent_row {w : World} {g : Nat} {L : Lk} {nx : Nat} (h : Arr w g 63 (lkC { L with next := nx })) (hn : nx = L.next + 1) : Arr (w.setRow g (lkC { ({ L with next := nx } : Lk) with is := false, stamp := 0, told := 0 }).toArray) g 63 (lkC L.sent) := by
  subst hn
  exact h.row _

set_option maxHeartbeats 8000000 in
set_option maxRecDepth 100000 in
theorem send_of (g : Nat) (L : Lk) (now : Int) (N1 N2 : Nat) (p : Option Addr) (c n : Nat) (text PA : List Nat) (w : World) (hL : LkAt w g L) (ht : IsTime now) (h1 : now % 65535 = (N1 : Int)) (h2 : L.at now = (N2 : Int)) (h1' : N1 < 65536) (h2' : N2 < 65536)
    (hP : Piece w p c text) (hn : text.length = n) (hn2 : n ≤ 1196) (hx : L.next < 9223372036854775808) (hpl : PA.length = n + 28) (hg : 2 ≤ g)
    (hS : ∀ (v : World) (q : Option Addr) (cq : Nat), Below w.heap.size w v → Piece v q cq (fx2 N1 ++ fx2 N2 ++ text) → Calls Tryd.prog 10 #[keyV L.code L.mark, noV L.down L.next, .slice q (n + 4) cq] v fun e w' => ∃ u, e = .returned (.tuple #[u, .int .i64 0]) ∧ w'.ownsRow v.heap.size 5 1 u (n + 28) (u8s PA) ∧ Below v.heap.size v w') :
    Calls Tryd.prog 7 #[.pointer (some ⟨g, 0, none⟩), .int .i64 now, .slice p n c] w fun e w' => ∃ v, e = .returned (.tuple #[v, .int .i64 0]) ∧ w'.ownsRow w.heap.size 5 1 v (n + 28) (u8s PA) ∧ LkAt w' g L.sent ∧ w.grownBy w' (some g) := by
  have HT := hide (lthere_lk hL)
  have HI := hide (fun v : World => isTime_any now v)
  rw [decide_eq_true ht] at HI
  have HS := hide hS
  have HLk := hide (fun (v : World) (hb : Below w.heap.size w v) => hL.kept hb)
  have HPv := hide (fun (v : World) (hb : Below w.heap.size w v) => hP.kept hb)
  have HAT := hide (fun v : World => at_any L.is L.stamp L.told now v hL.ok.s0 hL.ok.s1 hL.ok.t0 hL.ok.t1 ht.1 ht.2)
  rw [show atF L.is L.stamp L.told now = (N2 : Int) from h2] at HAT
  have HF1 := hide (fun v : World => stamp_any N1 h1' v)
  have HF2 := hide (fun v : World => stamp_any N2 h2' v)
  have L1 := hide (fx2_length N1)
  have L2 := hide (fx2_length N2)
  have B1 := hide (fx2_bytes N1)
  have B2 := hide (fx2_bytes N2)
  have BT := hide hP.2.2.1
  have HTL := hide hn
  have HGL := hide hL.lt
  have HKI := hide hL.ok.key.info
  have HKL := hide hL.ok.key
  have HOK := hide (Lk.sent_ok hL.ok hx)
  have HPL := hide hpl
  have hm : Int.tmod now 65535 = (N1 : Int) := by rw [Int.tmod_eq_emod_of_nonneg ht.1]; exact h1
  have d1 : decide ((1196 : Int) < (n : Int)) = false := by simp; omega
  have d2 : ((L.next : Int) == 9223372036854775808) = false := by simp; omega
  have hwr : IntKind.u64.wrap ((L.next : Int) + 1) = ((L.next + 1 : Nat) : Int) := by rw [(show ∀ n : Int, IntKind.u64.wrap n = n % 18446744073709551616 from fun n => by simp [IntKind.wrap, IntKind.bits, IntKind.signed])]; omega
  have HWR := hide hwr
  have HG := hide hg
  have hcn := hL.cells.2.2.1
  have HN2 := hide hn2
  clear hL ht h1 h2 h1' h2' hP hn hn2 hx hpl hg hS hwr
  generalize fx2 N1 = F1 at *
  generalize fx2 N2 = F2 at *
  go_enter Tryd.func7, Tryd.ntmps7
  go_upto_region 9 with (first
    | (refine HT.out.mono ?_; rintro r w1 ⟨rfl, rfl⟩)
    | (refine (HI.out _).mono ?_; rintro r w2 ⟨rfl, rfl⟩))
  clear HT HI d1 d2 hcn
  have HB0 : Hid (Below w2.heap.size w2 w2) := Below.refl _ _
  have hec : Hid (∀ v, Hid (Below w2.heap.size w2 v) → v.rangeAt g 57 (ecC L.is L.stamp L.told)) := fun v hb => (HLk.out v hb.out).echo
  refine wp_region_held_drew (S := fun v => Hid (Below w2.heap.size w2 v)) (by kernel_rfl) (hide (Below.refl _ _).drew) (fun hHeld => ?_)
  refine take_dstH (i := 0) (d := 25) (v := ?_) rfl rfl (by kernel_rfl) (by kernel_rfl) (by kernel_rfl) (fun _ _ _ h => h) (by rfl) hHeld ?_ ?_
  rotate_left
  · intro wZ hSw; clear hSw; go_simp; first | (with_reducible rfl) | (rw [if_pos (by omega)]; with_reducible rfl) | skip
  try simp only [Act.put, List.setIfInBounds_toArray, List.set_cons_zero, List.set_cons_succ]
  refine take_dstH (i := 1) (d := 26) (v := ?_) rfl rfl (by kernel_rfl) (by kernel_rfl) (by kernel_rfl) (fun _ _ _ h => h) (by rfl) hHeld ?_ ?_
  rotate_left
  · intro wZ hSw; clear hSw; go_simp; first | (with_reducible rfl) | (rw [if_pos (by omega)]; with_reducible rfl) | skip
  try simp only [Act.put, List.setIfInBounds_toArray, List.set_cons_zero, List.set_cons_succ]
  refine take_dstH (i := 3) (d := 28) (v := ?_) rfl rfl (by kernel_rfl) (by kernel_rfl) (by kernel_rfl) (fun _ _ _ h => h) (by rfl) hHeld ?_ ?_
  rotate_left
  · intro wZ hSw; clear hSw; go_simp; first | (with_reducible rfl) | (rw [if_pos (by omega)]; with_reducible rfl) | skip
  try simp only [Act.put, List.setIfInBounds_toArray, List.set_cons_zero, List.set_cons_succ]
  refine take_dstH (i := 4) (d := 29) (v := ?_) rfl rfl (by kernel_rfl) (by kernel_rfl) (by kernel_rfl) (fun _ _ _ h => h) (by rfl) hHeld ?_ ?_
  rotate_left
  · intro wZ hSw; clear hSw; go_simp; first | (with_reducible rfl) | (rw [if_pos (by omega)]; with_reducible rfl) | skip
  try simp only [Act.put, List.setIfInBounds_toArray, List.set_cons_zero, List.set_cons_succ]
  refine take_dstH (i := 5) (d := 30) (v := ?_) rfl rfl (by kernel_rfl) (by kernel_rfl) (by kernel_rfl) (fun _ _ _ h => h) (by rfl) hHeld ?_ ?_
  rotate_left
  · intro wZ hSw; clear hSw; go_simp; first | (with_reducible rfl) | (rw [if_pos (by omega)]; with_reducible rfl) | skip
  try simp only [Act.put, List.setIfInBounds_toArray, List.set_cons_zero, List.set_cons_succ]
  refine take_dstH (i := 6) (d := 31) (v := ?_) rfl rfl (by kernel_rfl) (by kernel_rfl) (by kernel_rfl) (fun _ _ _ h => h) (by rfl) hHeld ?_ ?_
  rotate_left
  · intro wZ hSw; refine exec_load_mid 61 (.tmp 30) ?_ g 57 ?_ (ecC L.is L.stamp L.told) _ (hec.out wZ hSw) Tryd.underlying61 rfl infoEc <;> rfl
  try simp only [Act.put, List.setIfInBounds_toArray, List.set_cons_zero, List.set_cons_succ]
  refine take_dstH (i := 7) (d := 32) (v := ?_) rfl rfl (by kernel_rfl) (by kernel_rfl) (by kernel_rfl) (fun _ _ _ h => h) (by rfl) hHeld ?_ ?_
  rotate_left
  · intro wZ hSw; clear hSw; go_simp; first | (with_reducible rfl) | (rw [if_pos (by omega)]; with_reducible rfl) | skip
  try simp only [Act.put, List.setIfInBounds_toArray, List.set_cons_zero, List.set_cons_succ]
  refine wpAnyH_ready (rs := [2]) (by kernel_rfl) (by simp) ?_
  refine (AllReadyH.cons rfl (fun K hK => ?_) AllReadyH.nil)
  go_simp
  refine (HF1.out _).mono ?_; rintro e wa ⟨va, rfl, hoa, hba⟩; have OA : Hid (wa.ownsRow w2.heap.size 5 1 va 2 (u8s F1)) := own_base hoa (Hid.out hHeld).size; have HBa : Hid (Below w2.heap.size w2 wa) := (Hid.out hHeld).trans (hba.mono (Hid.out hHeld).size); (try (replace OB := hide (own_below OB.out hba))); clear hoa hba
  go_wp2_with fail
  refine hK.out _ _ ?_ (fun hHeld => ?_)
  · exact HBa
  clear hK K
  try simp only [Act.put, List.setIfInBounds_toArray, List.set_cons_zero, List.set_cons_succ]
  refine wpAnyH_ready (rs := [8]) (by kernel_rfl) (by simp) ?_
  refine (AllReadyH.cons rfl (fun K hK => ?_) AllReadyH.nil)
  go_simp
  refine (HAT.out _).mono ?_; rintro e wb ⟨rfl, hbb⟩; have HBb : Hid (Below w2.heap.size w2 wb) := (Hid.out hHeld).trans (hbb.mono (Hid.out hHeld).size); (try (replace OA := hide (own_below OA.out hbb))); clear hbb
  go_wp2_with fail
  refine hK.out _ _ ?_ (fun hHeld => ?_)
  · exact HBb
  clear hK K
  try simp only [Act.put, List.setIfInBounds_toArray, List.set_cons_zero, List.set_cons_succ]
  refine wpAnyH_ready (rs := [9]) (by kernel_rfl) (by simp) ?_
  refine (AllReadyH.cons rfl (fun K hK => ?_) AllReadyH.nil)
  go_simp
  refine (HF2.out _).mono ?_; rintro e wd ⟨vb, rfl, hob, hbd⟩; have OB : Hid (wd.ownsRow w2.heap.size 5 1 vb 2 (u8s F2)) := own_base hob (Hid.out hHeld).size; have HBd : Hid (Below w2.heap.size w2 wd) := (Hid.out hHeld).trans (hbd.mono (Hid.out hHeld).size); (try (replace OA := hide (own_below OA.out hbd))); clear hob hbd
  go_wp2_with fail
  refine hK.out _ _ ?_ (fun hHeld => ?_)
  · exact HBd
  clear hK K
  try simp only [Act.put, List.setIfInBounds_toArray, List.set_cons_zero, List.set_cons_succ]
  refine wpAnyH_ready (rs := [10]) (by kernel_rfl) (by simp) ?_
  refine (AllReadyH.cons rfl (fun K hK => ?_) AllReadyH.nil)
  obtain ⟨pb, cb, rfl, hpb, _⟩ := own_piece_n OB.out L2.out B2.out; have PB := hide hpb; clear hpb; refine wp_append_bytes_dst (dd := 35) rfl (.tmp 27) (.tmp 34) rfl w2.heap.size va F1 rfl 2 L1.out OA.out pb 2 cb F2 L2.out rfl PB.out.1 PB.out.2.1 (by omega) (Hid.out hHeld).size (fun v7 w7 hown hgrow => ?_); have HB7 : Hid (Below w2.heap.size w2 w7) := (Hid.out hHeld).grown hgrow (Hid.out hHeld).size (fun k hk => (OA.out.lt k hk).1); have O7 := hide hown; clear hown hgrow
  refine hK.out _ _ ?_ (fun hHeld => ?_)
  · exact HB7
  clear hK K
  try simp only [Act.put, List.setIfInBounds_toArray, List.set_cons_zero, List.set_cons_succ]
  refine take_dstH (i := 11) (d := 8) (v := ?_) rfl rfl (by kernel_rfl) (by kernel_rfl) (by kernel_rfl) (fun _ _ _ h => h) (by rfl) hHeld ?_ ?_
  rotate_left
  · intro wZ hSw; clear hSw; go_simp; first | (with_reducible rfl) | (rw [if_pos (by omega)]; with_reducible rfl) | skip
  try simp only [Act.put, List.setIfInBounds_toArray, List.set_cons_zero, List.set_cons_succ]
  refine wpAnyH_done (by kernel_rfl) ?_ _
  all_goals
    clear hHeld
    have P7 := hide (HPv.out w7 HB7.out)
    have HL12 : Hid ((F1 ++ F2).length = 4) := by show _ = _; rw [List.length_append, L1.out, L2.out]
    have HB12 : Hid (BytesN (F1 ++ F2)) := bytes_append B1.out B2.out
    have HLT : Hid (((F1 ++ F2) ++ text).length = n + 4) := by show _ = _; rw [List.length_append, HL12.out, HTL.out]; omega
    have HBT : Hid (BytesN ((F1 ++ F2) ++ text)) := bytes_append HB12.out BT.out
    go_upto_region 11 with (at_builtin; refine wpList_append_bytes rfl (.tmp 36) (.tmp 37) rfl w2.heap.size _ (F1 ++ F2) rfl 4 HL12.out O7.out p n c text HTL.out rfl P7.out.1 P7.out.2.1 (by have := HN2.out; omega) HB7.out.size ?_; intro v8 w8 hown hgrow; have O8 := hide hown; have HB8 : Hid (Below w2.heap.size w2 w8) := HB7.out.grown hgrow HB7.out.size (fun k hk => (O7.out.lt k hk).1); clear hown hgrow)
    have O9 : Hid (w8.ownsRow w2.heap.size 5 1 v8 (n + 4) (u8s ((F1 ++ F2) ++ text))) := by show World.ownsRow _ _ _ _ _ _ _; rw [Nat.add_comm]; exact O8.out
    obtain ⟨q, cq, rfl, hq, _⟩ := own_piece_n O9.out HLT.out HBT.out
    have PQ := hide hq
    clear hq O7 O8 P7 HB7 HF1 HF2 HAT hec HB0 hm
    generalize (F1 ++ F2) ++ text = TT at *
    have hck : Hid (∀ v, Hid (Below w8.heap.size w8 v) → v.rangeAt g 0 (kCells L.code L.mark)) := fun v hb => (HLk.out v (HB8.out.trans (hb.out.mono HB8.out.size))).key
    have hcd : Hid (∀ v, Hid (Below w8.heap.size w8 v) → v.cell? ⟨g, 48, none⟩ = some (.bool L.down)) := fun v hb => (HLk.out v (HB8.out.trans (hb.out.mono HB8.out.size))).cells.1
    have hcn : Hid (∀ v, Hid (Below w8.heap.size w8 v) → v.cell? ⟨g, 50, none⟩ = some (.int .u64 (L.next : Int))) := fun v hb => (HLk.out v (HB8.out.trans (hb.out.mono HB8.out.size))).cells.2.2.1
    have HIK : Hid ((Tryd.prog.info? 25).map (·.size) = some (kCells L.code L.mark).length) := by show _ = _; rw [HKI.out]; simp
    refine wp_region_held_drew (S := fun v => Hid (Below w8.heap.size w8 v)) (by kernel_rfl) (hide (Below.refl _ _).drew) (fun hHeld => ?_)
    refine take_dstH (i := 0) (d := 40) (v := ?_) rfl rfl (by kernel_rfl) (by kernel_rfl) (by kernel_rfl) (fun _ _ _ h => h) (by rfl) hHeld ?_ ?_
    rotate_left
    · intro wZ hSw; clear hSw; go_simp; first | (with_reducible rfl) | (rw [if_pos (by omega)]; with_reducible rfl) | skip
    try simp only [Act.put, List.setIfInBounds_toArray, List.set_cons_zero, List.set_cons_succ]
    refine take_dstH (i := 1) (d := 41) (v := ?_) rfl rfl (by kernel_rfl) (by kernel_rfl) (by kernel_rfl) (fun _ _ _ h => h) (by rfl) hHeld ?_ ?_
    rotate_left
    · intro wZ hSw; clear hSw; go_simp; first | (with_reducible rfl) | (rw [if_pos (by omega)]; with_reducible rfl) | skip
    try simp only [Act.put, List.setIfInBounds_toArray, List.set_cons_zero, List.set_cons_succ]
    refine take_dstH (i := 2) (d := 42) (v := ?_) rfl rfl (by kernel_rfl) (by kernel_rfl) (by kernel_rfl) (fun _ _ _ h => h) (by rfl) hHeld ?_ ?_
    rotate_left
    · intro wZ hSw; clear hSw; go_simp; first | (with_reducible rfl) | (rw [if_pos (by omega)]; with_reducible rfl) | skip
    try simp only [Act.put, List.setIfInBounds_toArray, List.set_cons_zero, List.set_cons_succ]
    refine take_dstH (i := 3) (d := 43) (v := ?_) rfl rfl (by kernel_rfl) (by kernel_rfl) (by kernel_rfl) (fun _ _ _ h => h) (by rfl) hHeld ?_ ?_
    rotate_left
    · intro wZ hSw; refine exec_load_mid 25 (.tmp 42) ?_ g 0 ?_ (kCells L.code L.mark) _ (hck.out wZ hSw) Tryd.underlying25 rfl HIK.out <;> rfl
    try simp only [Act.put, List.setIfInBounds_toArray, List.set_cons_zero, List.set_cons_succ]
    refine take_dstH (i := 4) (d := 44) (v := ?_) rfl rfl (by kernel_rfl) (by kernel_rfl) (by kernel_rfl) (fun _ _ _ h => h) (by rfl) hHeld ?_ ?_
    rotate_left
    · intro wZ hSw; clear hSw; go_simp; first | (with_reducible rfl) | (rw [if_pos (by omega)]; with_reducible rfl) | skip
    try simp only [Act.put, List.setIfInBounds_toArray, List.set_cons_zero, List.set_cons_succ]
    refine take_dstH (i := 5) (d := 45) (v := ?_) rfl rfl (by kernel_rfl) (by kernel_rfl) (by kernel_rfl) (fun _ _ _ h => h) (by rfl) hHeld ?_ ?_
    rotate_left
    · intro wZ hSw; clear hSw; go_simp; first | (with_reducible rfl) | (rw [if_pos (by omega)]; with_reducible rfl) | skip
    try simp only [Act.put, List.setIfInBounds_toArray, List.set_cons_zero, List.set_cons_succ]
    refine take_dstH (i := 6) (d := 46) (v := ?_) rfl rfl (by kernel_rfl) (by kernel_rfl) (by kernel_rfl) (fun _ _ _ h => h) (by rfl) hHeld ?_ ?_
    rotate_left
    · intro wZ hSw; clear hSw; go_simp; first | (with_reducible rfl) | (rw [if_pos (by omega)]; with_reducible rfl) | skip
    try simp only [Act.put, List.setIfInBounds_toArray, List.set_cons_zero, List.set_cons_succ]
    refine take_dstH (i := 7) (d := 47) (v := ?_) rfl rfl (by kernel_rfl) (by kernel_rfl) (by kernel_rfl) (fun _ _ _ h => h) (by rfl) hHeld ?_ ?_
    rotate_left
    · intro wZ hSw; have hfS := hcd.out wZ hSw; clear hSw; go_simp; first | (with_reducible rfl) | (rw [if_pos (by omega)]; with_reducible rfl) | skip
    try simp only [Act.put, List.setIfInBounds_toArray, List.set_cons_zero, List.set_cons_succ]
    refine take_dstH (i := 8) (d := 48) (v := ?_) rfl rfl (by kernel_rfl) (by kernel_rfl) (by kernel_rfl) (fun _ _ _ h => h) (by rfl) hHeld ?_ ?_
    rotate_left
    · intro wZ hSw; clear hSw; go_simp; first | (with_reducible rfl) | (rw [if_pos (by omega)]; with_reducible rfl) | skip
    try simp only [Act.put, List.setIfInBounds_toArray, List.set_cons_zero, List.set_cons_succ]
    refine take_dstH (i := 9) (d := 49) (v := ?_) rfl rfl (by kernel_rfl) (by kernel_rfl) (by kernel_rfl) (fun _ _ _ h => h) (by rfl) hHeld ?_ ?_
    rotate_left
    · intro wZ hSw; clear hSw; go_simp; first | (with_reducible rfl) | (rw [if_pos (by omega)]; with_reducible rfl) | skip
    try simp only [Act.put, List.setIfInBounds_toArray, List.set_cons_zero, List.set_cons_succ]
    refine take_dstH (i := 10) (d := 50) (v := ?_) rfl rfl (by kernel_rfl) (by kernel_rfl) (by kernel_rfl) (fun _ _ _ h => h) (by rfl) hHeld ?_ ?_
    rotate_left
    · intro wZ hSw; clear hSw; go_simp; first | (with_reducible rfl) | (rw [if_pos (by omega)]; with_reducible rfl) | skip
    try simp only [Act.put, List.setIfInBounds_toArray, List.set_cons_zero, List.set_cons_succ]
    refine take_dstH (i := 11) (d := 51) (v := ?_) rfl rfl (by kernel_rfl) (by kernel_rfl) (by kernel_rfl) (fun _ _ _ h => h) (by rfl) hHeld ?_ ?_
    rotate_left
    · intro wZ hSw; have hfS := hcn.out wZ hSw; clear hSw; go_simp; first | (with_reducible rfl) | (rw [if_pos (by omega)]; with_reducible rfl) | skip
    try simp only [Act.put, List.setIfInBounds_toArray, List.set_cons_zero, List.set_cons_succ]
    refine take_dstH (i := 12) (d := 52) (v := ?_) rfl rfl (by kernel_rfl) (by kernel_rfl) (by kernel_rfl) (fun _ _ _ h => h) (by rfl) hHeld ?_ ?_
    rotate_left
    · intro wZ hSw; refine exec_build_of 41 #[(0, .tmp 47), (1, .tmp 51)] ?_ [(0, .bool L.down), (1, .int .u64 (L.next : Int))] ?_ (noC L.down L.next).toArray (by kernel_rfl) <;> first | rfl | simp [Act.eval]
    try simp only [Act.put, List.setIfInBounds_toArray, List.set_cons_zero, List.set_cons_succ]
    refine take_dstH (i := 13) (d := 53) (v := ?_) rfl rfl (by kernel_rfl) (by kernel_rfl) (by kernel_rfl) (fun _ _ _ h => h) (by rfl) hHeld ?_ ?_
    rotate_left
    · intro wZ hSw; clear hSw; go_simp; first | (with_reducible rfl) | (rw [if_pos (by omega)]; with_reducible rfl) | skip
    try simp only [Act.put, List.setIfInBounds_toArray, List.set_cons_zero, List.set_cons_succ]
    refine wpAnyH_ready (rs := [14]) (by kernel_rfl) (by simp) ?_
    refine (AllReadyH.cons rfl (fun K hK => ?_) AllReadyH.nil)
    go_simp
    refine (HS.out _ _ _ (HB8.out.trans ((Hid.out hHeld).mono HB8.out.size)) (PQ.out.kept (Hid.out hHeld))).mono ?_; rintro e wa ⟨u, rfl, hoa, hba⟩; have OA : Hid (wa.ownsRow w2.heap.size 5 1 u (n + 28) (u8s PA)) := own_base hoa (Nat.le_trans HB8.out.size (Hid.out hHeld).size); have HBa : Hid (Below w8.heap.size w8 wa) := (Hid.out hHeld).trans (hba.mono (Hid.out hHeld).size); clear hoa hba
    go_wp2_with fail
    refine hK.out _ _ ?_ (fun hHeld => ?_)
    · exact HBa
    clear hK K
    try simp only [Act.put, List.setIfInBounds_toArray, List.set_cons_zero, List.set_cons_succ]
    refine take_dstH (i := 15) (d := 39) (v := ?_) rfl rfl (by kernel_rfl) (by kernel_rfl) (by kernel_rfl) (fun _ _ _ h => h) (by rfl) hHeld ?_ ?_
    rotate_left
    · intro wZ hSw; clear hSw; go_simp; first | (with_reducible rfl) | (rw [if_pos (by omega)]; with_reducible rfl) | skip
    try simp only [Act.put, List.setIfInBounds_toArray, List.set_cons_zero, List.set_cons_succ]
    refine take_dstH (i := 16) (d := 55) (v := ?_) rfl rfl (by kernel_rfl) (by kernel_rfl) (by kernel_rfl) (fun _ _ _ h => h) (by rfl) hHeld ?_ ?_
    rotate_left
    · intro wZ hSw; clear hSw; go_simp; first | (with_reducible rfl) | (rw [if_pos (by omega)]; with_reducible rfl) | skip
    try simp only [Act.put, List.setIfInBounds_toArray, List.set_cons_zero, List.set_cons_succ]
    refine take_dstH (i := 17) (d := 56) (v := ?_) rfl rfl (by kernel_rfl) (by kernel_rfl) (by kernel_rfl) (fun _ _ _ h => h) (by rfl) hHeld ?_ ?_
    rotate_left
    · intro wZ hSw; clear hSw; go_simp; first | (with_reducible rfl) | (rw [if_pos (by omega)]; with_reducible rfl) | skip
    try simp only [Act.put, List.setIfInBounds_toArray, List.set_cons_zero, List.set_cons_succ]
    refine take_dstH (i := 18) (d := 9) (v := ?_) rfl rfl (by kernel_rfl) (by kernel_rfl) (by kernel_rfl) (fun _ _ _ h => h) (by rfl) hHeld ?_ ?_
    rotate_left
    · intro wZ hSw; clear hSw; go_simp; first | (with_reducible rfl) | (rw [if_pos (by omega)]; with_reducible rfl) | skip
    try simp only [Act.put, List.setIfInBounds_toArray, List.set_cons_zero, List.set_cons_succ]
    refine take_dstH (i := 19) (d := 10) (v := ?_) rfl rfl (by kernel_rfl) (by kernel_rfl) (by kernel_rfl) (fun _ _ _ h => h) (by rfl) hHeld ?_ ?_
    rotate_left
    · intro wZ hSw; clear hSw; go_simp; first | (with_reducible rfl) | (rw [if_pos (by omega)]; with_reducible rfl) | skip
    try simp only [Act.put, List.setIfInBounds_toArray, List.set_cons_zero, List.set_cons_succ]
    refine wpAnyH_done (by kernel_rfl) ?_ _
    have BW : Hid (Below w2.heap.size w2 wa) := HB8.out.trans (HBa.out.mono HB8.out.size)
    have HLa := hide (HLk.out wa BW.out)
    clear hHeld HBa hck hcd hcn HIK HKI HS HLk HPv PQ O9 HB8
    have HNE : Hid (u.ownBlock ≠ some g) := own_ne_arr OA.out HLa.out.a (by decide)
    obtain ⟨nx, hnx⟩ : ∃ nx : Nat, nx = L.next + 1 := ⟨_, rfl⟩
    have HNX := hide hnx
    have hwr := HWR.out
    rw [← hnx] at hwr
    clear hnx HWR
    have c50 := HLa.out.cells.2.2.1
    have f50 := HLa.out.a.frozen 50
    have e1 : (lkC L).set 50 (.int .u64 (nx : Int)) = lkC { L with next := nx } := lkC_next HKL.out _
    have A1 := HLa.out.a.set 50 (.int .u64 (nx : Int))
    rw [e1] at A1
    have HA1 := hide A1
    have HG1 : Hid (w2.grownBy (wa.setCell ⟨g, 50, none⟩ (.int .u64 (nx : Int))) (some g)) := grown_trans (below_grown BW.out _) (lk_grown_set _ _ _ _)
    have HO1 : Hid ((wa.setCell ⟨g, 50, none⟩ (.int .u64 (nx : Int))).ownsRow w2.heap.size 5 1 u (n + 28) (u8s PA)) := OA.out.kept (lk_grown_set _ _ _ _) (.inr HNE.out)
    have HK1 : Hid (IsKey ({ L with next := nx } : Lk).code ({ L with next := nx } : Lk).mark) := HKL.out
    have HLN : Hid (57 + (ecC false 0 0).toArray.size ≤ (lkC { L with next := nx }).length) := by show _ ≤ _; rw [lkC_length HK1.out]; simp
    have HSN := hide (lkC_echo HK1.out false 0 0)
    clear A1 e1
    go_wp2_with (first
      | (refine wpList_build_of rfl 61 #[] rfl [] rfl (ecC false 0 0).toArray (by kernel_rfl) ?_)
      | (refine wpList_store_in rfl rfl 61 (.tmp 67) (.tmp 65) rfl g 57 (ecC false 0 0).toArray rfl rfl 63 (lkC { L with next := nx }) HA1.out infoEc HLN.out (one_ecC _ _ _) ?_; rw [HSN.out]))
    go_ret2
    exact ⟨u, rfl, HO1.out.kept (lk_grown_row _ _ _) (.inr HNE.out), ⟨sent_row HA1.out HNX.out, HOK.out⟩, grown_trans HG1.out (lk_grown_row _ _ _)⟩

end Go.Proofs.YtbmjlofehbbkbaaDoor

/- Walks: what stands against a packet; what a packet tells (read): errors. -/
namespace Go.Proofs.YtbmjlofehbbkbaaDoor
open Go.RowKit

set_option maxHeartbeats 2000000 in
set_option maxRecDepth 100000 in
theorem against_any (g : Nat) (L : Lk) (d : Bool) (n : Nat) (w : World) (h : LkAt w g L) :
    Calls Tryd.prog 35 #[.pointer (some ⟨g, 0, none⟩), noV d n] w fun e w' => e = .returned (.int .i64 (againstF L d)) ∧ Below w.heap.size w w' := by
  have A1 : Hid (Arr (w.alloc (Obj.cells #[Value.bool d, Value.int .u64 (n : Int)] 41)) w.heap.size 41 (noC d n) ∧ Below w.heap.size w (w.alloc (Obj.cells #[Value.bool d, Value.int .u64 (n : Int)] 41))) := ⟨Arr.new w _ _, (Below.refl _ _).alloc (Nat.le_refl _) _⟩
  have HL := hide (fun (v : World) (hb : Below w.heap.size w v) => (h.kept hb).cells.1)
  have HR : Hid ((d == L.down) = decide (d = L.down)) := by cases d <;> cases L.down <;> rfl
  have HA : Hid (againstF L d = if decide (d = L.down) = true then 90 else 0) := by show againstF L d = _; unfold againstF; simp
  generalize decide (d = L.down) = r at *
  clear h
  generalize againstF L d = E at *
  go_enter Tryd.func35, Tryd.ntmps35
  go_upto_region 1 with fail
  generalize w.alloc (Obj.cells #[Value.bool d, Value.int .u64 (n : Int)] 41) = w1 at *
  have h0 : Hid (∀ v, Hid (Below w.heap.size w v ∧ Arr v w.heap.size 41 (noC d n)) → v.cell? ⟨w.heap.size, 0, none⟩ = some (.bool d)) := fun v hv => hv.out.2.cell 0
  have h1 : Hid (∀ v, Hid (Below w.heap.size w v ∧ Arr v w.heap.size 41 (noC d n)) → v.cell? ⟨g, 48, none⟩ = some (.bool L.down)) := fun v hv => HL.out v hv.out.1
  refine wp_region_held_drew (S := fun v => Hid (Below w.heap.size w v ∧ Arr v w.heap.size 41 (noC d n))) (by kernel_rfl) (hide ⟨A1.out.2.drew, A1.out.1⟩) (fun hHeld => ?_)
  refine take_dstH (i := 0) (d := 5) (v := ?_) rfl rfl (by kernel_rfl) (by kernel_rfl) (by kernel_rfl) (fun _ _ _ h => h) (by rfl) hHeld ?_ ?_
  rotate_left
  · intro wZ hSw; clear hSw; go_simp; first | (with_reducible rfl) | (rw [if_pos (by omega)]; with_reducible rfl) | skip
  try simp only [Act.put, List.setIfInBounds_toArray, List.set_cons_zero, List.set_cons_succ]
  refine take_dstH (i := 1) (d := 6) (v := ?_) rfl rfl (by kernel_rfl) (by kernel_rfl) (by kernel_rfl) (fun _ _ _ h => h) (by rfl) hHeld ?_ ?_
  rotate_left
  · intro wZ hSw; have hfS := h0.out wZ hSw; clear hSw; go_simp; first | (with_reducible rfl) | (rw [if_pos (by omega)]; with_reducible rfl) | skip
  try simp only [Act.put, List.setIfInBounds_toArray, List.set_cons_zero, List.set_cons_succ]
  refine take_dstH (i := 2) (d := 7) (v := ?_) rfl rfl (by kernel_rfl) (by kernel_rfl) (by kernel_rfl) (fun _ _ _ h => h) (by rfl) hHeld ?_ ?_
  rotate_left
  · intro wZ hSw; clear hSw; go_simp; first | (with_reducible rfl) | (rw [if_pos (by omega)]; with_reducible rfl) | skip
  try simp only [Act.put, List.setIfInBounds_toArray, List.set_cons_zero, List.set_cons_succ]
  refine take_dstH (i := 3) (d := 8) (v := ?_) rfl rfl (by kernel_rfl) (by kernel_rfl) (by kernel_rfl) (fun _ _ _ h => h) (by rfl) hHeld ?_ ?_
  rotate_left
  · intro wZ hSw; clear hSw; go_simp; first | (with_reducible rfl) | (rw [if_pos (by omega)]; with_reducible rfl) | skip
  try simp only [Act.put, List.setIfInBounds_toArray, List.set_cons_zero, List.set_cons_succ]
  refine take_dstH (i := 4) (d := 9) (v := ?_) rfl rfl (by kernel_rfl) (by kernel_rfl) (by kernel_rfl) (fun _ _ _ h => h) (by rfl) hHeld ?_ ?_
  rotate_left
  · intro wZ hSw; clear hSw; go_simp; first | (with_reducible rfl) | (rw [if_pos (by omega)]; with_reducible rfl) | skip
  try simp only [Act.put, List.setIfInBounds_toArray, List.set_cons_zero, List.set_cons_succ]
  refine take_dstH (i := 5) (d := 10) (v := ?_) rfl rfl (by kernel_rfl) (by kernel_rfl) (by kernel_rfl) (fun _ _ _ h => h) (by rfl) hHeld ?_ ?_
  rotate_left
  · intro wZ hSw; have hfS := h1.out wZ hSw; clear hSw; go_simp; first | (with_reducible rfl) | (rw [if_pos (by omega)]; with_reducible rfl) | skip
  try simp only [Act.put, List.setIfInBounds_toArray, List.set_cons_zero, List.set_cons_succ]
  refine take_dstH (i := 6) (d := 11) (v := ?_) rfl rfl (by kernel_rfl) (by kernel_rfl) (by kernel_rfl) (fun _ _ _ h => h) (by rfl) hHeld ?_ ?_
  rotate_left
  · intro wZ hSw; clear hSw; go_simp; first | (with_reducible rfl) | (rw [if_pos (by omega)]; with_reducible rfl) | skip
  try simp only [Act.put, List.setIfInBounds_toArray, List.set_cons_zero, List.set_cons_succ]
  refine wpAnyH_done (by kernel_rfl) ?_ _
  have HB := hide hHeld.out.1
  have hr := HR.out
  have hE := HA
  clear hHeld A1 HL HR HA h0 h1
  cases r
  all_goals
    simp only [hr]
    go_wp2
    go_ret
    exact ⟨by rw [hE.out]; rfl, HB.out⟩

/-- what a packet tells -/
abbrev lpC (n : Nat) (s x : Int) (t : Value) : List Value := [.int .u64 (n : Int), .int .i64 s, .int .i64 x, t]
abbrev lpZ : List Value := [.int .u64 0, .int .i64 0, .int .i64 0, .slice none 0 0]
theorem infoLp : (Tryd.prog.info? 82).map (·.size) = some 4 := by kernel_rfl
theorem one_lpZ : lpZ.toArray.all (·.oneCell') = true := by simp [Value.oneCell']
theorem one_lpC (n : Nat) (s x : Int) (q : Option Addr) (k c : Nat) : (lpC n s x (.slice q k c)).toArray.all (·.oneCell') = true := by simp [Value.oneCell']
theorem lpZ_built : Tryd.prog.built 82 [] = some lpZ.toArray := by kernel_rfl
theorem lpN_built (n : Nat) : Tryd.prog.built 82 [(0, .int .u64 (n : Int))] = some (lpC n 0 0 (.slice none 0 0)).toArray := by kernel_rfl

/-- a key, and a packet of nothing -/
theorem rd_boxes (w : World) (code mark : List Nat) : Arr ((w.alloc (Obj.cells (kCells code mark).toArray 25)).alloc (Obj.cells #[Value.int .u64 0, Value.int .i64 0, Value.int .i64 0, Value.slice none 0 0] 82)) w.heap.size 25 (kCells code mark) ∧ Arr ((w.alloc (Obj.cells (kCells code mark).toArray 25)).alloc (Obj.cells #[Value.int .u64 0, Value.int .i64 0, Value.int .i64 0, Value.slice none 0 0] 82)) (w.heap.size + 1) 82 lpZ ∧ Below w.heap.size w ((w.alloc (Obj.cells (kCells code mark).toArray 25)).alloc (Obj.cells #[Value.int .u64 0, Value.int .i64 0, Value.int .i64 0, Value.slice none 0 0] 82)) :=
  boxes w (kCells code mark) lpZ 25 82

set_option maxHeartbeats 4000000 in
set_option maxRecDepth 100000 in
theorem read_bad (code mark : List Nat) (p : Option Addr) (c n : Nat) (fv : Value) (E : Int) (w : World) (hk : IsKey code mark) (hE : E ≠ 0)
    (hO : ∀ v : World, Below w.heap.size w v → Calls Tryd.prog 9 #[keyV code mark, .slice p n c] v fun e w' => e = .returned (.tuple #[noV false 0, .slice none 0 0, .int .i64 E]) ∧ Below v.heap.size v w') :
    Calls Tryd.prog 34 #[keyV code mark, .slice p n c, fv] w fun e w' => e = .returned (.tuple #[.agg lpZ.toArray, .int .i64 E]) ∧ Below w.heap.size w w' := by
  have HO := hide hO
  have IK := hide hk.info
  have A1 := hide (rd_boxes w code mark)
  have hne : (E == 0) = false := by simpa using hE
  have hne2 : (E != 0) = true := by simpa using hE
  clear hO hk hE
  go_enter Tryd.func34, Tryd.ntmps34
  go_upto_region 1 with fail
  generalize (w.alloc (Obj.cells (kCells code mark).toArray 25)).alloc (Obj.cells #[Value.int .u64 0, Value.int .i64 0, Value.int .i64 0, Value.slice none 0 0] 82) = w1 at *
  go_cut [8, 9, 10] (fun _ _ s10 wx => s10 = .int .i64 E ∧ Hid (Arr wx (w.heap.size + 1) 82 lpZ ∧ Below w.heap.size w wx))
  case first =>
    go_wp2_with (first
      | (refine wpList_load_row rfl 25 _ rfl w.heap.size rfl 25 _ (0, 0) _ A1.out.1 Tryd.underlying25 rfl IK.out ?_)
      | (refine (HO.out _ A1.out.2.2).mono ?_; rintro e w2 ⟨rfl, hb2⟩; have A2 : Hid (Arr w2 (w.heap.size + 1) 82 lpZ ∧ Below w.heap.size w w2) := ⟨A1.out.2.1.kept hb2, A1.out.2.2.trans (hb2.mono A1.out.2.2.size)⟩; clear hb2))
    go_meet
    case rel => exact ⟨rfl, A2.out.1.alloc _, A2.out.2.alloc A2.out.2.size _⟩
  case rest =>
    clear A1 HO
    obtain ⟨rfl, A2⟩ := hcut
    go_wp2_with (first
      | (refine wpList_build_of rfl 82 #[] rfl [] rfl lpZ.toArray lpZ_built ?_)
      | (refine wpList_store_row rfl 82 _ _ rfl (w.heap.size + 1) lpZ.toArray rfl rfl 82 lpZ.toArray A2.out.1 infoLp rfl one_lpZ ?_))
    exact bodyPost_ret (results_ct Tryd.results34 _ _ (w.heap.size + 1) lpZ rfl (A2.out.1.row _) Tryd.underlying82 rfl infoLp) rfl ⟨rfl, below_setRow A2.out.2 (Nat.le_succ _) A2.out.1.lt _⟩

end Go.Proofs.YtbmjlofehbbkbaaDoor

/- Walks: what a packet tells (read): one of the end's own direction; one that is whole. -/
namespace Go.Proofs.YtbmjlofehbbkbaaDoor
open Go.RowKit

/-- what lies in memory once a packet was opened -/
structure RdS (w wx : World) (g8 : Nat) (d : Bool) (m : Nat) (p : Option Addr) (c : Nat) (T : List Nat) : Prop where
  n : Arr wx g8 41 (noC d m)
  t : Piece wx p c T
  r : Arr wx (w.heap.size + 1) 82 lpZ
  b : Below w.heap.size w wx
  g : w.heap.size ≤ g8
theorem RdS.kept {w wx w' : World} {g8 : Nat} {d : Bool} {m : Nat} {p : Option Addr} {c : Nat} {T : List Nat} (h : RdS w wx g8 d m p c T) (hb : Below wx.heap.size wx w') : RdS w w' g8 d m p c T :=
  ⟨h.n.kept hb, h.t.kept hb, h.r.kept hb, h.b.trans (hb.mono h.b.size), h.g⟩

set_option maxHeartbeats 4000000 in
set_option maxRecDepth 100000 in
theorem read_way (code mark : List Nat) (p : Option Addr) (c n k : Nat) (g : Nat) (d : Bool) (m : Nat) (T : List Nat) (E : Int) (w : World) (hk : IsKey code mark) (hE : E ≠ 0) (hT : T.length = k) (hTb : BytesN T)
    (hO : ∀ v : World, Below w.heap.size w v → Calls Tryd.prog 9 #[keyV code mark, .slice p n c] v fun e w' => ∃ u, e = .returned (.tuple #[noV d m, u, .int .i64 0]) ∧ w'.ownsRow v.heap.size 5 1 u k (u8s T) ∧ Below v.heap.size v w')
    (hA : ∀ v : World, Below w.heap.size w v → Calls Tryd.prog 35 #[.pointer (some ⟨g, 0, none⟩), noV d m] v fun e w' => e = .returned (.int .i64 E) ∧ Below v.heap.size v w') :
    Calls Tryd.prog 34 #[keyV code mark, .slice p n c, .func (.func 35) #[.pointer (some ⟨g, 0, none⟩)] #[]] w fun e w' => e = .returned (.tuple #[.agg lpZ.toArray, .int .i64 E]) ∧ Below w.heap.size w w' := by
  have HO := hide hO
  have HA := hide hA
  have IK := hide hk.info
  have HT := hide hT
  have HTB := hide hTb
  have A1 := hide (rd_boxes w code mark)
  have hne : (E == 0) = false := by simpa using hE
  have hne2 : (E != 0) = true := by simpa using hE
  clear hO hk hE hA hT hTb
  go_enter Tryd.func34, Tryd.ntmps34
  go_upto_region 1 with fail
  generalize (w.alloc (Obj.cells (kCells code mark).toArray 25)).alloc (Obj.cells #[Value.int .u64 0, Value.int .i64 0, Value.int .i64 0, Value.slice none 0 0] 82) = w1 at *
  go_cut [8, 9, 10] (fun s8 s9 s10 wx => s10 = .int .i64 0 ∧ ∃ (g8 : Nat) (p2 : Option Addr) (c2 : Nat), s8 = .pointer (some ⟨g8, 0, none⟩) ∧ s9 = .slice p2 k c2 ∧ Hid (RdS w wx g8 d m p2 c2 T))
  case first =>
    go_wp2_with (first
      | (refine wpList_load_row rfl 25 _ rfl w.heap.size rfl 25 _ (0, 0) _ A1.out.1 Tryd.underlying25 rfl IK.out ?_)
      | (refine (HO.out _ A1.out.2.2).mono ?_; rintro e w2 ⟨u, rfl, ho2, hb2⟩; obtain ⟨p2, c2, rfl, hp2, _⟩ := own_piece_n ho2 HT.out HTB.out; have A2 : Hid (Arr w2 (w.heap.size + 1) 82 lpZ ∧ Piece w2 p2 c2 T ∧ Below w.heap.size w w2) := ⟨A1.out.2.1.kept hb2, hp2, A1.out.2.2.trans (hb2.mono A1.out.2.2.size)⟩; clear hb2 ho2 hp2))
    go_meet
    case rel => exact ⟨rfl, w2.heap.size, p2, c2, rfl, rfl, ⟨Arr.new w2 _ (noC d m), A2.out.2.1.kept ((Below.refl _ _).alloc (Nat.le_refl _) _), A2.out.1.alloc _, A2.out.2.2.alloc A2.out.2.2.size _, A2.out.2.2.size⟩⟩
  case rest =>
    clear A1 HO
    obtain ⟨rfl, g8, p2, c2, rfl, rfl, A2⟩ := hcut
    go_wp2_with (first
      | (refine wpList_load_row rfl 41 _ rfl g8 rfl 41 _ (0, 0) _ A2.out.n Tryd.underlying41 rfl infoN ?_)
      | (refine (HA.out _ A2.out.b).mono ?_; rintro e w3 ⟨rfl, hb3⟩; have A3 := hide (A2.out.kept hb3); clear hb3)
      | (refine wpList_build_of rfl 82 #[] rfl [] rfl lpZ.toArray lpZ_built ?_)
      | (refine wpList_store_row rfl 82 _ _ rfl (w.heap.size + 1) lpZ.toArray rfl rfl 82 lpZ.toArray A3.out.r infoLp rfl one_lpZ ?_))
    exact bodyPost_ret (results_ct Tryd.results34 _ _ (w.heap.size + 1) lpZ rfl (A3.out.r.row _) Tryd.underlying82 rfl infoLp) rfl ⟨rfl, below_setRow A3.out.b (Nat.le_succ _) A3.out.r.lt _⟩

end Go.Proofs.YtbmjlofehbbkbaaDoor

/- Walks: what a packet tells (read): its stamps and its text. -/
namespace Go.Proofs.YtbmjlofehbbkbaaDoor
open Go.RowKit

theorem wrap_small {x : Nat} (h : x < 65536) : wrap64 (x : Int) = (x : Int) := by unfold wrap64; omega
theorem Rd.keptg {A : Nat → Prop} {w w' : World} {b g : Nat} {bs : List Int} {x : Int} (h : Rd A w b bs x) (hg : w.grownBy w' (some g)) (hb : b ≠ g) (hA : ∀ k, A k → k ≠ g) : Rd A w' b bs x := by
  obtain ⟨p, cap, h0, h1, f0, f1, hl, hm, hs, hby, hne⟩ := h
  have hlt : b < w.heap.size := block_lt_of_cell h0
  have hblk := hg.block b hlt (fun e => hb (by cases e; rfl))
  refine ⟨p, cap, ?_, ?_, ?_, ?_, hl, hm, hs, bytes_kept hby hg (fun a ha e => hA _ (hne a ha).1 (by cases e; rfl)), hne⟩
  · exact hg.cell h0 (fun e => hb (by cases e; rfl))
  · exact hg.cell h1 (fun e => hb (by cases e; rfl))
  · unfold World.frozen? at f0 ⊢; rw [hblk]; exact f0
  · unfold World.frozen? at f1 ⊢; rw [hblk]; exact f1

/-- what lies in memory while a packet's text is read -/
structure RtS (w wx : World) (g8 gp gr : Nat) (d : Bool) (m : Nat) (s x : Int) (t : Value) (A : Nat → Prop) (bs : List Int) (e : Int) : Prop where
  n : Arr wx g8 41 (noC d m)
  r : Arr wx (w.heap.size + 1) 82 lpZ
  p : Arr wx gp 82 (lpC m s x t)
  rd : Rd A wx gr bs e
  b : Below w.heap.size w wx
  n8 : g8 ≠ gr
  np : gp ≠ gr
  nr : w.heap.size + 1 ≠ gr
  pp : w.heap.size + 1 ≠ gp
  g : w.heap.size ≤ gp
  gr : w.heap.size ≤ gr
  a : ∀ k, A k → k ≠ gp
theorem RtS.read {w wx w' : World} {g8 gp gr : Nat} {d : Bool} {m : Nat} {s x : Int} {t : Value} {A : Nat → Prop} {bs bs' : List Int} {e e' : Int} (h : RtS w wx g8 gp gr d m s x t A bs e) (hr : Rd A w' gr bs' e') (hg : wx.grownBy w' (some gr)) : RtS w w' g8 gp gr d m s x t A bs' e' :=
  ⟨h.n.grown hg h.n8, h.r.grown hg h.nr, h.p.grown hg h.np, hr, h.b.grown hg h.b.size (by intro k hk; cases hk; exact h.gr), h.n8, h.np, h.nr, h.pp, h.g, h.gr, h.a⟩
theorem RtS.store {w wx : World} {g8 gp gr : Nat} {d : Bool} {m : Nat} {s x : Int} {t : Value} {A : Nat → Prop} {bs : List Int} {e : Int} (h : RtS w wx g8 gp gr d m s x t A bs e) (i : Nat) (v : Value) {s' x' : Int} {t' : Value} (hv : (lpC m s x t).set i v = lpC m s' x' t') : RtS w (wx.setCell ⟨gp, i, none⟩ v) g8 gp gr d m s' x' t' A bs e := by
  have hg := lk_grown_set wx gp i v
  have h1 := h.p.set i v
  rw [hv] at h1
  have n1 : g8 ≠ gp := arr_ne h.n h.p (by decide)
  exact ⟨h.n.grown hg n1, h.r.grown hg h.pp, h1, h.rd.keptg hg (fun e => h.np e.symm) h.a, h.b.grown hg h.b.size (by intro k hk; cases hk; exact h.g), h.n8, h.np, h.nr, h.pp, h.g, h.gr, h.a⟩
theorem RtS.kept {w wx w' : World} {g8 gp gr : Nat} {d : Bool} {m : Nat} {s x : Int} {t : Value} {A : Nat → Prop} {bs : List Int} {e : Int} (h : RtS w wx g8 gp gr d m s x t A bs e) (hb : Below wx.heap.size wx w') : RtS w w' g8 gp gr d m s x t A bs e :=
  ⟨h.n.kept hb, h.r.kept hb, h.p.kept hb, h.rd.kept hb, h.b.trans (hb.mono h.b.size), h.n8, h.np, h.nr, h.pp, h.g, h.gr, h.a⟩

set_option maxHeartbeats 8000000 in
set_option maxRecDepth 100000 in
theorem read_of (code mark : List Nat) (p : Option Addr) (c n k : Nat) (g : Nat) (d : Bool) (m : Nat) (T : List Nat) (w : World) (hk : IsKey code mark) (hT : T.length = k) (hTb : BytesN T) (hbig : k ≤ 90000)
    (m1 m2 : Nat) (b1 b2 b3 ys : List Int) (x1 x2 x3 : Int) (h1 : sFix 2 (T.map Int.ofNat) 0 = (m1, b1, x1)) (h2 : sFix 2 b1 x1 = (m2, b2, x2)) (h3 : sRest b2 x2 = (ys, b3, x3)) (hm1 : m1 < 65536) (hm2 : m2 < 65536) (hys : ∀ y ∈ ys, 0 ≤ y ∧ y < 256)
    (hO : ∀ v : World, Below w.heap.size w v → Calls Tryd.prog 9 #[keyV code mark, .slice p n c] v fun e w' => ∃ u, e = .returned (.tuple #[noV d m, u, .int .i64 0]) ∧ w'.ownsRow v.heap.size 5 1 u k (u8s T) ∧ Below v.heap.size v w')
    (hA : ∀ v : World, Below w.heap.size w v → Calls Tryd.prog 35 #[.pointer (some ⟨g, 0, none⟩), noV d m] v fun e w' => e = .returned (.int .i64 0) ∧ Below v.heap.size v w') :
    Calls Tryd.prog 34 #[keyV code mark, .slice p n c, .func (.func 35) #[.pointer (some ⟨g, 0, none⟩)] #[]] w fun e w' =>
      (if x3 ≠ 0 ∨ m1 = 65535 then e = .returned (.tuple #[.agg lpZ.toArray, .int .i64 4]) else ∃ q cq, e = .returned (.tuple #[.agg (lpC m (m1 : Int) (m2 : Int) (.slice q ys.length cq)).toArray, .int .i64 0]) ∧ w'.ownsRow w.heap.size 5 1 (.slice q ys.length cq) ys.length (ys.map (Value.int .u8))) ∧ Below w.heap.size w w' := by
  have HO := hide hO
  have HA := hide hA
  have IK := hide hk.info
  have HT := hide hT
  have HTB := hide hTb
  have A1 := hide (rd_boxes w code mark)
  have HOP := hide (fun (v : World) (q : Option Addr) (cq : Nat) (hq : Piece v q cq T) => open_any q cq (T.map Int.ofNat) v (by rw [List.length_map]; omega) (bytesIn_of hq))
  simp only [List.length_map, hT] at HOP
  have HF1 := hide (fun (A : Nat → Prop) (v : World) (b : Nat) (hr : Rd A v b (T.map Int.ofNat) 0) => rfix_any b 2 (T.map Int.ofNat) 0 v hr)
  have HF2 := hide (fun (A : Nat → Prop) (v : World) (b : Nat) (hr : Rd A v b b1 x1) => rfix_any b 2 b1 x1 v hr)
  have HF3 := hide (fun (A : Nat → Prop) (v : World) (b : Nat) (hr : Rd A v b b2 x2) => rest_any b b2 x2 v hr)
  rw [h1] at HF1
  rw [h2] at HF2
  rw [h3] at HF3
  have HER := hide (fun (A : Nat → Prop) (v : World) (b : Nat) (hr : Rd A v b b3 x3) => err_rd b b3 x3 v hr)
  have hw1 := wrap_small hm1
  have hw2 := wrap_small hm2
  have HYS := hide hys
  clear hO hk hA hT hTb hbig h1 h2 h3 hm1 hm2 hys
  simp only at HF1 HF2 HF3
  generalize T.map Int.ofNat = bs at *
  go_enter Tryd.func34, Tryd.ntmps34
  go_upto_region 1 with fail
  generalize (w.alloc (Obj.cells (kCells code mark).toArray 25)).alloc (Obj.cells #[Value.int .u64 0, Value.int .i64 0, Value.int .i64 0, Value.slice none 0 0] 82) = w1 at *
  go_cut [8, 9, 10] (fun s8 s9 s10 wx => s10 = .int .i64 0 ∧ ∃ (g8 : Nat) (p2 : Option Addr) (c2 : Nat), s8 = .pointer (some ⟨g8, 0, none⟩) ∧ s9 = .slice p2 k c2 ∧ Hid (RdS w wx g8 d m p2 c2 T))
  case first =>
    go_wp2_with (first
      | (refine wpList_load_row rfl 25 _ rfl w.heap.size rfl 25 _ (0, 0) _ A1.out.1 Tryd.underlying25 rfl IK.out ?_)
      | (refine (HO.out _ A1.out.2.2).mono ?_; rintro e w2 ⟨u, rfl, ho2, hb2⟩; obtain ⟨p2, c2, rfl, hp2, _⟩ := own_piece_n ho2 HT.out HTB.out; have A2 : Hid (Arr w2 (w.heap.size + 1) 82 lpZ ∧ Piece w2 p2 c2 T ∧ Below w.heap.size w w2) := ⟨A1.out.2.1.kept hb2, hp2, A1.out.2.2.trans (hb2.mono A1.out.2.2.size)⟩; clear hb2 ho2 hp2))
    go_meet
    case rel => exact ⟨rfl, w2.heap.size, p2, c2, rfl, rfl, ⟨Arr.new w2 _ (noC d m), A2.out.2.1.kept ((Below.refl _ _).alloc (Nat.le_refl _) _), A2.out.1.alloc _, A2.out.2.2.alloc A2.out.2.2.size _, A2.out.2.2.size⟩⟩
  case rest =>
    clear A1 HO
    obtain ⟨rfl, g8, p2, c2, rfl, rfl, A2⟩ := hcut
    go_upto_region 8 with (first
      | (refine wpList_load_row rfl 41 _ rfl g8 rfl 41 _ (0, 0) _ A2.out.n Tryd.underlying41 rfl infoN ?_)
      | (refine (HA.out _ A2.out.b).mono ?_; rintro e w3 ⟨rfl, hb3⟩; have A3 := hide (A2.out.kept hb3); clear hb3)
      | (refine (HOP.out _ _ _ A3.out.t).mono ?_; rintro e w4 ⟨gr, rfl, hgr, hrd, hb4⟩; have A4 := hide (A3.out.kept hb4); have R4 := hide hrd; have G4 : Hid (w3.heap.size ≤ gr) := hgr; have L3 : Hid (g8 < w3.heap.size ∧ w.heap.size + 1 < w3.heap.size) := ⟨A3.out.n.lt, A3.out.r.lt⟩; have W3 : Hid (w.heap.size ≤ w3.heap.size) := A3.out.b.size; have B4 : Hid (w3.heap.size ≤ w4.heap.size) := hb4.size; clear hb4 hrd hgr))
    have c1 := A4.out.n.cell 1
    simp only [List.getElem?_cons_zero, List.getElem?_cons_succ] at c1
    have HS5 : Hid (RtS w (w4.alloc (Obj.cells #[Value.int .u64 (m : Int), Value.int .i64 0, Value.int .i64 0, Value.slice none 0 0] 82)) g8 w4.heap.size gr d m 0 0 (.slice none 0 0) (fun k => w3.heap.size ≤ k ∧ k < gr) bs 0) := by
      have hlt := R4.out.lt
      have l1 := L3.out
      have l2 := G4.out
      have l3 := B4.out
      exact ⟨A4.out.n.alloc _, A4.out.r.alloc _, Arr.new w4 _ (lpC m 0 0 (.slice none 0 0)), R4.out.kept ((Below.refl _ _).alloc (Nat.le_refl _) _), A4.out.b.alloc A4.out.b.size _, by omega, by omega, by omega, by omega, A4.out.b.size, Nat.le_trans W3.out l2, fun k hk => by omega⟩
    go_upto_region 9 with (refine wpList_build_of rfl 82 #[(0, .tmp 35)] rfl [(0, .int .u64 (m : Int))] (by simp [Act.eval, Act.put]) (lpC m 0 0 (.slice none 0 0)).toArray (lpN_built m) ?_)
    clear A2 A3 A4 R4 G4 L3 B4 c1 HA HOP W3
    generalize w4.alloc (Obj.cells #[Value.int .u64 (m : Int), Value.int .i64 0, Value.int .i64 0, Value.slice none 0 0] 82) = w5 at *
    generalize w4.heap.size = gp at *
    generalize (fun k => w3.heap.size ≤ k ∧ k < gr) = A at *
    go_wp2_with fail
    refine (HF1.out A w5 gr HS5.out.rd).mono ?_
    rintro e w6 ⟨rfl, hr6, hg6⟩
    have HS6 := hide (HS5.out.read hr6 hg6)
    clear hr6 hg6 HS5 HF1
    have c1 := HS6.out.p.cell 1
    have f1 := HS6.out.p.frozen 1
    simp only [List.getElem?_cons_zero, List.getElem?_cons_succ] at c1
    have HS7 := hide (HS6.out.store (s' := (m1 : Int)) (x' := 0) (t' := .slice none 0 0) 1 (.int .i64 (m1 : Int)) rfl)
    go_upto_region 10 with fail
    clear c1 f1 HS6 hw1
    generalize w6.setCell ⟨gp, 1, none⟩ (.int .i64 (m1 : Int)) = w7 at *
    go_wp2_with fail
    refine (HF2.out A w7 gr HS7.out.rd).mono ?_
    rintro e w8 ⟨rfl, hr8, hg8⟩
    have HS8 := hide (HS7.out.read hr8 hg8)
    clear hr8 hg8 HS7 HF2
    have c2' := HS8.out.p.cell 2
    have f2 := HS8.out.p.frozen 2
    simp only [List.getElem?_cons_zero, List.getElem?_cons_succ] at c2'
    have HS9 := hide (HS8.out.store (s' := (m1 : Int)) (x' := (m2 : Int)) (t' := .slice none 0 0) 2 (.int .i64 (m2 : Int)) rfl)
    go_upto_region 11 with fail
    clear c2' f2 HS8 hw2
    generalize w8.setCell ⟨gp, 2, none⟩ (.int .i64 (m2 : Int)) = w9 at *
    go_wp2_with fail
    refine (HF3.out A w9 gr HS9.out.rd).mono ?_
    rintro e wa ⟨v, rfl, hown, hra, hga⟩
    obtain ⟨q, cq, rfl, _, _, _, _⟩ := own_bytes hown HYS.out
    have HSa := hide (HS9.out.read hra hga)
    have HOa := hide (own_base hown HS9.out.b.size)
    have HNa : Hid ((Value.slice q ys.length cq).ownBlock ≠ some gp) := own_ne_arr HOa.out HSa.out.p (by decide)
    have HNr : Hid ((Value.slice q ys.length cq).ownBlock ≠ some (w.heap.size + 1)) := own_ne_arr HOa.out HSa.out.r (by decide)
    clear hown hra hga HS9 HF3
    have c3 := HSa.out.p.cell 3
    have f3 := HSa.out.p.frozen 3
    simp only [List.getElem?_cons_zero, List.getElem?_cons_succ] at c3
    have HSb := hide (HSa.out.store (s' := (m1 : Int)) (x' := (m2 : Int)) (t' := .slice q ys.length cq) 3 (.slice q ys.length cq) rfl)
    have HOb := hide (HOa.out.kept (lk_grown_set wa gp 3 (.slice q ys.length cq)) (.inr HNa.out))
    go_upto_region 12 with fail
    clear c3 f3 HSa HOa
    generalize wa.setCell ⟨gp, 3, none⟩ (.slice q ys.length cq) = wb at *
    have c1 := HSb.out.p.cell 1
    simp only [List.getElem?_cons_zero, List.getElem?_cons_succ] at c1
    have HB := hide HSb.out.b
    by_cases hx : x3 = 0
    · by_cases hm : m1 = 65535
      · have HC : Hid (x3 ≠ 0 ∨ m1 = 65535) := Or.inr hm
        have e1 : (x3 != 0) = false := by simpa using hx
        have e2 : ((m1 : Int) == 65535) = true := by simp; omega
        clear hx hm
        go_wp2_with (first
          | (refine (HER.out _ _ _ HSb.out.rd).mono ?_; rintro e wx ⟨rfl, rfl⟩)
          | (refine wpList_build_of rfl 82 #[] rfl [] rfl lpZ.toArray lpZ_built ?_)
          | (refine wpList_store_row rfl 82 _ _ rfl (w.heap.size + 1) lpZ.toArray rfl rfl 82 lpZ.toArray HSb.out.r infoLp rfl one_lpZ ?_))
        exact bodyPost_ret (results_ct Tryd.results34 _ _ (w.heap.size + 1) lpZ rfl (HSb.out.r.row _) Tryd.underlying82 rfl infoLp) rfl ⟨rfl, below_setRow HSb.out.b (Nat.le_succ _) HSb.out.r.lt _⟩
      · have HC : Hid (¬ (x3 ≠ 0 ∨ m1 = 65535)) := by show ¬ _; omega
        have e1 : (x3 != 0) = false := by simpa using hx
        have e2 : ((m1 : Int) == 65535) = false := by simp; omega
        clear hx hm
        go_wp2_with (first
          | (refine (HER.out _ _ _ HSb.out.rd).mono ?_; rintro e wx ⟨rfl, rfl⟩)
          | (refine wpList_exec (by rfl) _ (exec_load_all 82 (.tmp 13) rfl gp rfl 82 (lpC m (m1 : Int) (m2 : Int) (.slice q ys.length cq)) _ HSb.out.p Tryd.underlying82 rfl infoLp) ?_)
          | (refine wpList_store_row rfl 82 _ _ rfl (w.heap.size + 1) (lpC m (m1 : Int) (m2 : Int) (.slice q ys.length cq)).toArray rfl rfl 82 lpZ.toArray HSb.out.r infoLp rfl (one_lpC _ _ _ _ _ _) ?_))
        exact bodyPost_ret (results_ct Tryd.results34 _ _ (w.heap.size + 1) (lpC m (m1 : Int) (m2 : Int) (.slice q ys.length cq)) rfl (HSb.out.r.row _) Tryd.underlying82 rfl infoLp) rfl ⟨⟨q, cq, rfl, HOb.out.kept (lk_grown_row _ _ _) (.inr HNr.out)⟩, below_setRow HSb.out.b (Nat.le_succ _) HSb.out.r.lt _⟩
    · have HC : Hid (x3 ≠ 0 ∨ m1 = 65535) := Or.inl hx
      have e1 : (x3 != 0) = true := by simpa using hx
      clear hx
      go_wp2_with (first
        | (refine (HER.out _ _ _ HSb.out.rd).mono ?_; rintro e wx ⟨rfl, rfl⟩)
        | (refine wpList_build_of rfl 82 #[] rfl [] rfl lpZ.toArray lpZ_built ?_)
        | (refine wpList_store_row rfl 82 _ _ rfl (w.heap.size + 1) lpZ.toArray rfl rfl 82 lpZ.toArray HSb.out.r infoLp rfl one_lpZ ?_))
      exact bodyPost_ret (results_ct Tryd.results34 _ _ (w.heap.size + 1) lpZ rfl (HSb.out.r.row _) Tryd.underlying82 rfl infoLp) rfl ⟨rfl, below_setRow HSb.out.b (Nat.le_succ _) HSb.out.r.lt _⟩

end Go.Proofs.YtbmjlofehbbkbaaDoor
