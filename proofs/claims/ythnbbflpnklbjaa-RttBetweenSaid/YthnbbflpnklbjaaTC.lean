/-
  Walks: Wait; a meter behind one sample; Hear.
-/
import Derived.Test.YthnbbflpnklbjaaTB
namespace Go.Proofs.Ythnbbflpnklbjaa
open Go.RowKit

set_option maxHeartbeats 4000000 in
set_option maxRecDepth 100000 in
theorem wait_any (m : Me) (w : World) :
    Calls Try.prog 15 #[meV m] w fun e w' => e = .returned (.int .i64 (waitF m)) ∧ Below w.heap.size w w' := by
  have A1 := hide (me_box w m)
  have HM := hide (fun v : World => may_any m v)
  by_cases hm : m.may
  · rw [decide_eq_true hm] at HM
    have HE := hide (fun v : World => run_eq_me m Me.none v)
    rw [← may_zeroF' hm] at HE
    by_cases h0 : m.a = 0
    · rw [waitF, if_neg (by simp [h0])]
      rw [decide_eq_true h0] at HE
      clear hm h0
      go_enter Try.func15, Try.ntmps15
      go_upto_region 1 with fail
      generalize w.alloc (Obj.cells #[Value.int .i64 m.a, Value.int .i64 m.b, Value.int .i64 m.c] 23) = w1 at *
      go_wp2_with (refine wpList_load_row rfl 23 _ rfl w.heap.size rfl 23 _ (0, 0) _ A1.out.1 Try.underlying23 rfl infoM ?_)
      refine (HM.out w1).mono ?_
      rintro e w2 ⟨rfl, hb⟩
      have A2 : Hid (Arr w2 w.heap.size 23 (meC m) ∧ Below w.heap.size w w2) := ⟨A1.out.1.kept hb, A1.out.2.trans (hb.mono A1.out.2.size)⟩
      clear hb A1
      go_wp2_with (first
        | (refine wpList_exec (by rfl) _ (exec_load_all 23 (.tmp 1) rfl w.heap.size rfl 23 (meC m) _ A2.out.1 Try.underlying23 rfl infoM) ?_)
        | (refine wpList_exec (by rfl) _ (exec_eql_agg 23 23 (.tmp 7) (.tmp 8) rfl (meC m).toArray (meC Me.none).toArray rfl rfl true (guardM _ _ _ _ _) (HE.out _)) ?_))
      go_ret
      exact ⟨rfl, A2.out.2⟩
    · rw [decide_eq_false h0] at HE
      have HN := hide (fun v : World => mean_any m v)
      have hq : waitF m = clF 50 1000 (meanF m + m.c) := by rw [waitF, if_pos ⟨hm, h0⟩, meanF, if_pos hm]
      have HW := hide (fun v : World => within_any 50 1000 v)
      have hws : IntKind.i64.wrap (meanF m + m.c) = meanF m + m.c := by
        rw [meanF, if_pos hm]; have := hm.2.2.1; have := hm.2.2.2.1; have := hm.2.2.2.2.1; have := hm.2.2.2.2.2.1
        simp [IntKind.wrap, IntKind.bits, IntKind.signed]; omega
      rw [hq]
      clear hm h0 hq
      generalize meanF m = mq at *
      generalize hqq : mq + m.c = q at *
      go_enter Try.func15, Try.ntmps15
      go_upto_region 1 with fail
      generalize w.alloc (Obj.cells #[Value.int .i64 m.a, Value.int .i64 m.b, Value.int .i64 m.c] 23) = w1 at *
      go_wp2_with (refine wpList_load_row rfl 23 _ rfl w.heap.size rfl 23 _ (0, 0) _ A1.out.1 Try.underlying23 rfl infoM ?_)
      refine (HM.out w1).mono ?_
      rintro e w2 ⟨rfl, hb⟩
      have A2 : Hid (Arr w2 w.heap.size 23 (meC m) ∧ Below w.heap.size w w2) := ⟨A1.out.1.kept hb, A1.out.2.trans (hb.mono A1.out.2.size)⟩
      clear hb A1
      go_upto_region 3 with (first
        | (refine wpList_exec (by rfl) _ (exec_load_all 23 (.tmp 1) rfl w.heap.size rfl 23 (meC m) _ A2.out.1 Try.underlying23 rfl infoM) ?_)
        | (refine wpList_exec (by rfl) _ (exec_eql_agg 23 23 (.tmp 7) (.tmp 8) rfl (meC m).toArray (meC Me.none).toArray rfl rfl false (guardM _ _ _ _ _) (HE.out _)) ?_))
      refine wp_region_held_drew (S := fun v => Hid (Arr v w.heap.size 23 (meC m) ∧ Below w.heap.size w v)) (by kernel_rfl) (hide ⟨A2.out.1, A2.out.2.drew⟩) (fun hHeld => ?_)
      refine take_dstH (i := 1) (d := 12) (v := ?_) rfl rfl (by kernel_rfl) (by kernel_rfl) (by kernel_rfl) (fun _ _ _ h => h) (by rfl) hHeld ?_ ?_
      rotate_left
      · intro wZ hSw; refine exec_load_all 23 (.tmp 1) ?_ w.heap.size ?_ 23 (meC m) _ (Hid.out hSw).1 Try.underlying23 rfl infoM <;> rfl
      try simp only [Act.put, List.setIfInBounds_toArray, List.set_cons_zero, List.set_cons_succ]
      refine take_dstH (i := 3) (d := 14) (v := ?_) rfl rfl (by kernel_rfl) (by kernel_rfl) (by kernel_rfl) (fun _ _ _ h => h) (by rfl) hHeld ?_ ?_
      rotate_left
      · intro wZ hSw; clear hSw; go_simp; first | (with_reducible rfl) | (rw [if_pos (by omega)]; with_reducible rfl) | skip
      try simp only [Act.put, List.setIfInBounds_toArray, List.set_cons_zero, List.set_cons_succ]
      refine take_dstH (i := 4) (d := 15) (v := ?_) rfl rfl (by kernel_rfl) (by kernel_rfl) (by kernel_rfl) (fun _ _ _ h => h) (by rfl) hHeld ?_ ?_
      rotate_left
      · intro wZ hSw; have hfS := (fun (v : World) (hv : Hid (Arr v w.heap.size 23 (meC m) ∧ Below w.heap.size w v)) => show v.cell? ⟨w.heap.size, 2, none⟩ = some (.int .i64 m.c) from hv.out.1.cell 2) wZ hSw; clear hSw; go_simp; first | (with_reducible rfl) | (rw [if_pos (by omega)]; with_reducible rfl) | skip
      try simp only [Act.put, List.setIfInBounds_toArray, List.set_cons_zero, List.set_cons_succ]
      refine wpAnyH_ready (rs := [0]) (by kernel_rfl) (by simp) ?_
      refine (AllReadyH.cons rfl (fun K hK => ?_) AllReadyH.nil)
      go_simp
      refine (HW.out _).mono ?_; rintro e wa ⟨vc, rfl, hvc, hba⟩; obtain ⟨gc, kc, rfl, CC'⟩ := cl_wi hvc; have CC := hide CC'; have HK : Hid (Arr wa w.heap.size 23 (meC m) ∧ Below w.heap.size w wa) := ⟨(Hid.out hHeld).1.kept hba, (Hid.out hHeld).2.trans (hba.mono (Hid.out hHeld).2.size)⟩; clear hba hvc CC'
      go_wp2_with fail
      refine hK.out _ _ ?_ (fun hHeld => ?_)
      · exact HK
      clear hK K
      try simp only [Act.put, List.setIfInBounds_toArray, List.set_cons_zero, List.set_cons_succ]
      refine wpAnyH_ready (rs := [2]) (by kernel_rfl) (by simp) ?_
      refine (AllReadyH.cons rfl (fun K hK => ?_) AllReadyH.nil)
      go_simp
      refine (HN.out _).mono ?_; rintro e wb ⟨rfl, hbb⟩; have HK2 : Hid (Arr wb w.heap.size 23 (meC m) ∧ Below w.heap.size w wb) := ⟨(Hid.out hHeld).1.kept hbb, (Hid.out hHeld).2.trans (hbb.mono (Hid.out hHeld).2.size)⟩; have HBB := hide hbb; clear hbb
      go_wp2_with fail
      refine hK.out _ _ ?_ (fun hHeld => ?_)
      · exact HK2
      clear hK K
      try simp only [Act.put, List.setIfInBounds_toArray, List.set_cons_zero, List.set_cons_succ]
      refine take_dstH (i := 5) (d := 16) (v := ?_) rfl rfl (by kernel_rfl) (by kernel_rfl) (by kernel_rfl) (fun _ _ _ h => h) (by rfl) hHeld ?_ ?_
      rotate_left
      · intro wZ hSw; clear hSw; go_simp; first | (with_reducible rfl) | (rw [if_pos (by omega)]; with_reducible rfl) | skip
      try simp only [Act.put, List.setIfInBounds_toArray, List.set_cons_zero, List.set_cons_succ]
      refine wpAnyH_ready (rs := [6]) (by kernel_rfl) (by simp) ?_
      refine (AllReadyH.cons rfl (fun K hK => ?_) AllReadyH.nil)
      go_simp
      refine (CC.out q wb HBB.out).mono ?_; rintro e wd ⟨rfl, hwd⟩; subst hwd
      go_wp2_with fail
      refine hK.out _ _ ?_ (fun hHeld => ?_)
      · exact HK2
      clear hK K
      try simp only [Act.put, List.setIfInBounds_toArray, List.set_cons_zero, List.set_cons_succ]
      refine take_dstH (i := 7) (d := 2) (v := ?_) rfl rfl (by kernel_rfl) (by kernel_rfl) (by kernel_rfl) (fun _ _ _ h => h) (by rfl) hHeld ?_ ?_
      rotate_left
      · intro wZ hSw; clear hSw; go_simp; first | (with_reducible rfl) | (rw [if_pos (by omega)]; with_reducible rfl) | skip
      try simp only [Act.put, List.setIfInBounds_toArray, List.set_cons_zero, List.set_cons_succ]
      refine wpAnyH_done (by kernel_rfl) ?_ _
      go_wp2
      go_ret
      exact ⟨rfl, hHeld.out.2⟩
  · rw [decide_eq_false hm] at HM
    rw [waitF, if_neg (fun h => hm h.1)]
    clear hm
    go_enter Try.func15, Try.ntmps15
    go_upto_region 1 with fail
    generalize w.alloc (Obj.cells #[Value.int .i64 m.a, Value.int .i64 m.b, Value.int .i64 m.c] 23) = w1 at *
    go_wp2_with (refine wpList_load_row rfl 23 _ rfl w.heap.size rfl 23 _ (0, 0) _ A1.out.1 Try.underlying23 rfl infoM ?_)
    refine (HM.out w1).mono ?_
    rintro e w2 ⟨rfl, hb⟩
    have A2 : Hid (Below w.heap.size w w2) := A1.out.2.trans (hb.mono A1.out.2.size)
    clear hb A1
    go_wp2
    go_ret
    exact ⟨rfl, A2.out⟩

set_option maxHeartbeats 4000000 in
set_option maxRecDepth 100000 in
theorem behind_first (m : Me) (s : Int) (w : World) (hm : m.may) (h0 : m.a = 0) (hs : Samp s) :
    Calls Try.prog 18 #[meV m, .int .i64 s] w fun e w' => e = .returned (meV (m.one s)) ∧ Below w.heap.size w w' := by
  have A1 := hide (me_boxes w m)
  have HE := hide (fun v : World => run_eq_me m Me.none v)
  rw [← may_zeroF' hm, decide_eq_true h0] at HE
  rw [Me.one_zero h0]
  obtain ⟨hs1, hs2⟩ := hs
  clear hm h0
  go_enter Try.func18, Try.ntmps18
  go_upto_region 1 with fail
  generalize (w.alloc (Obj.cells #[Value.int .i64 m.a, Value.int .i64 m.b, Value.int .i64 m.c] 23)).alloc (Obj.cells #[Value.int .i64 0, Value.int .i64 0, Value.int .i64 0] 23) = w1 at *
  go_upto_region 2 with (first
    | (refine wpList_exec (by rfl) _ (exec_load_all 23 (.tmp 2) rfl w.heap.size rfl 23 (meC m) _ A1.out.1 Try.underlying23 rfl infoM) ?_)
    | (refine wpList_exec (by rfl) _ (exec_eql_agg 23 23 (.tmp 6) (.tmp 7) rfl (meC m).toArray (meC Me.none).toArray rfl rfl true (guardM _ _ _ _ _) (HE.out _)) ?_))
  go_wp2_with (refine wpList_store_row rfl 23 _ _ rfl (w.heap.size + 1) (meC ⟨1, 8 * s, 2 * s⟩).toArray rfl rfl 23 (meC Me.none).toArray A1.out.2.1 infoM rfl (one_meC _) ?_)
  exact bodyPost_ret (v := meV ⟨1, 8 * s, 2 * s⟩) (results_cell_row Try.results18 _ _ (w.heap.size + 1) 23 _ (0, 0) _ rfl (A1.out.2.1.row _) Try.underlying23 rfl infoM) rfl ⟨rfl, below_setRow A1.out.2.2 (Nat.le_succ _) A1.out.2.1.lt _⟩

set_option maxHeartbeats 4000000 in
set_option maxRecDepth 100000 in
theorem behind_more (m r : Me) (s q8 q4 : Int) (w : World) (e8 : Int.tdiv m.b 8 = q8) (e4 : Int.tdiv m.c 4 = q4) (b8 : 0 ≤ q8 ∧ q8 ≤ 60000) (b4 : 0 ≤ q4 ∧ q4 ≤ m.c) (hs : 0 ≤ s ∧ s ≤ 60000) (ba : 0 ≤ m.a ∧ m.a ≤ 1073741824) (bb : 0 ≤ m.b ∧ m.b ≤ 480007) (bc : 0 ≤ m.c ∧ m.c ≤ 480007)
    (hE : ∀ v : World, (Op.equalIn 10000 23 (meV m) (meV Me.none)).run Try.prog v = .ok false v)
    (hr : (Me.mk (m.a + 1) (m.b + (s - q8)) (m.c - q4 + absF (s - q8))).brought = r) :
    Calls Try.prog 18 #[meV m, .int .i64 s] w fun e w' => e = .returned (meV r) ∧ Below w.heap.size w w' := by
  have A1 := hide (me_boxes w m)
  have HE := hide hE
  have HR := hide hr
  have HB := hide (fun (x : Me) (v : World) => brought_any x v)
  have w8 : wrap64 q8 = q8 := by unfold wrap64; omega
  have w4 : wrap64 q4 = q4 := by unfold wrap64; omega
  clear hE hr
  have c0 := A1.out.1.cell 0
  have c1 := A1.out.1.cell 1
  have c2 := A1.out.1.cell 2
  simp only [List.getElem?_cons_zero, List.getElem?_cons_succ] at c0 c1 c2
  obtain ⟨b8, b8'⟩ := b8
  obtain ⟨b4, b4'⟩ := b4
  obtain ⟨hs, hs'⟩ := hs
  obtain ⟨ba, ba'⟩ := ba
  obtain ⟨bb, bb'⟩ := bb
  obtain ⟨bc, bc'⟩ := bc
  go_enter Try.func18, Try.ntmps18
  go_upto_region 1 with fail
  generalize (w.alloc (Obj.cells #[Value.int .i64 m.a, Value.int .i64 m.b, Value.int .i64 m.c] 23)).alloc (Obj.cells #[Value.int .i64 0, Value.int .i64 0, Value.int .i64 0] 23) = w1 at *
  go_upto_region 3 with (first
    | (refine wpList_exec (by rfl) _ (exec_load_all 23 (.tmp 2) rfl w.heap.size rfl 23 (meC m) _ A1.out.1 Try.underlying23 rfl infoM) ?_)
    | (refine wpList_exec (by rfl) _ (exec_eql_agg 23 23 (.tmp 6) (.tmp 7) rfl (meC m).toArray (meC Me.none).toArray rfl rfl false (guardM _ _ _ _ _) (HE.out _)) ?_))
  go_wp2_with fail
  all_goals
    rename_i hd
    have HQ := hide HR.out
    simp only [absF] at HQ
    first
      | (rw [if_neg (by omega)] at HQ; refine (HB.out ⟨m.a + 1, m.b + (s - q8), m.c - q4 + (s - q8)⟩ w1).mono ?_)
      | (rw [if_pos (by omega)] at HQ; refine (HB.out ⟨m.a + 1, m.b + (s - q8), m.c - q4 + -(s - q8)⟩ w1).mono ?_)
    rintro e w2 ⟨rfl, hb⟩
    rw [HQ.out]
    have A2 : Hid (Arr w2 (w.heap.size + 1) 23 (meC Me.none) ∧ Below w.heap.size w w2) := ⟨A1.out.2.1.kept hb, A1.out.2.2.trans (hb.mono A1.out.2.2.size)⟩
    clear hb A1 c0 c1 c2
    go_wp2_with (refine wpList_store_row rfl 23 _ _ rfl (w.heap.size + 1) (meC r).toArray rfl rfl 23 (meC Me.none).toArray A2.out.1 infoM rfl (one_meC _) ?_)
    exact bodyPost_ret (v := meV r) (results_cell_row Try.results18 _ _ (w.heap.size + 1) 23 _ (0, 0) _ rfl (A2.out.1.row _) Try.underlying23 rfl infoM) rfl ⟨rfl, below_setRow A2.out.2 (Nat.le_succ _) A2.out.1.lt _⟩

theorem behind_any (m : Me) (s : Int) (w : World) (hm : m.may) (hs : Samp s) :
    Calls Try.prog 18 #[meV m, .int .i64 s] w fun e w' => e = .returned (meV (m.one s)) ∧ Below w.heap.size w w' := by
  by_cases h0 : m.a = 0
  · exact behind_first m s w hm h0 hs
  · obtain ⟨h1, h2, h3, h4, h5, h6, _⟩ := id hm
    refine behind_more m _ s (m.b / 8) (m.c / 4) w (tdiv_pos h3) (tdiv_pos h5) ⟨by omega, by omega⟩ ⟨by omega, by omega⟩ hs ⟨h1, h2⟩ ⟨h3, h4⟩ ⟨h5, h6⟩ (fun v => ?_) (Me.one_brought hm hs h0)
    have := run_eq_me m Me.none v
    rw [← may_zeroF' hm, decide_eq_false h0] at this
    exact this

end Go.Proofs.Ythnbbflpnklbjaa
