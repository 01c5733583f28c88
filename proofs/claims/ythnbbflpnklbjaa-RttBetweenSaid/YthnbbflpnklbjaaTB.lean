/-
  Walks: numbers brought into bounds, by a closure; meters held against each other; May, Mean.
-/
import Derived.Test.YthnbbflpnklbjaaTA
import Derived.Test.YthnbbflpnklbjaaBT
namespace Go.Proofs.Ythnbbflpnklbjaa
open Go.RowKit

theorem infoM : (Try.prog.info? 23).map (·.size) = some 3 := by kernel_rfl
theorem one_meC (m : Me) : (meC m).toArray.all (·.oneCell') = true := by simp [Value.oneCell']
theorem guardM (x y : Operand) (u v : Array Value) (w : World) : (eqGuard .eql 23 x y (.agg u) (.agg v)).run Try.prog w = .ok () w := by kernel_rfl

theorem ret_i64 {a b : Int} (h : a = b) : Ending.returned (.int .i64 a) = .returned (.int .i64 b) := by rw [h]

/-- meters held against each other -/
theorem run_eq_me (m n : Me) (w : World) : (Op.equalIn 10000 23 (meV m) (meV n)).run Try.prog w = .ok (decide (m.a = n.a ∧ m.b = n.b ∧ m.c = n.c)) w := by
  have hs : (Program.underlying Try.prog 23) = some (.struct (Try.prog.fieldsOf 23)) := by kernel_rfl
  obtain ⟨a, b, c⟩ := m
  obtain ⟨x, y, z⟩ := n
  have p1 : ∀ (a b c : Int), (Go.part 3 #[Value.int .i64 a, Value.int .i64 b, Value.int .i64 c] 0).run Try.prog w = .ok (.int .i64 a) w := fun a b c => by kernel_rfl
  have p2 : ∀ (a b c : Int), (Go.part 3 #[Value.int .i64 a, Value.int .i64 b, Value.int .i64 c] 1).run Try.prog w = .ok (.int .i64 b) w := fun a b c => by kernel_rfl
  have p3 : ∀ (a b c : Int), (Go.part 3 #[Value.int .i64 a, Value.int .i64 b, Value.int .i64 c] 2).run Try.prog w = .ok (.int .i64 c) w := fun a b c => by kernel_rfl
  rw [meV, meV, run_equalIn_agg w 9999 _ _ _ hs (by kernel_rfl)]
  simp only [Program.fieldsOf, Try.underlying23, Op.eqFields, Sem.run_bind, Sem.run_ite, Sem.run_pure, p1, p2, p3, Result.andThen_ok, run_equalIn_int w 9998 _ _ _ _ _ Try.underlying3, List.toList_toArray]
  by_cases h1 : a = x
  · subst h1
    by_cases h2 : b = y
    · subst h2
      by_cases h3 : c = z
      · subst h3; simp
      · have e : (c == z) = false := by simpa using h3
        simp [e, h3]
    · have e : (b == y) = false := by simpa using h2
      simp [e, h2]
  · have e : (a == x) = false := by simpa using h1
    simp [e, h1]

set_option maxHeartbeats 1000000 in
theorem cl_any (n lo hi : Int) (g h : Nat) (w : World) (c0 : w.cell? ⟨g, 0, none⟩ = some (.int .i64 lo)) (c1 : w.cell? ⟨h, 0, none⟩ = some (.int .i64 hi)) :
    Calls Try.prog 21 #[.int .i64 n, .pointer (some ⟨g, 0, none⟩), .pointer (some ⟨h, 0, none⟩)] w fun e w' => e = .returned (.int .i64 (clF lo hi n)) ∧ w' = w := by
  go_enter Try.func21, Try.ntmps21
  go_wp2
  all_goals
    go_ret
    refine ⟨ret_i64 ?_, rfl⟩
    unfold clF
    repeat' split
    all_goals first | omega | rfl

/-- what brings a number into bounds -/
def Wi (w : World) (v : Value) (lo hi : Int) : Prop :=
  ∃ g h : Nat, v = .func (.func 21) #[] #[.pointer (some ⟨g, 0, none⟩), .pointer (some ⟨h, 0, none⟩)] ∧ Arr w g 3 [.int .i64 lo] ∧ Arr w h 3 [.int .i64 hi]
theorem Wi.kept {w w' : World} {v : Value} {lo hi : Int} (h : Wi w v lo hi) (hb : Below w.heap.size w w') : Wi w' v lo hi := by
  obtain ⟨g, h, e, h1, h2⟩ := h
  exact ⟨g, h, e, h1.kept hb, h2.kept hb⟩

set_option maxHeartbeats 1000000 in
theorem within_any (lo hi : Int) (w : World) :
    Calls Try.prog 17 #[.int .i64 lo, .int .i64 hi] w fun e w' => ∃ v, e = .returned v ∧ Wi w' v lo hi ∧ Below w.heap.size w w' := by
  have A1 := hide (boxes w [Value.int .i64 lo] [Value.int .i64 hi] 3 3)
  go_enter Try.func17, Try.ntmps17
  go_wp2
  go_ret
  exact ⟨_, rfl, ⟨_, _, rfl, A1.out.1, A1.out.2.1⟩, A1.out.2.2⟩

theorem cl_wi {w : World} {v : Value} {lo hi : Int} (h : Wi w v lo hi) : ∃ g k : Nat, v = .func (.func 21) #[] #[.pointer (some ⟨g, 0, none⟩), .pointer (some ⟨k, 0, none⟩)] ∧
    ∀ (n : Int) (w' : World), Below w.heap.size w w' → Calls Try.prog 21 #[.int .i64 n, .pointer (some ⟨g, 0, none⟩), .pointer (some ⟨k, 0, none⟩)] w' fun e w'' => e = .returned (.int .i64 (clF lo hi n)) ∧ w'' = w' := by
  obtain ⟨g, k, e, h1, h2⟩ := h
  exact ⟨g, k, e, fun n w' hb => cl_any n lo hi g k w' ((h1.kept hb).cell 0) ((h2.kept hb).cell 0)⟩

/-- a meter that is handed in lies in a box of its own -/
theorem me_box (w : World) (m : Me) : Arr (w.alloc (Obj.cells #[Value.int .i64 m.a, Value.int .i64 m.b, Value.int .i64 m.c] 23)) w.heap.size 23 (meC m) ∧ Below w.heap.size w (w.alloc (Obj.cells #[Value.int .i64 m.a, Value.int .i64 m.b, Value.int .i64 m.c] 23)) := ⟨Arr.new w _ _, (Below.refl _ _).alloc (Nat.le_refl _) _⟩
/-- .. and one for what is told -/
theorem me_boxes (w : World) (m : Me) : Arr ((w.alloc (Obj.cells #[Value.int .i64 m.a, Value.int .i64 m.b, Value.int .i64 m.c] 23)).alloc (Obj.cells #[Value.int .i64 0, Value.int .i64 0, Value.int .i64 0] 23)) w.heap.size 23 (meC m) ∧ Arr ((w.alloc (Obj.cells #[Value.int .i64 m.a, Value.int .i64 m.b, Value.int .i64 m.c] 23)).alloc (Obj.cells #[Value.int .i64 0, Value.int .i64 0, Value.int .i64 0] 23)) (w.heap.size + 1) 23 (meC Me.none) ∧ Below w.heap.size w ((w.alloc (Obj.cells #[Value.int .i64 m.a, Value.int .i64 m.b, Value.int .i64 m.c] 23)).alloc (Obj.cells #[Value.int .i64 0, Value.int .i64 0, Value.int .i64 0] 23)) :=
  boxes w (meC m) (meC Me.none) 23 23

theorem built_me (m : Me) : Try.prog.built 23 [(0, .int .i64 m.a), (1, .int .i64 m.b), (2, .int .i64 m.c)] = some (meC m).toArray := by kernel_rfl

set_option maxHeartbeats 4000000 in
set_option maxRecDepth 100000 in
theorem brought_any (m : Me) (w : World) :
    Calls Try.prog 20 #[meV m] w fun e w' => e = .returned (meV m.brought) ∧ Below w.heap.size w w' := by
  have A1 := hide (me_boxes w m)
  have HW := hide (fun (lo hi : Int) (v : World) => within_any lo hi v)
  have HB := hide (built_me m.brought)
  have e0 : Hid (m.brought.a = clF 0 1073741824 m.a ∧ m.brought.b = clF 0 480007 m.b ∧ m.brought.c = clF 0 480007 m.c) := ⟨rfl, rfl, rfl⟩
  go_enter Try.func20, Try.ntmps20
  go_upto_region 1 with fail
  generalize (w.alloc (Obj.cells #[Value.int .i64 m.a, Value.int .i64 m.b, Value.int .i64 m.c] 23)).alloc (Obj.cells #[Value.int .i64 0, Value.int .i64 0, Value.int .i64 0] 23) = w1 at *
  go_wp2_with fail
  refine (HW.out 0 1073741824 w1).mono ?_
  rintro e w2 ⟨v1, rfl, hv1, hb2⟩
  have A2 : Hid (Arr w2 w.heap.size 23 (meC m) ∧ Arr w2 (w.heap.size + 1) 23 (meC Me.none) ∧ Wi w2 v1 0 1073741824 ∧ Below w.heap.size w w2) := ⟨A1.out.1.kept hb2, A1.out.2.1.kept hb2, hv1, A1.out.2.2.trans (hb2.mono A1.out.2.2.size)⟩
  clear hb2 hv1 A1
  go_wp2_with fail
  refine (HW.out 0 480007 w2).mono ?_
  rintro e w3 ⟨v2, rfl, hv2, hb3⟩
  have A3 : Hid (Arr w3 w.heap.size 23 (meC m) ∧ Arr w3 (w.heap.size + 1) 23 (meC Me.none) ∧ Wi w3 v1 0 1073741824 ∧ Wi w3 v2 0 480007 ∧ Below w.heap.size w w3) := ⟨A2.out.1.kept hb3, A2.out.2.1.kept hb3, A2.out.2.2.1.kept hb3, hv2, A2.out.2.2.2.trans (hb3.mono A2.out.2.2.2.size)⟩
  clear hb3 hv2 A2
  obtain ⟨g1, k1, rfl, C1'⟩ := cl_wi A3.out.2.2.1
  obtain ⟨g2, k2, rfl, C2'⟩ := cl_wi A3.out.2.2.2.1
  have C1 := hide (C1' m.a w3.drew (Below.refl _ _).drew)
  have C2 := hide (C2' m.b w3.drew (Below.refl _ _).drew)
  have C3 := hide (C2' m.c w3.drew (Below.refl _ _).drew)
  clear C1' C2'
  have c0 := A3.out.1.cell 0
  have c1 := A3.out.1.cell 1
  have c2 := A3.out.1.cell 2
  simp only [List.getElem?_cons_zero, List.getElem?_cons_succ] at c0 c1 c2
  go_upto_region 2 with fail
  refine wp_region_late (S := fun v => Hid (v = w3.drew)) [13] (by kernel_rfl) (hide rfl) (fun hHeld => ?_)
  refine take_dstT (i := 0) (d := 7) (v := ?_) rfl rfl (by kernel_rfl) (by kernel_rfl) (by kernel_rfl) (by kernel_rfl) (fun _ _ _ h => h) (by rfl) hHeld ?_ ?_
  rotate_left
  · intro wZ hSw; clear hSw; go_simp; first | (with_reducible rfl) | (rw [if_pos (by omega)]; with_reducible rfl) | skip
  try simp only [Act.put, List.setIfInBounds_toArray, List.set_cons_zero, List.set_cons_succ]
  refine take_dstT (i := 1) (d := 8) (v := ?_) rfl rfl (by kernel_rfl) (by kernel_rfl) (by kernel_rfl) (by kernel_rfl) (fun _ _ _ h => h) (by rfl) hHeld ?_ ?_
  rotate_left
  · intro wZ hSw; clear hSw; go_simp; first | (with_reducible rfl) | (rw [if_pos (by omega)]; with_reducible rfl) | skip
  try simp only [Act.put, List.setIfInBounds_toArray, List.set_cons_zero, List.set_cons_succ]
  refine take_dstT (i := 2) (d := 9) (v := ?_) rfl rfl (by kernel_rfl) (by kernel_rfl) (by kernel_rfl) (by kernel_rfl) (fun _ _ _ h => h) (by rfl) hHeld ?_ ?_
  rotate_left
  · intro wZ hSw; have hfS := (fun (v : World) (hv : Hid (v = w3.drew)) => show v.cell? ⟨w.heap.size, 0, none⟩ = some (.int .i64 m.a) from by rw [hv.out]; exact c0) wZ hSw; clear hSw; go_simp; first | (with_reducible rfl) | (rw [if_pos (by omega)]; with_reducible rfl) | skip
  try simp only [Act.put, List.setIfInBounds_toArray, List.set_cons_zero, List.set_cons_succ]
  refine take_dstT (i := 4) (d := 11) (v := ?_) rfl rfl (by kernel_rfl) (by kernel_rfl) (by kernel_rfl) (by kernel_rfl) (fun _ _ _ h => h) (by rfl) hHeld ?_ ?_
  rotate_left
  · intro wZ hSw; clear hSw; go_simp; first | (with_reducible rfl) | (rw [if_pos (by omega)]; with_reducible rfl) | skip
  try simp only [Act.put, List.setIfInBounds_toArray, List.set_cons_zero, List.set_cons_succ]
  refine take_dstT (i := 5) (d := 12) (v := ?_) rfl rfl (by kernel_rfl) (by kernel_rfl) (by kernel_rfl) (by kernel_rfl) (fun _ _ _ h => h) (by rfl) hHeld ?_ ?_
  rotate_left
  · intro wZ hSw; clear hSw; go_simp; first | (with_reducible rfl) | (rw [if_pos (by omega)]; with_reducible rfl) | skip
  try simp only [Act.put, List.setIfInBounds_toArray, List.set_cons_zero, List.set_cons_succ]
  refine take_dstT (i := 6) (d := 13) (v := ?_) rfl rfl (by kernel_rfl) (by kernel_rfl) (by kernel_rfl) (by kernel_rfl) (fun _ _ _ h => h) (by rfl) hHeld ?_ ?_
  rotate_left
  · intro wZ hSw; have hfS := (fun (v : World) (hv : Hid (v = w3.drew)) => show v.cell? ⟨w.heap.size, 1, none⟩ = some (.int .i64 m.b) from by rw [hv.out]; exact c1) wZ hSw; clear hSw; go_simp; first | (with_reducible rfl) | (rw [if_pos (by omega)]; with_reducible rfl) | skip
  try simp only [Act.put, List.setIfInBounds_toArray, List.set_cons_zero, List.set_cons_succ]
  refine take_dstT (i := 8) (d := 15) (v := ?_) rfl rfl (by kernel_rfl) (by kernel_rfl) (by kernel_rfl) (by kernel_rfl) (fun _ _ _ h => h) (by rfl) hHeld ?_ ?_
  rotate_left
  · intro wZ hSw; clear hSw; go_simp; first | (with_reducible rfl) | (rw [if_pos (by omega)]; with_reducible rfl) | skip
  try simp only [Act.put, List.setIfInBounds_toArray, List.set_cons_zero, List.set_cons_succ]
  refine take_dstT (i := 9) (d := 16) (v := ?_) rfl rfl (by kernel_rfl) (by kernel_rfl) (by kernel_rfl) (by kernel_rfl) (fun _ _ _ h => h) (by rfl) hHeld ?_ ?_
  rotate_left
  · intro wZ hSw; clear hSw; go_simp; first | (with_reducible rfl) | (rw [if_pos (by omega)]; with_reducible rfl) | skip
  try simp only [Act.put, List.setIfInBounds_toArray, List.set_cons_zero, List.set_cons_succ]
  refine take_dstT (i := 10) (d := 17) (v := ?_) rfl rfl (by kernel_rfl) (by kernel_rfl) (by kernel_rfl) (by kernel_rfl) (fun _ _ _ h => h) (by rfl) hHeld ?_ ?_
  rotate_left
  · intro wZ hSw; have hfS := (fun (v : World) (hv : Hid (v = w3.drew)) => show v.cell? ⟨w.heap.size, 2, none⟩ = some (.int .i64 m.c) from by rw [hv.out]; exact c2) wZ hSw; clear hSw; go_simp; first | (with_reducible rfl) | (rw [if_pos (by omega)]; with_reducible rfl) | skip
  try simp only [Act.put, List.setIfInBounds_toArray, List.set_cons_zero, List.set_cons_succ]
  refine wpAnyT_ready (rs := [3]) (by kernel_rfl) (by simp) ?_
  refine (AllReadyT.cons rfl (fun K hK => ?_) AllReadyT.nil)
  go_simp
  (refine Calls.mono C1.out ?_; rintro e wa ⟨rfl, rfl⟩)
  go_wp2_with fail
  refine hK.out _ _ ?_ (fun hHeld => ?_)
  · exact hide rfl
  clear hK K
  try simp only [Act.put, List.setIfInBounds_toArray, List.set_cons_zero, List.set_cons_succ]
  refine wpAnyT_ready (rs := [7]) (by kernel_rfl) (by simp) ?_
  refine (AllReadyT.cons rfl (fun K hK => ?_) AllReadyT.nil)
  go_simp
  (refine Calls.mono C2.out ?_; rintro e wa ⟨rfl, rfl⟩)
  go_wp2_with fail
  refine hK.out _ _ ?_ (fun hHeld => ?_)
  · exact hide rfl
  clear hK K
  try simp only [Act.put, List.setIfInBounds_toArray, List.set_cons_zero, List.set_cons_succ]
  refine wpAnyT_ready (rs := [11]) (by kernel_rfl) (by simp) ?_
  refine (AllReadyT.cons rfl (fun K hK => ?_) AllReadyT.nil)
  go_simp
  (refine Calls.mono C3.out ?_; rintro e wa ⟨rfl, rfl⟩)
  go_wp2_with fail
  refine hK.out _ _ ?_ (fun hHeld => ?_)
  · exact hide rfl
  clear hK K
  try simp only [Act.put, List.setIfInBounds_toArray, List.set_cons_zero, List.set_cons_succ]
  refine take_dstT (i := 12) (d := 19) (v := ?_) rfl rfl (by kernel_rfl) (by kernel_rfl) (by kernel_rfl) (by kernel_rfl) (fun _ _ _ h => h) (by rfl) hHeld ?_ ?_
  rotate_left
  · intro wZ hSw; clear hSw; go_simp; first | (with_reducible rfl) | (rw [if_pos (by omega)]; with_reducible rfl) | skip
  try simp only [Act.put, List.setIfInBounds_toArray, List.set_cons_zero, List.set_cons_succ]
  refine wpAnyT_ready (rs := [13]) (by kernel_rfl) (by simp) ?_
  refine (AllReadyT.last rfl (by decide) (fun K hK => ?_) AllReadyT.nil)
  refine wp_store_dst rfl 23 (.tmp 2) (.tmp 19) rfl (w.heap.size + 1) (meC m.brought).toArray rfl rfl 23 _ A3.out.2.1 infoM rfl (one_meC _) ?_
  refine hK.out _ _ ?_
  clear hK K
  try simp only [Act.put, List.setIfInBounds_toArray, List.set_cons_zero, List.set_cons_succ]
  refine wpAnyT_done (by kernel_rfl) ?_ _
  go_wp2
  exact bodyPost_ret (v := meV m.brought) (results_cell_row Try.results20 _ _ (w.heap.size + 1) 23 _ (0, 0) _ rfl (A3.out.2.1.row _) Try.underlying23 rfl infoM) rfl ⟨rfl, below_setRow A3.out.2.2.2.2.drew (Nat.le_succ _) A3.out.2.1.lt _⟩

theorem may_zeroF {m : Me} (h : m.a = 0) : decide m.may = decide (m.a = Me.none.a ∧ m.b = Me.none.b ∧ m.c = Me.none.c) := by
  refine decide_eq_decide.2 ⟨fun hm => ?_, fun ⟨h1, h2, h3⟩ => ?_⟩
  · rw [Me.may_none hm h]; exact ⟨rfl, rfl, rfl⟩
  · obtain ⟨a, b, c⟩ := m
    simp only [Me.none] at h1 h2 h3
    subst h1 h2 h3
    decide
theorem may_zeroF' {m : Me} (h : m.may) : decide (m.a = 0) = decide (m.a = Me.none.a ∧ m.b = Me.none.b ∧ m.c = Me.none.c) :=
  decide_eq_decide.2 ⟨fun h0 => ⟨h0, h.2.2.2.2.2.2 h0⟩, fun h1 => h1.1⟩
theorem may_moreF {m : Me} (h : m.a ≠ 0) : decide m.may = decide (m.a = m.brought.a ∧ m.b = m.brought.b ∧ m.c = m.brought.c) := by
  refine decide_eq_decide.2 ⟨fun hm => ?_, fun h1 => ?_⟩
  · have := (Me.brought_eq m).2 ⟨hm.1, hm.2.1, hm.2.2.1, hm.2.2.2.1, hm.2.2.2.2.1, hm.2.2.2.2.2.1⟩
    rw [this]; exact ⟨rfl, rfl, rfl⟩
  · have e : m.brought = m := by
      obtain ⟨a, b, c⟩ := m
      obtain ⟨h1, h2, h3⟩ := h1
      simp only [Me.brought] at h1 h2 h3 ⊢
      rw [← h1, ← h2, ← h3]
    have := (Me.brought_eq m).1 e
    exact ⟨this.1, this.2.1, this.2.2.1, this.2.2.2.1, this.2.2.2.2.1, this.2.2.2.2.2, fun h0 => (h h0).elim⟩

set_option maxHeartbeats 4000000 in
set_option maxRecDepth 100000 in
theorem may_any (m : Me) (w : World) :
    Calls Try.prog 11 #[meV m] w fun e w' => e = .returned (.bool (decide m.may)) ∧ Below w.heap.size w w' := by
  have A1 := hide (me_box w m)
  by_cases h0 : m.a = 0
  · have HE := hide (fun v : World => run_eq_me m Me.none v)
    rw [← may_zeroF h0] at HE
    generalize decide m.may = r at *
    have h0' : (m.a == 0) = true := by simpa using h0
    clear h0
    have c0 := A1.out.1.cell 0
    simp only [List.getElem?_cons_zero] at c0
    go_enter Try.func11, Try.ntmps11
    go_upto_region 1 with fail
    generalize w.alloc (Obj.cells #[Value.int .i64 m.a, Value.int .i64 m.b, Value.int .i64 m.c] 23) = w1 at *
    go_wp2_with (first
      | (refine wpList_exec (by rfl) _ (exec_load_all 23 (.tmp 1) rfl w.heap.size rfl 23 (meC m) _ A1.out.1 Try.underlying23 rfl infoM) ?_)
      | (refine wpList_exec (by rfl) _ (exec_eql_agg 23 23 (.tmp 6) (.tmp 7) rfl (meC m).toArray (meC Me.none).toArray rfl rfl r (guardM _ _ _ _ _) (HE.out _)) ?_))
    go_ret
    exact ⟨rfl, A1.out.2⟩
  · have HE := hide (fun v : World => run_eq_me m m.brought v)
    rw [← may_moreF h0] at HE
    have HB := hide (fun v : World => brought_any m v)
    generalize decide m.may = r at *
    generalize m.brought = mb at *
    have h0' : (m.a == 0) = false := by simpa using h0
    clear h0
    have c0 := A1.out.1.cell 0
    simp only [List.getElem?_cons_zero] at c0
    go_enter Try.func11, Try.ntmps11
    go_upto_region 1 with fail
    generalize w.alloc (Obj.cells #[Value.int .i64 m.a, Value.int .i64 m.b, Value.int .i64 m.c] 23) = w1 at *
    go_upto_region 3 with fail
    refine wp_region_held_drew (S := fun v => Hid (Arr v w.heap.size 23 (meC m) ∧ Below w.heap.size w v)) (by kernel_rfl) (hide ⟨A1.out.1, A1.out.2.drew⟩) (fun hHeld => ?_)
    refine take_dstH (i := 0) (d := 9) (v := ?_) rfl rfl (by kernel_rfl) (by kernel_rfl) (by kernel_rfl) (fun _ _ _ h => h) (by rfl) hHeld ?_ ?_
    rotate_left
    · intro wZ hSw; refine exec_load_all 23 (.tmp 1) ?_ w.heap.size ?_ 23 (meC m) _ (Hid.out hSw).1 Try.underlying23 rfl infoM <;> rfl
    try simp only [Act.put, List.setIfInBounds_toArray, List.set_cons_zero, List.set_cons_succ]
    refine take_dstH (i := 1) (d := 10) (v := ?_) rfl rfl (by kernel_rfl) (by kernel_rfl) (by kernel_rfl) (fun _ _ _ h => h) (by rfl) hHeld ?_ ?_
    rotate_left
    · intro wZ hSw; refine exec_load_all 23 (.tmp 1) ?_ w.heap.size ?_ 23 (meC m) _ (Hid.out hSw).1 Try.underlying23 rfl infoM <;> rfl
    try simp only [Act.put, List.setIfInBounds_toArray, List.set_cons_zero, List.set_cons_succ]
    refine wpAnyH_ready (rs := [2]) (by kernel_rfl) (by simp) ?_
    refine (AllReadyH.cons rfl (fun K hK => ?_) AllReadyH.nil)
    go_simp
    refine (HB.out _).mono ?_; rintro e wa ⟨rfl, hba⟩; have HK : Hid (Arr wa w.heap.size 23 (meC m) ∧ Below w.heap.size w wa) := ⟨(Hid.out hHeld).1.kept hba, (Hid.out hHeld).2.trans (hba.mono (Hid.out hHeld).2.size)⟩; clear hba
    go_wp2_with fail
    refine hK.out _ _ ?_ (fun hHeld => ?_)
    · exact HK
    clear hK K
    try simp only [Act.put, List.setIfInBounds_toArray, List.set_cons_zero, List.set_cons_succ]
    refine take_dstH (i := 3) (d := 12) (v := ?_) rfl rfl (by kernel_rfl) (by kernel_rfl) (by kernel_rfl) (fun _ _ _ h => h) (by rfl) hHeld ?_ ?_
    rotate_left
    · intro wZ hSw; refine exec_eql_agg 23 23 (.tmp 9) (.tmp 11) ?_ (meC m).toArray (meC mb).toArray ?_ ?_ r (guardM _ _ _ _ _) (HE.out wZ) <;> rfl
    try simp only [Act.put, List.setIfInBounds_toArray, List.set_cons_zero, List.set_cons_succ]
    refine take_dstH (i := 4) (d := 2) (v := ?_) rfl rfl (by kernel_rfl) (by kernel_rfl) (by kernel_rfl) (fun _ _ _ h => h) (by rfl) hHeld ?_ ?_
    rotate_left
    · intro wZ hSw; clear hSw; go_simp; first | (with_reducible rfl) | (rw [if_pos (by omega)]; with_reducible rfl) | skip
    try simp only [Act.put, List.setIfInBounds_toArray, List.set_cons_zero, List.set_cons_succ]
    refine wpAnyH_done (by kernel_rfl) ?_ _
    go_wp2
    go_ret
    exact ⟨rfl, hHeld.out.2⟩

/-- rounding down and rounding to nought are one for what is not negative -/
theorem tdiv_pos {x k : Int} (h : 0 ≤ x) : Int.tdiv x k = x / k := Int.tdiv_eq_ediv_of_nonneg h

set_option maxHeartbeats 4000000 in
set_option maxRecDepth 100000 in
theorem mean_any (m : Me) (w : World) :
    Calls Try.prog 13 #[meV m] w fun e w' => e = .returned (.int .i64 (meanF m)) ∧ Below w.heap.size w w' := by
  have A1 := hide (me_box w m)
  have HM := hide (fun v : World => may_any m v)
  by_cases hm : m.may
  · rw [decide_eq_true hm] at HM
    have hq : Int.tdiv m.b 8 = meanF m := by rw [meanF, if_pos hm]; exact tdiv_pos hm.2.2.1
    have hq2 : wrap64 (meanF m) = meanF m := by rw [meanF, if_pos hm]; unfold wrap64; have := hm.2.2.1; have := hm.2.2.2.1; omega
    generalize meanF m = q at *
    clear hm
    go_enter Try.func13, Try.ntmps13
    go_upto_region 1 with fail
    generalize w.alloc (Obj.cells #[Value.int .i64 m.a, Value.int .i64 m.b, Value.int .i64 m.c] 23) = w1 at *
    go_wp2_with (refine wpList_load_row rfl 23 _ rfl w.heap.size rfl 23 _ (0, 0) _ A1.out.1 Try.underlying23 rfl infoM ?_)
    refine (HM.out w1).mono ?_
    rintro e w2 ⟨rfl, hb⟩
    have A2 : Hid (Arr w2 w.heap.size 23 (meC m) ∧ Below w.heap.size w w2) := ⟨A1.out.1.kept hb, A1.out.2.trans (hb.mono A1.out.2.size)⟩
    have c1 := A2.out.1.cell 1
    simp only [List.getElem?_cons_zero, List.getElem?_cons_succ] at c1
    clear hb A1
    go_wp2
    go_ret
    exact ⟨by rw [hq2]; rfl, A2.out.2⟩
  · rw [decide_eq_false hm] at HM
    rw [meanF, if_neg hm]
    clear hm
    go_enter Try.func13, Try.ntmps13
    go_upto_region 1 with fail
    generalize w.alloc (Obj.cells #[Value.int .i64 m.a, Value.int .i64 m.b, Value.int .i64 m.c] 23) = w1 at *
    go_wp2_with (refine wpList_load_row rfl 23 _ rfl w.heap.size rfl 23 _ (0, 0) _ A1.out.1 Try.underlying23 rfl infoM ?_)
    refine (HM.out w1).mono ?_
    rintro e w2 ⟨rfl, hb⟩
    have A2 : Hid (Arr w2 w.heap.size 23 (meC m) ∧ Below w.heap.size w w2) := ⟨A1.out.1.kept hb, A1.out.2.trans (hb.mono A1.out.2.size)⟩
    clear hb A1
    go_wp2
    go_ret
    exact ⟨rfl, A2.out.2⟩

end Go.Proofs.Ythnbbflpnklbjaa
