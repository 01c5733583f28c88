/-
  Walks: the reference's May, One, Mean, Wait.
-/
import Derived.Test.YthnbbflpnklbjaaTB
namespace Go.Proofs.Ythnbbflpnklbjaa
open Go.RowKit

set_option maxHeartbeats 4000000 in
set_option maxRecDepth 100000 in
theorem rmay_in (a b c : Int) (r : Bool) (w : World) (hr : decide (0 ≤ a ∧ a ≤ 1073741824 ∧ 0 ≤ b ∧ b ≤ 480007 ∧ 0 ≤ c ∧ c ≤ 480007 ∧ (a = 0 → b = 0 ∧ c = 0)) = r) :
    Calls Try.prog 12 #[.agg #[.int .i64 a, .int .i64 b, .int .i64 c]] w fun e w' => e = .returned (.bool r) ∧ Below w.heap.size w w' := by
  have A1 : Hid (Below w.heap.size w (w.alloc (Obj.cells #[Value.int .i64 a, Value.int .i64 b, Value.int .i64 c] 23))) := (Below.refl _ _).alloc (Nat.le_refl _) _
  have HR := hide hr
  clear hr
  go_enter Try.func12, Try.ntmps12
  go_upto_region 1 with fail
  by_cases h1 : a < 0
  · go_wp2
    go_ret
    exact ⟨by rw [show r = false from HR.out.symm.trans (decide_eq_false (by omega))]; rfl, A1.out⟩
  by_cases h2 : 1073741824 < a
  · go_wp2
    go_ret
    exact ⟨by rw [show r = false from HR.out.symm.trans (decide_eq_false (by omega))]; rfl, A1.out⟩
  by_cases h3 : b < 0
  · go_wp2
    go_ret
    exact ⟨by rw [show r = false from HR.out.symm.trans (decide_eq_false (by omega))]; rfl, A1.out⟩
  by_cases h4 : 480007 < b
  · go_wp2
    go_ret
    exact ⟨by rw [show r = false from HR.out.symm.trans (decide_eq_false (by omega))]; rfl, A1.out⟩
  by_cases h5 : c < 0
  · go_wp2
    go_ret
    exact ⟨by rw [show r = false from HR.out.symm.trans (decide_eq_false (by omega))]; rfl, A1.out⟩
  by_cases h6 : 480007 < c
  · go_wp2
    go_ret
    exact ⟨by rw [show r = false from HR.out.symm.trans (decide_eq_false (by omega))]; rfl, A1.out⟩
  by_cases h7 : 0 < a
  · go_wp2
    go_ret
    exact ⟨by rw [show r = true from HR.out.symm.trans (decide_eq_true (by omega))]; rfl, A1.out⟩
  cases h8 : b == 0
  · have h8' : b ≠ 0 := by simpa using h8
    have H8 := hide h8'
    clear h8'
    go_wp2
    go_ret
    exact ⟨by rw [show r = false from HR.out.symm.trans (decide_eq_false (by have := H8.out; omega))]; rfl, A1.out⟩
  · cases h9 : c == 0
    · have H9 : Hid (c ≠ 0) := by show _ ≠ _; simpa using h9
      go_wp2
      go_ret
      exact ⟨by rw [show r = false from HR.out.symm.trans (decide_eq_false (by have := H9.out; omega))]; rfl, A1.out⟩
    · have H9 : Hid (b = 0 ∧ c = 0) := ⟨by simpa using h8, by simpa using h9⟩
      go_wp2
      go_ret
      exact ⟨by rw [show r = true from HR.out.symm.trans (decide_eq_true (by have := H9.out; omega))]; rfl, A1.out⟩

theorem rmay_any (m : Me) (w : World) :
    Calls Try.prog 12 #[meV m] w fun e w' => e = .returned (.bool (decide m.may)) ∧ Below w.heap.size w w' := rmay_in m.a m.b m.c _ w rfl

set_option maxHeartbeats 4000000 in
set_option maxRecDepth 100000 in
theorem rmean_any (m : Me) (w : World) :
    Calls Try.prog 14 #[meV m] w fun e w' => e = .returned (.int .i64 (meanF m)) ∧ Below w.heap.size w w' := by
  have A1 := hide (me_box w m)
  have HM := hide (fun v : World => rmay_any m v)
  by_cases hm : m.may
  · rw [decide_eq_true hm] at HM
    have hq : Int.tdiv m.b 8 = meanF m := by rw [meanF, if_pos hm]; exact tdiv_pos hm.2.2.1
    have hq2 : wrap64 (meanF m) = meanF m := by rw [meanF, if_pos hm]; unfold wrap64; have := hm.2.2.1; have := hm.2.2.2.1; omega
    generalize meanF m = q at *
    clear hm
    go_enter Try.func14, Try.ntmps14
    go_upto_region 1 with fail
    generalize w.alloc (Obj.cells #[Value.int .i64 m.a, Value.int .i64 m.b, Value.int .i64 m.c] 23) = w1 at *
    go_wp2_with (refine wpList_load_row rfl 23 _ rfl w.heap.size rfl 23 _ (0, 0) _ A1.out.1 Try.underlying23 rfl infoM ?_)
    refine (HM.out w1).mono ?_
    rintro e w2 ⟨rfl, hb⟩
    have A2 : Hid (Arr w2 w.heap.size 23 (meC m) ∧ Below w.heap.size w w2) := ⟨A1.out.1.kept hb, A1.out.2.trans (hb.mono A1.out.2.size)⟩
    have c1 := A2.out.1.cell 1
    simp only [List.getElem?_cons_zero, List.getElem?_cons_succ] at c1
    clear hb A1
    go_wp2
    go_ret
    exact ⟨by rw [hq2]; rfl, A2.out.2⟩
  · rw [decide_eq_false hm] at HM
    rw [meanF, if_neg hm]
    clear hm
    go_enter Try.func14, Try.ntmps14
    go_upto_region 1 with fail
    generalize w.alloc (Obj.cells #[Value.int .i64 m.a, Value.int .i64 m.b, Value.int .i64 m.c] 23) = w1 at *
    go_wp2_with (refine wpList_load_row rfl 23 _ rfl w.heap.size rfl 23 _ (0, 0) _ A1.out.1 Try.underlying23 rfl infoM ?_)
    refine (HM.out w1).mono ?_
    rintro e w2 ⟨rfl, hb⟩
    have A2 : Hid (Arr w2 w.heap.size 23 (meC m) ∧ Below w.heap.size w w2) := ⟨A1.out.1.kept hb, A1.out.2.trans (hb.mono A1.out.2.size)⟩
    clear hb A1
    go_wp2
    go_ret
    exact ⟨rfl, A2.out.2⟩

/-- .. where it may be, and has heard some -/
theorem rwait_more (m : Me) (q x r : Int) (w : World) (hq : Int.tdiv m.b 8 = q) (hx : q + m.c = x) (hx1 : 0 ≤ x) (hx2 : x ≤ 540008) (hq1 : 0 ≤ q) (hq2 : q ≤ 60000) (h0 : (m.a == 0) = false) (hr : clF 50 1000 x = r)
    (hM : ∀ v : World, Calls Try.prog 12 #[meV m] v fun e w' => e = .returned (.bool true) ∧ Below v.heap.size v w') :
    Calls Try.prog 16 #[meV m] w fun e w' => e = .returned (.int .i64 r) ∧ Below w.heap.size w w' := by
  have A1 := hide (me_box w m)
  have HM := hide hM
  have HR := hide hr
  have hw : wrap64 q = q := by unfold wrap64; omega
  clear hM hr
  go_enter Try.func16, Try.ntmps16
  go_upto_region 1 with fail
  generalize w.alloc (Obj.cells #[Value.int .i64 m.a, Value.int .i64 m.b, Value.int .i64 m.c] 23) = w1 at *
  go_wp2_with (refine wpList_load_row rfl 23 _ rfl w.heap.size rfl 23 _ (0, 0) _ A1.out.1 Try.underlying23 rfl infoM ?_)
  refine (HM.out w1).mono ?_
  rintro e w2 ⟨rfl, hb⟩
  have A2 : Hid (Arr w2 w.heap.size 23 (meC m) ∧ Below w.heap.size w w2) := ⟨A1.out.1.kept hb, A1.out.2.trans (hb.mono A1.out.2.size)⟩
  have c0 := A2.out.1.cell 0
  have c1 := A2.out.1.cell 1
  have c2 := A2.out.1.cell 2
  simp only [List.getElem?_cons_zero, List.getElem?_cons_succ] at c0 c1 c2
  clear hb A1
  by_cases g1 : x < 50
  · have e := HR.out.symm.trans (clF_lo (by omega) (by omega))
    subst e
    go_wp2
    go_ret
    exact ⟨rfl, A2.out.2⟩
  by_cases g2 : 1000 < x
  · have e := HR.out.symm.trans (clF_hi (by omega) (by omega))
    subst e
    go_wp2
    go_ret
    exact ⟨rfl, A2.out.2⟩
  · have e := HR.out.symm.trans (clF_in (by omega) (by omega))
    subst e
    go_wp2
    go_ret
    exact ⟨rfl, A2.out.2⟩

theorem rwait_any (m : Me) (w : World) :
    Calls Try.prog 16 #[meV m] w fun e w' => e = .returned (.int .i64 (waitF m)) ∧ Below w.heap.size w w' := by
  by_cases hm : m.may ∧ m.a ≠ 0
  · obtain ⟨h1, h0⟩ := hm
    obtain ⟨_, _, h3, h4, h5, h6, _⟩ := id h1
    refine rwait_more m (m.b / 8) _ _ w (tdiv_pos h3) rfl (by omega) (by omega) (by omega) (by omega) (by simpa using h0) ?_ (fun v => by have := rmay_any m v; rwa [decide_eq_true h1] at this)
    rw [waitF, if_pos ⟨h1, h0⟩]
  · have HM := hide (fun v : World => rmay_any m v)
    have A1 := hide (me_box w m)
    rw [waitF, if_neg hm]
    by_cases h1 : m.may
    · have h0 : (m.a == 0) = true := by
        have : m.a = 0 := Decidable.byContradiction fun h => hm ⟨h1, h⟩
        simpa using this
      rw [decide_eq_true h1] at HM
      clear hm h1
      go_enter Try.func16, Try.ntmps16
      go_upto_region 1 with fail
      generalize w.alloc (Obj.cells #[Value.int .i64 m.a, Value.int .i64 m.b, Value.int .i64 m.c] 23) = w1 at *
      go_wp2_with (refine wpList_load_row rfl 23 _ rfl w.heap.size rfl 23 _ (0, 0) _ A1.out.1 Try.underlying23 rfl infoM ?_)
      refine (HM.out w1).mono ?_
      rintro e w2 ⟨rfl, hb⟩
      have A2 : Hid (Arr w2 w.heap.size 23 (meC m) ∧ Below w.heap.size w w2) := ⟨A1.out.1.kept hb, A1.out.2.trans (hb.mono A1.out.2.size)⟩
      have c0 := A2.out.1.cell 0
      simp only [List.getElem?_cons_zero] at c0
      clear hb A1
      go_wp2
      go_ret
      exact ⟨rfl, A2.out.2⟩
    · rw [decide_eq_false h1] at HM
      clear hm h1
      go_enter Try.func16, Try.ntmps16
      go_upto_region 1 with fail
      generalize w.alloc (Obj.cells #[Value.int .i64 m.a, Value.int .i64 m.b, Value.int .i64 m.c] 23) = w1 at *
      go_wp2_with (refine wpList_load_row rfl 23 _ rfl w.heap.size rfl 23 _ (0, 0) _ A1.out.1 Try.underlying23 rfl infoM ?_)
      refine (HM.out w1).mono ?_
      rintro e w2 ⟨rfl, hb⟩
      have A2 : Hid (Below w.heap.size w w2) := A1.out.2.trans (hb.mono A1.out.2.size)
      clear hb A1
      go_wp2
      go_ret
      exact ⟨rfl, A2.out⟩

set_option maxHeartbeats 4000000 in
set_option maxRecDepth 100000 in
theorem rone_first (m : Me) (s : Int) (w : World) (h0 : (m.a == 0) = true) (hs1 : 0 ≤ s) (hs2 : s ≤ 60000) :
    Calls Try.prog 19 #[meV m, .int .i64 s] w fun e w' => e = .returned (meV ⟨1, 8 * s, 2 * s⟩) ∧ Below w.heap.size w w' := by
  have A1 := hide (me_boxes w m)
  have c0 := A1.out.1.cell 0
  simp only [List.getElem?_cons_zero] at c0
  go_enter Try.func19, Try.ntmps19
  go_upto_region 1 with fail
  generalize (w.alloc (Obj.cells #[Value.int .i64 m.a, Value.int .i64 m.b, Value.int .i64 m.c] 23)).alloc (Obj.cells #[Value.int .i64 0, Value.int .i64 0, Value.int .i64 0] 23) = w1 at *
  go_wp2_with (refine wpList_store_row rfl 23 _ _ rfl (w.heap.size + 1) (meC ⟨1, 8 * s, 2 * s⟩).toArray rfl rfl 23 (meC Me.none).toArray A1.out.2.1 infoM rfl (one_meC _) ?_)
  exact bodyPost_ret (v := meV ⟨1, 8 * s, 2 * s⟩) (results_cell_row Try.results19 _ _ (w.heap.size + 1) 23 _ (0, 0) _ rfl (A1.out.2.1.row _) Try.underlying23 rfl infoM) rfl ⟨rfl, below_setRow A1.out.2.2 (Nat.le_succ _) A1.out.2.1.lt _⟩

theorem sets2 {w : World} {g : Nat} {t : TypeId} {m : Me} (h : Arr w g t (meC m)) (b c : Int) : Arr ((w.setCell ⟨g, 1, none⟩ (.int .i64 b)).setCell ⟨g, 2, none⟩ (.int .i64 c)) g t (meC ⟨m.a, b, c⟩) := (h.set 1 _).set 2 _
theorem sets3 {w : World} {g : Nat} {t : TypeId} {m : Me} (h : Arr w g t (meC m)) (b c d : Int) : Arr (((w.setCell ⟨g, 1, none⟩ (.int .i64 b)).setCell ⟨g, 2, none⟩ (.int .i64 c)).setCell ⟨g, 2, none⟩ (.int .i64 d)) g t (meC ⟨m.a, b, d⟩) := (sets2 h b c).set 2 _
theorem sets3a {w : World} {g : Nat} {t : TypeId} {m : Me} (h : Arr w g t (meC m)) (a b c : Int) : Arr (((w.setCell ⟨g, 1, none⟩ (.int .i64 b)).setCell ⟨g, 2, none⟩ (.int .i64 c)).setCell ⟨g, 0, none⟩ (.int .i64 a)) g t (meC ⟨a, b, c⟩) := (sets2 h b c).set 0 _
theorem sets4 {w : World} {g : Nat} {t : TypeId} {m : Me} (h : Arr w g t (meC m)) (a b c d : Int) : Arr ((((w.setCell ⟨g, 1, none⟩ (.int .i64 b)).setCell ⟨g, 2, none⟩ (.int .i64 c)).setCell ⟨g, 2, none⟩ (.int .i64 d)).setCell ⟨g, 0, none⟩ (.int .i64 a)) g t (meC ⟨a, b, d⟩) := (sets3 h b c d).set 0 _
theorem name_world {P : Program} {c : Code} {Q : Exit → Act → World → Prop} {a : Act} {w : World} (h : ∀ v, v = w → Code.wp P c Q a v) : Code.wp P c Q a w := h w rfl

set_option maxHeartbeats 4000000 in
set_option maxRecDepth 100000 in
theorem rone_more (m r : Me) (s q8 q4 : Int) (w : World) (e8 : Int.tdiv m.b 8 = q8) (e4 : Int.tdiv m.c 4 = q4) (b8 : 0 ≤ q8 ∧ q8 ≤ 60000) (b4 : 0 ≤ q4 ∧ q4 ≤ m.c) (hs : 0 ≤ s ∧ s ≤ 60000) (ba : 0 ≤ m.a ∧ m.a ≤ 1073741824) (bb : 0 ≤ m.b ∧ m.b ≤ 480007) (bc : 0 ≤ m.c ∧ m.c ≤ 480007)
    (h0 : (m.a == 0) = false)
    (hr : (Me.mk (if m.a < 1073741824 then m.a + 1 else m.a) (m.b + (s - q8)) (if 480007 < m.c - q4 + absF (s - q8) then 480007 else m.c - q4 + absF (s - q8))) = r) :
    Calls Try.prog 19 #[meV m, .int .i64 s] w fun e w' => e = .returned (meV r) ∧ Below w.heap.size w w' := by
  have A1 := hide (me_boxes w m)
  have HR := hide hr
  have w8 : wrap64 q8 = q8 := by unfold wrap64; omega
  have w4 : wrap64 q4 = q4 := by unfold wrap64; omega
  clear hr
  obtain ⟨b8, b8'⟩ := b8
  obtain ⟨b4, b4'⟩ := b4
  obtain ⟨hs, hs'⟩ := hs
  obtain ⟨ba, ba'⟩ := ba
  obtain ⟨bb, bb'⟩ := bb
  obtain ⟨bc, bc'⟩ := bc
  go_enter Try.func19, Try.ntmps19
  go_upto_region 4 with fail
  have hz1 : ((w.alloc (Obj.cells #[Value.int .i64 m.a, Value.int .i64 m.b, Value.int .i64 m.c] 23)).alloc (Obj.cells #[Value.int .i64 0, Value.int .i64 0, Value.int .i64 0] 23)).heap.size = w.heap.size + 1 + 1 := by simp
  generalize (w.alloc (Obj.cells #[Value.int .i64 m.a, Value.int .i64 m.b, Value.int .i64 m.c] 23)).alloc (Obj.cells #[Value.int .i64 0, Value.int .i64 0, Value.int .i64 0] 23) = w1 at *
  have HZ := hide hz1
  have A2 : Hid (Arr (w1.alloc (Obj.cells #[Value.int .i64 0, Value.int .i64 0, Value.int .i64 0] 23)) w.heap.size 23 (meC m) ∧ Arr (w1.alloc (Obj.cells #[Value.int .i64 0, Value.int .i64 0, Value.int .i64 0] 23)) (w.heap.size + 1) 23 (meC Me.none) ∧ Arr (w1.alloc (Obj.cells #[Value.int .i64 0, Value.int .i64 0, Value.int .i64 0] 23)) (w.heap.size + 1 + 1) 23 (meC Me.none) ∧ Below w.heap.size w (w1.alloc (Obj.cells #[Value.int .i64 0, Value.int .i64 0, Value.int .i64 0] 23))) :=
    ⟨A1.out.1.alloc _, A1.out.2.1.alloc _, Arr.newAt w1 _ _ _ hz1, A1.out.2.2.alloc (by omega) _⟩
  go_upto_region 5 with (first
    | (refine wpList_exec (by rfl) _ (exec_load_all 23 (.tmp 2) rfl w.heap.size rfl 23 (meC m) _ A1.out.1 Try.underlying23 rfl infoM) ?_)
    | (refine wpList_store_row rfl 23 _ _ rfl (w.heap.size + 1 + 1) (meC m).toArray rfl rfl 23 (meC Me.none).toArray A2.out.2.2.1 infoM rfl (one_meC _) ?_))
  have A3 : Hid (Arr ((w1.alloc (Obj.cells #[Value.int .i64 0, Value.int .i64 0, Value.int .i64 0] 23)).setRow (w.heap.size + 1 + 1) (meC m).toArray) w.heap.size 23 (meC m) ∧ Arr ((w1.alloc (Obj.cells #[Value.int .i64 0, Value.int .i64 0, Value.int .i64 0] 23)).setRow (w.heap.size + 1 + 1) (meC m).toArray) (w.heap.size + 1) 23 (meC Me.none) ∧ Arr ((w1.alloc (Obj.cells #[Value.int .i64 0, Value.int .i64 0, Value.int .i64 0] 23)).setRow (w.heap.size + 1 + 1) (meC m).toArray) (w.heap.size + 1 + 1) 23 (meC m) ∧ Below w.heap.size w ((w1.alloc (Obj.cells #[Value.int .i64 0, Value.int .i64 0, Value.int .i64 0] 23)).setRow (w.heap.size + 1 + 1) (meC m).toArray)) :=
    ⟨A2.out.1.rowOther _ _ (by omega), A2.out.2.1.rowOther _ _ (by omega), A2.out.2.2.1.row _, below_setRow A2.out.2.2.2 (by omega) A2.out.2.2.1.lt _⟩
  generalize (w1.alloc (Obj.cells #[Value.int .i64 0, Value.int .i64 0, Value.int .i64 0] 23)).setRow (w.heap.size + 1 + 1) (meC m).toArray = w2 at *
  clear A1 A2 hz1 HZ
  have c0 := A3.out.1.cell 0
  have c1 := A3.out.1.cell 1
  have c2 := A3.out.1.cell 2
  have x0 := A3.out.2.2.1.cell 0
  have x1 := A3.out.2.2.1.cell 1
  have x2 := A3.out.2.2.1.cell 2
  have f0 := A3.out.2.2.1.frozen 0
  have f1 := A3.out.2.2.1.frozen 1
  have f2 := A3.out.2.2.1.frozen 2
  simp only [List.getElem?_cons_zero, List.getElem?_cons_succ] at c0 c1 c2 x0 x1 x2
  go_upto_region 13 with fail
  all_goals
    refine name_world (fun w3 hw3 => ?_)
    have e := HR.out
    first
      | rw [show absF (s - q8) = s - q8 from if_neg (by omega)] at e
      | rw [show absF (s - q8) = -(s - q8) from if_pos (by omega)] at e
    repeat (first | rw [if_pos (by omega)] at e | rw [if_neg (by omega)] at e)
    have A4 : Hid (Arr w3 (w.heap.size + 1 + 1) 23 (meC r) ∧ Arr w3 (w.heap.size + 1) 23 (meC Me.none) ∧ Below w.heap.size w w3) := by
      rw [hw3]
      refine ⟨?_, ?_, ?_⟩
      · rw [← e]
        first
          | with_reducible exact sets4 A3.out.2.2.1 _ _ _ _
          | with_reducible exact sets3a A3.out.2.2.1 _ _ _
          | with_reducible exact sets3 A3.out.2.2.1 _ _ _
          | with_reducible exact sets2 A3.out.2.2.1 _ _
      · repeat (first | with_reducible exact A3.out.2.1 | with_reducible refine Arr.other ?_ _ _ (show w.heap.size + 1 ≠ w.heap.size + 1 + 1 from by omega))
      · repeat (first | with_reducible exact A3.out.2.2.2 | with_reducible refine Below.setCell ?_ (show w.heap.size ≤ w.heap.size + 1 + 1 from by omega) _)
    clear hw3 A3 c0 c1 c2 x0 x1 x2 f0 f1 f2 HR e
    go_wp2_with (first
      | (refine wpList_exec (by rfl) _ (exec_load_all 23 (.tmp 6) rfl (w.heap.size + 1 + 1) rfl 23 (meC r) _ A4.out.1 Try.underlying23 rfl infoM) ?_)
      | (refine wpList_store_row rfl 23 _ _ rfl (w.heap.size + 1) (meC r).toArray rfl rfl 23 (meC Me.none).toArray A4.out.2.1 infoM rfl (one_meC _) ?_))
    exact bodyPost_ret (v := meV r) (results_cell_row Try.results19 _ _ (w.heap.size + 1) 23 _ (0, 0) _ rfl (A4.out.2.1.row _) Try.underlying23 rfl infoM) rfl ⟨rfl, below_setRow A4.out.2.2 (Nat.le_succ _) A4.out.2.1.lt _⟩

theorem rone_any (m : Me) (s : Int) (w : World) (hm : m.may) (hs : Samp s) :
    Calls Try.prog 19 #[meV m, .int .i64 s] w fun e w' => e = .returned (meV (m.one s)) ∧ Below w.heap.size w w' := by
  by_cases h0 : m.a = 0
  · rw [Me.one_zero h0]
    exact rone_first m s w (by simpa using h0) hs.1 hs.2
  · obtain ⟨h1, h2, h3, h4, h5, h6, _⟩ := id hm
    exact rone_more m _ s (m.b / 8) (m.c / 4) w (tdiv_pos h3) (tdiv_pos h5) ⟨by omega, by omega⟩ ⟨by omega, by omega⟩ hs ⟨h1, h2⟩ ⟨h3, h4⟩ ⟨h5, h6⟩ (by simpa using h0) (by rw [Me.one, if_neg h0])

end Go.Proofs.Ythnbbflpnklbjaa
