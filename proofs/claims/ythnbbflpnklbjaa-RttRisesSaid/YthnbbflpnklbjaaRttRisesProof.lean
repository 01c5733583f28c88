/-
  RttRises: of two samples the greater one makes the mean no less, whatever was heard ahead, and the mean goes no farther than the sample (of meters that may not be, and of numbers that are no samples, nothing is asked but the known rows): the law returns true, and what is handed in stays. No condition.
-/
import Derived.Test.YthnbbflpnklbjaaTH
namespace Go.Proofs.Ythnbbflpnklbjaa
namespace RttRisesProof
open Go.ChangeShapes Go.WideShapes Go.ChangeAt Go.WideMaps Go.WideElems Go.RowKit
set_option linter.unusedVariables false

theorem mean_one {m : Me} {s : Int} (hm : m.may) (hs : Samp s) : meanF (m.one s) = if m.a = 0 then s else (m.b + (s - m.b / 8)) / 8 := by
  rw [meanF, if_pos (Me.may_one hm hs).1]
  unfold Me.one
  by_cases h0 : m.a = 0
  · rw [if_pos h0, if_pos h0]; simp only; omega
  · rw [if_neg h0, if_neg h0]
theorem many_one (m : Me) (s t : Int) : (m.one s).a = (m.one t).a := by
  unfold Me.one
  by_cases h0 : m.a = 0
  · rw [if_pos h0, if_pos h0]
  · rw [if_neg h0, if_neg h0]
theorem hear_samp {m : Me} {s : Int} (hm : m.may) (hs : Samp s) : hearM m [s] = m.one s ∧ hearE m [s] = 0 := by
  have h : m.may ∧ ∀ x ∈ [s], Samp x := ⟨hm, fun x hx => by simp at hx; rw [hx]; exact hs⟩
  exact ⟨(if_pos h).trans rfl, if_pos h⟩
/-- what is asked of the means -/
def Ri (s t was x y : Int) : Prop := x ≤ y ∧ ((was ≤ s ∧ was ≤ x ∧ x ≤ s) ∨ (s < was ∧ s ≤ x ∧ x ≤ was)) ∧ ((was ≤ t ∧ was ≤ y ∧ y ≤ t) ∨ (t < was ∧ t ≤ y ∧ y ≤ was))
theorem ri_any {m : Me} {s t : Int} (hm : m.may) (h0 : m.a ≠ 0) (hs : Samp s) (ht : Samp t) (hst : s ≤ t) : Ri s t (meanF m) (meanF (m.one s)) (meanF (m.one t)) := by
  rw [mean_one hm hs, mean_one hm ht, if_neg h0, if_neg h0, meanF, if_pos hm]
  obtain ⟨_, _, h3, h4, _⟩ := hm
  obtain ⟨s1, s2⟩ := hs
  obtain ⟨t1, t2⟩ := ht
  refine ⟨by omega, ?_, ?_⟩
  · by_cases h : m.b / 8 ≤ s
    · left; omega
    · right; omega
  · by_cases h : m.b / 8 ≤ t
    · left; omega
    · right; omega

set_option maxHeartbeats 8000000 in
set_option maxRecDepth 100000 in
theorem walk_no (m : Me) (s t : Int) (r : Bool) (w : World) (hno : r = false ∨ s < 0 ∨ 60000 < s ∨ t < s ∨ 60000 < t)
    (h1 : ∀ v : World, Calls Try.prog 11 #[meV m] v fun e w' => e = .returned (.bool r) ∧ Below v.heap.size v w') :
    Calls Try.prog 7 #[meV m, .int .i64 s, .int .i64 t] w fun e w' => e = .returned (.bool true) ∧ Below w.heap.size w w' := by
  have H1 := hide h1
  have A0 := hide (me_box w m)
  have HNO := hide hno
  clear h1 hno
  go_enter Try.func7, Try.ntmps7
  go_upto_region 1 with fail
  generalize w.alloc (Obj.cells #[Value.int .i64 m.a, Value.int .i64 m.b, Value.int .i64 m.c] 23) = w1 at *
  go_wp2_with fail
  refine (known_any w1).mono ?_
  rintro e w2 ⟨rfl, hb⟩
  have A2 : Hid (Arr w2 w.heap.size 23 (meC m) ∧ Below w.heap.size w w2) := ⟨A0.out.1.kept hb, A0.out.2.trans (hb.mono A0.out.2.size)⟩
  clear hb A0
  go_wp2_with (refine wpList_exec (by rfl) _ (exec_load_all 23 (.tmp 3) rfl w.heap.size rfl 23 (meC m) _ A2.out.1 Try.underlying23 rfl infoM) ?_)
  refine (H1.out w2).mono ?_
  rintro e w3 ⟨rfl, hb⟩
  have A3 : Hid (Below w.heap.size w w3) := A2.out.2.trans (hb.mono A2.out.2.size)
  clear hb A2 H1
  cases r
  · go_wp2
    go_ret
    exact ⟨rfl, A3.out⟩
  by_cases g1 : s < 0
  · go_wp2
    go_ret
    exact ⟨rfl, A3.out⟩
  by_cases g2 : 60000 < s
  · go_wp2
    go_ret
    exact ⟨rfl, A3.out⟩
  by_cases g3 : t < s
  · go_wp2
    go_ret
    exact ⟨rfl, A3.out⟩
  have g4 : 60000 < t := by
    rcases HNO.out with h | h | h | h | h
    · cases h
    all_goals omega
  go_wp2
  go_ret
  exact ⟨rfl, A3.out⟩

/-- what lies in memory -/
structure StR (w wr : World) (m a b : Me) (g7 g9 : Nat) : Prop where
  m : Arr wr w.heap.size 23 (meC m)
  a : Arr wr g7 23 (meC a)
  b : Arr wr g9 23 (meC b)
  w : Below w.heap.size w wr
theorem StR.kept {w wr w' : World} {m a b : Me} {g7 g9 : Nat} (h : StR w wr m a b g7 g9) (hb : Below wr.heap.size wr w') : StR w w' m a b g7 g9 :=
  ⟨h.m.kept hb, h.a.kept hb, h.b.kept hb, h.w.trans (hb.mono h.w.size)⟩
theorem StR.drew {w wr : World} {m a b : Me} {g7 g9 : Nat} (h : StR w wr m a b g7 g9) : StR w wr.drew m a b g7 g9 := h.kept (Below.refl _ _).drew

set_option maxHeartbeats 8000000 in
set_option maxRecDepth 100000 in
theorem walk_yes (m a b : Me) (s t x y was : Int) (w : World) (hs1 : 0 ≤ s) (hs2 : s ≤ 60000) (ht1 : s ≤ t) (ht2 : t ≤ 60000) (hab : a.a = b.a) (h0 : (m.a == 0) = true ∧ x = s ∧ y = t ∨ (m.a == 0) = false ∧ Ri s t was x y)
    (h1 : ∀ v : World, Calls Try.prog 11 #[meV m] v fun e w' => e = .returned (.bool true) ∧ Below v.heap.size v w')
    (h2 : ∀ (g : Nat) (v : World), v.cell? ⟨g, 0, none⟩ = some (.int .i64 s) → Calls Try.prog 9 #[meV m, .slice (some ⟨g, 0, none⟩) 1 1] v fun e w' => e = .returned (.tuple #[meV a, .int .i64 0]) ∧ Below v.heap.size v w')
    (h3 : ∀ (g : Nat) (v : World), v.cell? ⟨g, 0, none⟩ = some (.int .i64 t) → Calls Try.prog 9 #[meV m, .slice (some ⟨g, 0, none⟩) 1 1] v fun e w' => e = .returned (.tuple #[meV b, .int .i64 0]) ∧ Below v.heap.size v w')
    (h4 : ∀ v : World, Calls Try.prog 13 #[meV a] v fun e w' => e = .returned (.int .i64 x) ∧ Below v.heap.size v w')
    (h5 : ∀ v : World, Calls Try.prog 13 #[meV b] v fun e w' => e = .returned (.int .i64 y) ∧ Below v.heap.size v w')
    (h6 : ∀ v : World, Calls Try.prog 13 #[meV m] v fun e w' => e = .returned (.int .i64 was) ∧ Below v.heap.size v w') :
    Calls Try.prog 7 #[meV m, .int .i64 s, .int .i64 t] w fun e w' => e = .returned (.bool true) ∧ Below w.heap.size w w' := by
  have H1 := hide h1
  have H2 := hide h2
  have H3 := hide h3
  have H4 := hide h4
  have H5 := hide h5
  have H6 := hide h6
  have H0 := hide h0
  have HAB := hide hab
  have A0 := hide (me_box w m)
  clear h1 h2 h3 h4 h5 h6 h0 hab
  go_enter Try.func7, Try.ntmps7
  go_upto_region 1 with fail
  generalize w.alloc (Obj.cells #[Value.int .i64 m.a, Value.int .i64 m.b, Value.int .i64 m.c] 23) = w1 at *
  go_wp2_with fail
  refine (known_any w1).mono ?_
  rintro e w2 ⟨rfl, hb⟩
  have A2 : Hid (Arr w2 w.heap.size 23 (meC m) ∧ Below w.heap.size w w2) := ⟨A0.out.1.kept hb, A0.out.2.trans (hb.mono A0.out.2.size)⟩
  clear hb A0
  go_wp2_with (refine wpList_exec (by rfl) _ (exec_load_all 23 (.tmp 3) rfl w.heap.size rfl 23 (meC m) _ A2.out.1 Try.underlying23 rfl infoM) ?_)
  refine (H1.out w2).mono ?_
  rintro e w3 ⟨rfl, hb⟩
  have A3 : Hid (Arr w3 w.heap.size 23 (meC m) ∧ Below w.heap.size w w3) := ⟨A2.out.1.kept hb, A2.out.2.trans (hb.mono A2.out.2.size)⟩
  have A3' : Hid (Arr (w3.alloc (Obj.cells #[Value.int .i64 s] 3)) w.heap.size 23 (meC m) ∧ Below w.heap.size w (w3.alloc (Obj.cells #[Value.int .i64 s] 3))) := ⟨A3.out.1.alloc _, A3.out.2.alloc A3.out.2.size _⟩
  clear hb A2 H1
  go_wp2_with (refine wpList_exec (by rfl) _ (exec_load_all 23 (.tmp 3) rfl w.heap.size rfl 23 (meC m) _ A3.out.1 Try.underlying23 rfl infoM) ?_)
  refine (H2.out _ _ (by simp)).mono ?_
  rintro e w4 ⟨rfl, hb⟩
  have hb' : Below (w3.alloc (Obj.cells #[Value.int .i64 s] 3)).heap.size (w3.alloc (Obj.cells #[Value.int .i64 s] 3)) (w4.alloc (Obj.cells #[Value.int .i64 a.a, Value.int .i64 a.b, Value.int .i64 a.c] 23)) := hb.alloc hb.size _
  have A4 : Hid (Arr (w4.alloc (Obj.cells #[Value.int .i64 a.a, Value.int .i64 a.b, Value.int .i64 a.c] 23)) w.heap.size 23 (meC m) ∧ Arr (w4.alloc (Obj.cells #[Value.int .i64 a.a, Value.int .i64 a.b, Value.int .i64 a.c] 23)) w4.heap.size 23 (meC a) ∧ Below w.heap.size w (w4.alloc (Obj.cells #[Value.int .i64 a.a, Value.int .i64 a.b, Value.int .i64 a.c] 23))) := ⟨A3'.out.1.kept hb', Arr.new w4 _ _, A3'.out.2.trans (hb'.mono A3'.out.2.size)⟩
  clear hb hb' A3 A3' H2
  go_upto_region 6 with fail
  generalize w4.alloc (Obj.cells #[Value.int .i64 a.a, Value.int .i64 a.b, Value.int .i64 a.c] 23) = w5 at *
  generalize w4.heap.size = g7 at *
  have A5 : Hid (Arr (w5.alloc (Obj.cells #[Value.int .i64 t] 3)) w.heap.size 23 (meC m) ∧ Arr (w5.alloc (Obj.cells #[Value.int .i64 t] 3)) g7 23 (meC a) ∧ Below w.heap.size w (w5.alloc (Obj.cells #[Value.int .i64 t] 3))) := ⟨A4.out.1.alloc _, A4.out.2.1.alloc _, A4.out.2.2.alloc A4.out.2.2.size _⟩
  go_wp2_with (refine wpList_exec (by rfl) _ (exec_load_all 23 (.tmp 3) rfl w.heap.size rfl 23 (meC m) _ A4.out.1 Try.underlying23 rfl infoM) ?_)
  refine (H3.out _ _ (by simp)).mono ?_
  rintro e w6 ⟨rfl, hb⟩
  have hb' : Below (w5.alloc (Obj.cells #[Value.int .i64 t] 3)).heap.size (w5.alloc (Obj.cells #[Value.int .i64 t] 3)) (w6.alloc (Obj.cells #[Value.int .i64 b.a, Value.int .i64 b.b, Value.int .i64 b.c] 23)) := hb.alloc hb.size _
  have A6 : Hid (StR w (w6.alloc (Obj.cells #[Value.int .i64 b.a, Value.int .i64 b.b, Value.int .i64 b.c] 23)) m a b g7 w6.heap.size) := ⟨A5.out.1.kept hb', A5.out.2.1.kept hb', Arr.new w6 _ _, A5.out.2.2.trans (hb'.mono A5.out.2.2.size)⟩
  clear hb hb' A4 A5 H3
  go_upto_region 7 with fail
  generalize w6.alloc (Obj.cells #[Value.int .i64 b.a, Value.int .i64 b.b, Value.int .i64 b.c] 23) = w7 at *
  generalize w6.heap.size = g9 at *
  refine wp_region_held_drew (S := fun v => Hid (StR w v m a b g7 g9)) (by kernel_rfl) (hide A6.out.drew) (fun hHeld => ?_)
  refine take_dstH (i := 0) (d := 50) (v := ?_) rfl rfl (by kernel_rfl) (by kernel_rfl) (by kernel_rfl) (fun _ _ _ h => h) (by rfl) hHeld ?_ ?_
  rotate_left
  · intro wZ hSw; refine exec_load_all 23 (.tmp 7) ?_ g7 ?_ 23 (meC a) _ (Hid.out hSw).a Try.underlying23 rfl infoM <;> rfl
  try simp only [Act.put, List.setIfInBounds_toArray, List.set_cons_zero, List.set_cons_succ]
  refine take_dstH (i := 2) (d := 52) (v := ?_) rfl rfl (by kernel_rfl) (by kernel_rfl) (by kernel_rfl) (fun _ _ _ h => h) (by rfl) hHeld ?_ ?_
  rotate_left
  · intro wZ hSw; refine exec_load_all 23 (.tmp 9) ?_ g9 ?_ 23 (meC b) _ (Hid.out hSw).b Try.underlying23 rfl infoM <;> rfl
  try simp only [Act.put, List.setIfInBounds_toArray, List.set_cons_zero, List.set_cons_succ]
  refine wpAnyH_ready (rs := [1]) (by kernel_rfl) (by simp) ?_
  refine (AllReadyH.cons rfl (fun K hK => ?_) AllReadyH.nil)
  go_simp
  refine (H4.out _).mono ?_; rintro e wa ⟨rfl, hba⟩; have HA : Hid (StR w wa m a b g7 g9) := (Hid.out hHeld).kept hba; clear hba
  go_wp2_with fail
  refine hK.out _ _ ?_ (fun hHeld => ?_)
  · exact HA
  clear hK K
  try simp only [Act.put, List.setIfInBounds_toArray, List.set_cons_zero, List.set_cons_succ]
  refine wpAnyH_ready (rs := [3]) (by kernel_rfl) (by simp) ?_
  refine (AllReadyH.cons rfl (fun K hK => ?_) AllReadyH.nil)
  go_simp
  refine (H5.out _).mono ?_; rintro e wb ⟨rfl, hba⟩; have HA : Hid (StR w wb m a b g7 g9) := (Hid.out hHeld).kept hba; clear hba
  go_wp2_with fail
  refine hK.out _ _ ?_ (fun hHeld => ?_)
  · exact HA
  clear hK K
  try simp only [Act.put, List.setIfInBounds_toArray, List.set_cons_zero, List.set_cons_succ]
  refine take_dstH (i := 4) (d := 11) (v := ?_) rfl rfl (by kernel_rfl) (by kernel_rfl) (by kernel_rfl) (fun _ _ _ h => h) (by rfl) hHeld ?_ ?_
  rotate_left
  · intro wZ hSw; clear hSw; go_simp; first | (with_reducible rfl) | (rw [if_pos (by omega)]; with_reducible rfl) | skip
  try simp only [Act.put, List.setIfInBounds_toArray, List.set_cons_zero, List.set_cons_succ]
  refine take_dstH (i := 5) (d := 12) (v := ?_) rfl rfl (by kernel_rfl) (by kernel_rfl) (by kernel_rfl) (fun _ _ _ h => h) (by rfl) hHeld ?_ ?_
  rotate_left
  · intro wZ hSw; clear hSw; go_simp; first | (with_reducible rfl) | (rw [if_pos (by omega)]; with_reducible rfl) | skip
  try simp only [Act.put, List.setIfInBounds_toArray, List.set_cons_zero, List.set_cons_succ]
  refine wpAnyH_done (by kernel_rfl) ?_ _
  have ca := hHeld.out.a.cell 0
  have cb := hHeld.out.b.cell 0
  have cm := hHeld.out.m.cell 0
  simp only [List.getElem?_cons_zero] at ca cb cm
  rw [HAB.out] at ca
  clear H4 H5 A6 HAB
  generalize b.a = ba at *
  have hba : (ba != ba) = false := by simp
  rcases H0.out with ⟨hz, hx, hy⟩ | ⟨hz, hR⟩
  · subst hx hy
    go_wp2
    go_ret
    exact ⟨rfl, hHeld.out.w⟩
  · obtain ⟨hxy, hR1, hR2⟩ := hR
    have R1 := hide hR1
    have R2 := hide hR2
    clear hR1 hR2 H0
    go_upto_region 12 with fail
    have HT := hide (Hid.out hHeld)
    clear ca cb cm
    go_wp2_with (refine wpList_exec (by rfl) _ (exec_load_all 23 (.tmp 3) rfl w.heap.size rfl 23 (meC m) _ HT.out.m Try.underlying23 rfl infoM) ?_)
    refine (H6.out _).mono ?_
    rintro e w9 ⟨rfl, hb⟩
    have A9 : Hid (Below w.heap.size w w9) := HT.out.w.trans (hb.mono HT.out.w.size)
    clear hb HT H6
    go_upto_region 13 with fail
    rcases R1.out with ⟨p1, p2, p3⟩ | ⟨p1, p2, p3⟩
    all_goals
      rcases R2.out with ⟨q1, q2, q3⟩ | ⟨q1, q2, q3⟩
      all_goals
        first
        | (exfalso; omega)
        | (go_wp2
           all_goals
             go_ret
             refine ⟨?_, A9.out⟩
             first
               | rfl
               | (show Ending.returned (Value.bool (decide _)) = _; rw [decide_eq_true (by omega)])
               | (simp; omega))

theorem walk (m : Me) (s t : Int) (w : World) (w1 : (Lit.int .i64 s).wf = true) (w2 : (Lit.int .i64 t).wf = true) :
    Calls Try.prog 7 #[meV m, .int .i64 s, .int .i64 t] w fun e w' => e = .returned (.bool true) ∧ Below w.heap.size w w' := by
  by_cases h : m.may ∧ 0 ≤ s ∧ s ≤ 60000 ∧ s ≤ t ∧ t ≤ 60000
  · obtain ⟨hm, h1, h2, h3, h4⟩ := h
    have hs : Samp s := ⟨h1, h2⟩
    have ht : Samp t := ⟨by omega, h4⟩
    refine walk_yes m (m.one s) (m.one t) s t _ _ (meanF m) w h1 h2 h3 h4 (many_one m s t) ?_ (fun v => by have := may_any m v; rwa [decide_eq_true hm] at this) (fun g v hc => ?_) (fun g v hc => ?_) (fun v => mean_any _ v) (fun v => mean_any _ v) (fun v => mean_any m v)
    · by_cases h0 : m.a = 0
      · left
        rw [mean_one hm hs, mean_one hm ht, if_pos h0, if_pos h0]
        exact ⟨by simpa using h0, rfl, rfl⟩
      · right
        exact ⟨by simpa using h0, ri_any hm h0 hs ht h3⟩
    · have := hear_one m s g v hc
      rwa [(hear_samp hm hs).1, (hear_samp hm hs).2] at this
    · have := hear_one m t g v hc
      rwa [(hear_samp hm ht).1, (hear_samp hm ht).2] at this
  · refine walk_no m s t _ w ?_ (fun v => may_any m v)
    by_cases hm : m.may
    · right; omega
    · left; exact decide_eq_false hm

theorem own : ownKnob Try.prog.godebug = none := by kernel_rfl
theorem laidOut : laidOutB Try.prog = true := by kernel_rfl
set_option maxRecDepth 100000 in
theorem lifted (os : Os) (started : os.Started) (H : Type) (enc : TypeId × Value → H) :
    ReturnsInHanded {} Try.checked os 7 .any (Rows.rttRisesSpec.pre6 enc Try.prog Try.f7 Rows.rttRisesRow.domain false) (Rows.rttRisesSpec.post enc Try.prog Try.f7 false true false false) := by
  refine returnsInHanded_of_change (C := Try.checked) own started (by kernel_rfl) Try.func7
    (ChangeSpec.witness6 (enc := enc) (C := Try.checked) false ⟨#[], #[.agg #[.int .i64 0, .int .i64 0, .int .i64 0], .int .i64 0, .int .i64 0], []⟩ 8 (by kernel_rfl) (by kernel_rfl) (by kernel_rfl) (by kernel_rfl)) ?_
  intro W base args ds gs before hval0 hW hcnd _
  have hval : ∀ (j : Nat) t v, Try.f7.params[j]? = some t → args[j]? = some v → Value.okWide Try.prog W .any base t v := hval0
  have hW' := hW
  obtain ⟨p, q, hA0, hV, rfl, hfz, hnd⟩ := hW
  have hA : DataW.TrodAll enc Try.prog W 0 (fun _ => true) true Try.f7.params.toList args.toList ds p := hA0
  rw [Try.params7] at hA hval
  obtain ⟨v0, vs0, d0, ds0, p0, q0, hargs, rfl, rfl, h0, r0⟩ := trodAll_cons hA
  obtain ⟨v1, vs1, d1, ds1, p1, q1, rfl, rfl, rfl, h1, r1⟩ := trodAll_cons r0
  obtain ⟨v2, vs2, d2, ds2, p2, q2, rfl, rfl, rfl, h2, r2⟩ := trodAll_cons r1
  obtain ⟨rfl, rfl, rfl⟩ := trodAll_nil r2
  obtain rfl : args = #[v0, v1, v2] := by cases args; simp_all
  obtain ⟨rfl, rfl⟩ := trodVars_none hV
  have k0 := h0
  obtain ⟨x0, rfl, z0⟩ := open_meter (hval 0 23 v0 rfl rfl) h0
  obtain ⟨a1, rfl, rfl, rfl, w1⟩ := open_int Try.underlying3 (hval 1 3 v1 rfl rfl) h1
  obtain ⟨a2, rfl, rfl, rfl, w2⟩ := open_int Try.underlying3 (hval 2 3 v2 rfl rfl) h2
  clear hA0 hval0
  refine (walk x0 a1 a2 W w1 w2).mono fun e W' ⟨he, bel⟩ => ?_
  subst he
  exact ⟨_, rfl, _, _, _, [], _, [], hW', trodAll_mk1 (shut_bool Try.underlying4 _), (trodAll_cons_mk (Below.trod laidOut (by kernel_rfl) (of_decide_eq_true (by kernel_rfl)) k0 bel (fun x hx => (z0 x hx).elim)) (trodAll_cons_mk (shut_int Try.underlying3 w1) (trodAll_cons_mk (shut_int Try.underlying3 w2) trodAll_mk0))), rfl, bel.frame _, fun h => by cases h⟩

theorem over : Rows.rttRisesRow.holds Try.pinned (OpenSpec.ofChange Rows.rttRisesSpec) :=
  OpenClaim.holds_of_wide 7 Try.f7 rfl rfl rfl rfl rfl rfl rfl ⟨rfl, rfl, rfl, rfl, rfl⟩ rfl rfl rfl rfl rfl (by kernel_rfl) Try.func7 (by kernel_rfl)
    (of_decide_eq_true (by kernel_rfl)) (by unfold Func.isWrapper; first | (rw [if_pos (by decide +kernel)]; kernel_rfl) | (rw [if_neg (by decide +kernel)]; exact ⟨rfl, rfl⟩))
    (fun os started H enc _ => lifted os started H enc)

end RttRisesProof

/-- Of two samples the greater one makes the mean no less; the mean goes no farther than the sample. -/
theorem rttRises_holds : Rows.RttRisesSaid := RttRisesProof.over

#print axioms rttRises_holds
end Go.Proofs.Ythnbbflpnklbjaa
