/-
  LinkNone, the tied card: a link that is not there, or that New did not make, sends and hears nothing; no condition but the two tables, which the card ties to the program's text.
-/
import Derived.Test.YtanjbblkijhibaaDoorJU
import Derived.Test.YtanjbblkijhibaaDoorKD
import Derived.Test.YtanjbblkijhibaaDoorKE
namespace Go.Proofs.YtanjbblkijhibaaDoor
namespace LinkNoneProof
open Go.ChangeShapes Go.WideShapes Go.ChangeAt Go.WideMaps Go.WideElems Go.RowKit

abbrev opL (k a now frm : Int) (d : Bool) (m : Nat) (p : Option Addr) (n c : Nat) : List Value := [.int .i64 k, .int .i64 a, .int .i64 now, .int .i64 frm, .bool d, .int .u64 (m : Int), .slice p n c]
theorem op_box (w : World) (k a now frm : Int) (d : Bool) (m : Nat) (p : Option Addr) (n c : Nat) : Arr (w.alloc (Obj.cells #[Value.int .i64 k, Value.int .i64 a, Value.int .i64 now, Value.int .i64 frm, Value.bool d, Value.int .u64 (m : Int), Value.slice p n c] 44)) w.heap.size 44 (opL k a now frm d m p n c) ∧ Below w.heap.size w (w.alloc (Obj.cells #[Value.int .i64 k, Value.int .i64 a, Value.int .i64 now, Value.int .i64 frm, Value.bool d, Value.int .u64 (m : Int), Value.slice p n c] 44)) := ⟨Arr.new w _ _, (Below.refl _ _).alloc (Nat.le_refl _) _⟩
theorem op_at {w : World} {g : Nat} {k a now frm : Int} {d : Bool} {m : Nat} {p : Option Addr} {n c : Nat} (h : Arr w g 44 (opL k a now frm d m p n c)) : w.cell? ⟨g, 2, none⟩ = some (.int .i64 now) ∧ w.cell? ⟨g, 3, none⟩ = some (.int .i64 frm) ∧ w.cell? ⟨g, 6, none⟩ = some (.slice p n c) := ⟨h.cell 2, h.cell 3, h.cell 6⟩

theorem zeroLk_built : Tryd.prog.built 59 [] = some zeroLk.toArray := by kernel_rfl
theorem nolk_zero (w : World) : NoLk (w.alloc (Obj.cells zeroLk.toArray 59)) (some ⟨w.heap.size, 0, none⟩) := Or.inr ⟨_, rfl, (Arr.new w 59 zeroLk).cell 49⟩
theorem nolk_kept {w w' : World} {p : Option Addr} (h : NoLk w p) (hb : Below w.heap.size w w') : NoLk w' p := by
  rcases h with rfl | ⟨g, rfl, hc⟩
  · exact Or.inl rfl
  · exact Or.inr ⟨g, rfl, (hb.cell (block_lt_of_cell hc)).trans hc⟩

set_option maxHeartbeats 8000000 in
set_option maxRecDepth 100000 in
theorem walk_in (k a now frm : Int) (d : Bool) (m : Nat) (p : Option Addr) (n c : Nat) (W : World)
    (hK : ∀ v, Below W.heap.size W v → Calls Tryd.prog 8 #[] v fun e w' => e = .returned (.bool true) ∧ Below v.heap.size v w') :
    Calls Tryd.prog 4 #[.agg (opL k a now frm d m p n c).toArray] W fun r w' => r = .returned (.bool true) ∧ Below W.heap.size W w' := by
  have HK := hide hK
  have A1 := hide (op_box W k a now frm d m p n c)
  clear hK
  by_cases hn : 1300 < n
  · have d1 : decide ((1300 : Int) < (n : Int)) = true := by simp; omega
    clear hn
    have c6 := (op_at A1.out.1).2.2
    go_enter Tryd.func4, Tryd.ntmps4
    go_upto_region 1 with fail
    generalize W.alloc (Obj.cells #[Value.int .i64 k, Value.int .i64 a, Value.int .i64 now, Value.int .i64 frm, Value.bool d, Value.int .u64 (m : Int), Value.slice p n c] 44) = w1 at *
    go_wp2_with fail
    refine (HK.out w1 A1.out.2).mono ?_
    rintro r w2 ⟨rfl, hb⟩
    have HB := hide (A1.out.2.trans (hb.mono A1.out.2.size))
    clear hb A1 HK c6
    go_wp2
    go_ret
    exact ⟨rfl, HB.out⟩
  · have d1 : decide ((1300 : Int) < (n : Int)) = false := by simp; omega
    clear hn
    have c6 := (op_at A1.out.1).2.2
    go_enter Tryd.func4, Tryd.ntmps4
    go_upto_region 1 with fail
    generalize W.alloc (Obj.cells #[Value.int .i64 k, Value.int .i64 a, Value.int .i64 now, Value.int .i64 frm, Value.bool d, Value.int .u64 (m : Int), Value.slice p n c] 44) = w1 at *
    go_upto_region 4 with fail
    clear c6 d1
    have HZ : Hid (NoLk (w1.alloc (Obj.cells zeroLk.toArray 59)) (some ⟨w1.heap.size, 0, none⟩)) := nolk_zero w1
    have A2 : Hid (Arr (w1.alloc (Obj.cells zeroLk.toArray 59)) W.heap.size 44 (opL k a now frm d m p n c) ∧ Below W.heap.size W (w1.alloc (Obj.cells zeroLk.toArray 59))) := ⟨A1.out.1.alloc _, A1.out.2.alloc A1.out.2.size _⟩
    go_upto_region 5 with (refine wpList_build_of rfl 59 #[] rfl [] (by simp) zeroLk.toArray zeroLk_built ?_)
    clear A1
    generalize w1.alloc (Obj.cells zeroLk.toArray 59) = w2 at *
    generalize w1.heap.size = gz at *
    obtain ⟨c2, c3, c6⟩ := op_at A2.out.1
    have HEQ := hide (fun v : World => (run_eq_me ⟨0, 0, 0⟩ ⟨0, 0, 0⟩ v).trans (by simp : _ = Result.ok true v))
    go_wp2_with fail
    refine (send_no none p now n c w2 (Or.inl rfl)).mono ?_
    rintro r wn ⟨rfl, hw⟩
    obtain rfl : w2 = wn := hw.symm
    go_wp2_with fail
    refine (send_no (some ⟨gz, 0, none⟩) p now n c w2 HZ.out).mono ?_
    rintro r wn ⟨rfl, hw⟩
    obtain rfl : w2 = wn := hw.symm
    go_wp2_with fail
    refine (hear_no none p now frm n c w2 (Or.inl rfl)).mono ?_
    rintro r wn ⟨rfl, hw⟩
    obtain rfl : w2 = wn := hw.symm
    go_wp2_with fail
    refine (hear_no (some ⟨gz, 0, none⟩) p now frm n c w2 HZ.out).mono ?_
    rintro r wn ⟨rfl, hw⟩
    obtain rfl : w2 = wn := hw.symm
    go_wp2_with fail
    refine (newest_no none w2 (Or.inl rfl)).mono ?_
    rintro r wn ⟨rfl, hw⟩
    obtain rfl : w2 = wn := hw.symm
    go_wp2_with fail
    refine (newest_no (some ⟨gz, 0, none⟩) w2 HZ.out).mono ?_
    rintro r wn ⟨rfl, hw⟩
    obtain rfl : w2 = wn := hw.symm
    go_wp2_with fail
    refine (addr_no none w2 (Or.inl rfl)).mono ?_
    rintro r wn ⟨rfl, hw⟩
    obtain rfl : w2 = wn := hw.symm
    go_wp2_with fail
    refine (addr_no (some ⟨gz, 0, none⟩) w2 HZ.out).mono ?_
    rintro r wn ⟨rfl, hw⟩
    obtain rfl : w2 = wn := hw.symm
    go_wp2_with fail
    refine (next_no none w2 (Or.inl rfl)).mono ?_
    rintro r wn ⟨rfl, hw⟩
    obtain rfl : w2 = wn := hw.symm
    go_wp2_with fail
    refine (next_no (some ⟨gz, 0, none⟩) w2 HZ.out).mono ?_
    rintro r wn ⟨rfl, hw⟩
    obtain rfl : w2 = wn := hw.symm
    go_wp2_with fail
    refine (meter_no none w2 (Or.inl rfl)).mono ?_
    rintro r w3 ⟨rfl, hb3⟩
    have HB3 := hide hb3
    have HZ3 := hide (nolk_kept HZ.out hb3)
    clear hb3 c2 c3 c6
    go_wp2_with (first
      | (refine wpList_exec (by rfl) _ (exec_build_of 36 #[] rfl [] (by simp) (meC Me.none).toArray (by kernel_rfl)) ?_)
      | (refine wpList_exec (by rfl) _ (exec_eql_agg 36 36 (.tmp 146) (.tmp 147) rfl (meC Me.none).toArray (meC Me.none).toArray rfl rfl true (guardM _ _ _ _ _) (HEQ.out _)) ?_))
    refine (meter_no (some ⟨gz, 0, none⟩) w3 HZ3.out).mono ?_
    rintro r w4 ⟨rfl, hb4⟩
    have HB4 := hide (HB3.out.trans (hb4.mono HB3.out.size))
    clear hb4
    go_wp2_with (first
      | (refine wpList_exec (by rfl) _ (exec_build_of 36 #[] rfl [] (by simp) (meC Me.none).toArray (by kernel_rfl)) ?_)
      | (refine wpList_exec (by rfl) _ (exec_eql_agg 36 36 (.tmp 152) (.tmp 153) rfl (meC Me.none).toArray (meC Me.none).toArray rfl rfl true (guardM _ _ _ _ _) (HEQ.out _)) ?_))
    refine (copy_no none w4 (Or.inl rfl)).mono ?_
    rintro r wn ⟨rfl, hw⟩
    obtain rfl : w4 = wn := hw.symm
    go_wp2_with fail
    have HB5 := hide (A2.out.2.trans (HB4.out.mono A2.out.2.size))
    refine (HK.out w4 HB5.out).mono ?_
    rintro r w6 ⟨rfl, hb6⟩
    have HB6 := hide (HB5.out.trans (hb6.mono HB5.out.size))
    clear hb6
    go_wp2
    go_ret
    exact ⟨rfl, HB6.out⟩

theorem walk (o : Ob) (W : World) (_ho : ObIn W o) (hL : Laid W) :
    Calls Tryd.prog 4 #[.agg o.C.toArray] W fun r w' => r = .returned (.bool true) ∧ Below W.heap.size W w' := by
  have hL2 := hL.size
  exact walk_in o.k o.a o.now o.frm o.d o.n o.p o.b.length o.c W (fun v hb => lknown_any v (hL.keptB (B := W.heap.size) hL2 hb))

set_option maxRecDepth 100000 in
theorem lifted (os : Os) (started : os.Started) (H : Type) (enc : TypeId × Value → H) :
    ReturnsInHanded {} Tryd.checked os 4 .any (fun w args => (Rows.linkNoneSpec.pre enc Tryd.prog Tryd.f4 [] false w args ∧ laidMetH Tryd.prog laid2 w) ∧ sizedMet enc Tryd.prog Tryd.f4 (OpenSpec.ofChange Rows.linkNoneSpec) false w args)
      (Rows.linkNoneSpec.post enc Tryd.prog Tryd.f4 false true false false) := by
  refine returnsInHanded_of_change_and (C := Tryd.checked) (X := fun w _ => laidMetH Tryd.prog laid2 w) (fun _ _ _ hh h => h.of_heap hh) own started (by kernel_rfl) Tryd.func4
    (ChangeSpec.witness_shaped (enc := enc) (C := Tryd.checked) (os := os) (X := fun w _ => laidMetH Tryd.prog laid2 w) false (World.doorLaid Tryd.prog 400 os) #[.agg #[.int .i64 0, .int .i64 0, .int .i64 0, .int .i64 0, .bool false, .int .u64 0, .slice none 0 0]] 8 rfl (World.shaped_of_RefB (by kernel_rfl) (by kernel_rfl)) (by kernel_rfl) (by kernel_rfl) (by kernel_rfl) (door_met os _)) ?_
  intro W base args ds gs before hval0 hW _ hsz hL _
  have hval : ∀ (j : Nat) t v, Tryd.f4.params[j]? = some t → args[j]? = some v → Value.okWide Tryd.prog W .any base t v := hval0
  have hW' := hW
  obtain ⟨p, q, hA0, hV, rfl, hfz, hnd⟩ := hW
  have hA : DataW.TrodAll enc Tryd.prog W 0 (fun _ => true) true Tryd.f4.params.toList args.toList ds p := hA0
  rw [Tryd.params4] at hA hval
  obtain ⟨v0, vs0, d0, ds0, p0, q0, hargs, rfl, rfl, h0, r0⟩ := trodAll_cons hA
  obtain ⟨rfl, rfl, rfl⟩ := trodAll_nil r0
  obtain rfl : args = #[v0] := by cases args; simp_all
  obtain ⟨rfl, rfl⟩ := trodVars_none hV
  have k0 := h0
  have lt0 : ∀ x ∈ p0, x.block < W.heap.size := by obtain ⟨m, hm⟩ := k0; exact DataW.trod_lt m _ _ _ hm
  obtain ⟨x0, rfl, w0⟩ := open_op (hval 0 44 v0 rfl rfl) h0
  clear hA0 hval0
  refine (walk x0 W w0 (of_laid hL)).mono fun e W' ⟨he, bel⟩ => ?_
  subst he
  exact ⟨_, rfl, _, _, _, [], _, [], hW', trodAll_mk1 (shut_bool Tryd.underlying4 _), (trodAll_cons_mk (Below.trod laidOut (by kernel_rfl) (of_decide_eq_true (by kernel_rfl)) k0 bel lt0) trodAll_mk0), rfl, bel.frame _, fun h => by cases h⟩

theorem row : Rows.LinkNoneSaid :=
  OpenClaim.holds_of_wide 4 Tryd.f4 rfl rfl rfl rfl rfl rfl rfl ⟨rfl, rfl, rfl, rfl, rfl⟩ rfl rfl rfl rfl rfl (by kernel_rfl) Tryd.func4 (by kernel_rfl)
    (of_decide_eq_true (by kernel_rfl)) (by unfold Func.isWrapper; first | (rw [if_pos (by decide +kernel)]; kernel_rfl) | (rw [if_neg (by decide +kernel)]; exact ⟨rfl, rfl⟩))
    (fun os started H enc _ => lifted os started H enc)

theorem card : Rows.LinkNoneCardSaid :=
  Claim7.holds_tied_plain_at .later [] [.data, .data] true (true, Rows.linkNoneCard.stood.harness.2) false
    row (fun _ h => by cases h) (by kernel_rfl) (fun _ h => by cases h) linkNone_row_tie rfl ⟨rfl, rfl⟩ (by kernel_rfl) rfl
    (fun f fn hf hfn => by
      obtain rfl : f = 4 := Option.some.inj ((show Tryd.prog.funcNamed "oriel/oriellaw09.LinkNone" = some 4 by kernel_rfl).symm.trans hf) |>.symm
      obtain rfl : fn = Tryd.f4 := (Option.some.inj (Tryd.func4.symm.trans hfn)).symm
      exact ⟨by kernel_rfl, fun j t ht => by
        rw [Tryd.params4] at ht
        have hm : t ∈ [44] := by simpa using Array.mem_of_getElem? ht
        have hall : ([44].all fun u => !Tryd.prog.wantsStandIn u) = true := by kernel_rfl
        exact (show Tryd.prog.wantsStandIn t = false by simpa using List.all_eq_true.1 hall t hm)⟩)
    (by kernel_rfl)

end LinkNoneProof

/-- A link that is not there, or that New did not make, sends and hears nothing. -/
theorem linkNone_holds : Rows.LinkNoneCardSaid := LinkNoneProof.card

#print axioms linkNone_holds
end Go.Proofs.YtanjbblkijhibaaDoor
