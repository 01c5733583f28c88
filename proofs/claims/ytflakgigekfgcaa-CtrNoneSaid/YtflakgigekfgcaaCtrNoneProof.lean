/-
  CtrNone: whatever the text, a flow that is not there, or that New did not make, turns nothing, has no place and no blocks: the law returns true. No condition.
-/
import Derived.Test.YtflakgigekfgcaaEO
import Derived.Test.YtflakgigekfgcaaCI
namespace Go.Proofs.Ytflakgigekfgcaa
namespace CtrNoneProof
open Go.ChangeShapes Go.WideShapes Go.ChangeAt Go.WideMaps Go.WideElems Go.RowKit Go.Shelf
set_option linter.unusedVariables false
set_option linter.unusedSimpArgs false

theorem zero_lit : (flC z16 0 0 false).toArray = #[Value.int .u8 0, Value.int .u8 0, Value.int .u8 0, Value.int .u8 0, Value.int .u8 0, Value.int .u8 0, Value.int .u8 0, Value.int .u8 0, Value.int .u8 0, Value.int .u8 0, Value.int .u8 0, Value.int .u8 0, Value.int .u8 0, Value.int .u8 0, Value.int .u8 0, Value.int .u8 0, Value.int .u64 0, Value.int .i64 0, Value.bool false] := by rfl

set_option maxHeartbeats 8000000 in
set_option maxRecDepth 100000 in
theorem walk (p : Option Addr) (c : Nat) (xs : List Nat) (w : World) (hx : Piece w p c xs) :
    Calls Try.prog 6 #[.slice p xs.length c] w fun e w' => e = .returned (.bool true) ∧ Below w.heap.size w w' := by
  generalize xs.length = n
  clear hx
  have en := eql_nilFunc
  refine (callsIn_wide (n := 9)).1 (callsIn_of_wp_marks Try.func6 rfl trivial ?_ rfl)
  simp only [Try.ntmps6, List.size_toArray, List.length_cons, List.length_nil, Nat.reduceAdd, Nat.reduceSub, Array.replicate_succ, Array.replicate_zero, List.push_toArray, List.append_toArray, List.nil_append, List.cons_append]
  refine wpIn_wide.2 ?_
  go_upto_region 3 with fail
  rw [← zero_lit]
  have A0 : Hid (Boxed ((w.alloc (Obj.cells #[.bool false] 4)).alloc (Obj.cells (flC z16 0 0 false).toArray 41)) w.heap.size 4 (.bool false) ∧ Arr ((w.alloc (Obj.cells #[.bool false] 4)).alloc (Obj.cells (flC z16 0 0 false).toArray 41)) (w.heap.size + 1) 41 (flC z16 0 0 false) ∧ Below w.heap.size w ((w.alloc (Obj.cells #[.bool false] 4)).alloc (Obj.cells (flC z16 0 0 false).toArray 41))) :=
    ⟨(Boxed.new w _ _).alloc _, Arr.newAt (w.alloc _) _ (flC z16 0 0 false) _ (by simp), ((Below.refl _ _).alloc (Nat.le_refl _) _).alloc (by simp) _⟩
  generalize (w.alloc (Obj.cells #[.bool false] 4)).alloc (Obj.cells (flC z16 0 0 false).toArray 41) = w1 at *
  go_wp2_with fail
  refine (fturn_none _ w1 p n c (there_nil w1)).mono ?_
  rintro r w1' ⟨rfl, rfl⟩
  go_wp2_with fail
  refine (fturn_none _ w1' p n c (there_at z16 0 0 (w.heap.size + 1) false w1' z16_length A0.out.2.1)).mono ?_
  rintro r w2 ⟨rfl, rfl⟩
  go_wp2_with fail
  refine (fblocks_none _ w2 (there_nil w2)).mono ?_
  rintro r w3 ⟨gs, ge, gb, rfl, hs, he, hb⟩
  have A3 : Hid (Boxed w3 w.heap.size 4 (.bool false) ∧ Arr w3 (w.heap.size + 1) 41 (flC z16 0 0 false) ∧ Below w.heap.size w w3 ∧ Arr w3 gs 3 [.int .i64 0] ∧ Arr w3 ge 3 [.int .i64 0]) :=
    ⟨Arr.kept (vs := [.bool false]) A0.out.1 hb, A0.out.2.1.kept hb, A0.out.2.2.trans (hb.mono A0.out.2.2.size), hs, he⟩
  clear hs he hb A0
  go_wp2_with fail
  refine (fblocks_none _ w3 (there_at z16 0 0 (w.heap.size + 1) false w3 z16_length A3.out.2.1)).mono ?_
  rintro r w4 ⟨gs2, ge2, gb2, rfl, hs, he, hb⟩
  have A4 : Hid (Boxed w4 w.heap.size 4 (.bool false) ∧ Arr w4 (w.heap.size + 1) 41 (flC z16 0 0 false) ∧ Below w.heap.size w w4 ∧ (Arr w4 gs 3 [.int .i64 0] ∧ Arr w4 ge 3 [.int .i64 0]) ∧ Arr w4 gs2 3 [.int .i64 0] ∧ Arr w4 ge2 3 [.int .i64 0]) :=
    ⟨Arr.kept (vs := [.bool false]) A3.out.1 hb, A3.out.2.1.kept hb, A3.out.2.2.1.trans (hb.mono A3.out.2.2.1.size), ⟨A3.out.2.2.2.1.kept hb, A3.out.2.2.2.2.kept hb⟩, hs, he⟩
  clear hs he hb A3
  go_wp2_with fail
  refine wpIn_wide.1 (wpIn_rangeFunc_ownH (α := Empty) (n := 9) rfl (by omega) (gf := 33) (lb := #[.pointer (some ⟨gs, 0, none⟩), .pointer (some ⟨ge, 0, none⟩), .pointer (some ⟨gb, 0, none⟩)]) rfl trivial (enters_of Try.func33 (by kernel_rfl) rfl)
    (iter_none 8 gs ge gb (fun x => nomatch x) (fun _ _ => True) w4 A4.out.2.2.2.1.1 A4.out.2.2.2.1.2) (fun _ _ => trivial) (fun _ _ _ _ _ _ _ _ => trivial) (Below.refl _ _) (fun x => nomatch x)
    (fun _ W => Below w4.heap.size w4 W) (fun _ _ _ => False) (ownFrom_below (Nat.le_refl _) (Nat.le_refl _)) (fun _ _ _ _ _ hs _ _ => hs) (Below.refl _ _) (fun _ _ _ => True) (fun _ _ _ _ _ _ _ _ _ => trivial) ?assign ?body ?done ?stop)
  case assign => intro l pre x; exact x.elim
  case body => intro l pre x; exact x.elim
  case stop =>
    rintro D cc pre W _ h _ _
    exact h.elim
  case done =>
    rintro D ys W hD rfl hB hKD
    have A5 : Hid (Boxed W w.heap.size 4 (.bool false) ∧ Arr W (w.heap.size + 1) 41 (flC z16 0 0 false) ∧ Below w.heap.size w W ∧ Arr W gs2 3 [.int .i64 0] ∧ Arr W ge2 3 [.int .i64 0]) :=
      ⟨Arr.kept (vs := [.bool false]) A4.out.1 hB, A4.out.2.1.kept hB, A4.out.2.2.1.trans (hB.mono A4.out.2.2.1.size), A4.out.2.2.2.2.1.kept hB, A4.out.2.2.2.2.2.kept hB⟩
    have hs4 := A4.out.2.2.1.size
    have HD1 := hide hKD
    have hDl : D < W.heap.size := (Array.getElem?_eq_some_iff.1 hKD).1
    clear hB A4 hKD
    go_wp2_with fail
    refine wpIn_wide.1 (wpIn_rangeFunc_ownH (α := Empty) (n := 9) rfl (by omega) (gf := 33) (lb := #[.pointer (some ⟨gs2, 0, none⟩), .pointer (some ⟨ge2, 0, none⟩), .pointer (some ⟨gb2, 0, none⟩)]) rfl trivial (enters_of Try.func33 (by kernel_rfl) rfl)
      (iter_none 8 gs2 ge2 gb2 (fun x => nomatch x) (fun _ _ => True) W A5.out.2.2.2.1 A5.out.2.2.2.2) (fun _ _ => trivial) (fun _ _ _ _ _ _ _ _ => trivial) (Below.refl _ _) (fun x => nomatch x)
      (fun _ W' => Below W.heap.size W W') (fun _ _ _ => False) (ownFrom_below (Nat.le_refl _) (Nat.le_refl _)) (fun _ _ _ _ _ hs _ _ => hs) (Below.refl _ _) (fun _ _ _ => True) (fun _ _ _ _ _ _ _ _ _ => trivial) ?assign2 ?body2 ?done2 ?stop2)
    case assign2 => intro l pre x; exact x.elim
    case body2 => intro l pre x; exact x.elim
    case stop2 =>
      rintro D cc pre W _ h _ _
      exact h.elim
    case done2 =>
      rintro D2 ys W2 hD2 rfl hB hKD2
      have A6 : Hid (Boxed W2 w.heap.size 4 (.bool false) ∧ Arr W2 (w.heap.size + 1) 41 (flC z16 0 0 false) ∧ Below w.heap.size w W2) :=
        ⟨Arr.kept (vs := [.bool false]) A5.out.1 hB, A5.out.2.1.kept hB, A5.out.2.2.1.trans (hB.mono A5.out.2.2.1.size)⟩
      have HD1' : Hid (W2.heap[D]? = some (.deferred (some []))) := (hB.block D (Array.getElem?_eq_some_iff.1 HD1.out).1).trans HD1.out
      have HD2 := hide hKD2
      have hs5 := A5.out.2.2.1.size
      clear hB A5 hKD2 HD1
      go_wp2_with fail
      refine (at_nil W2).mono ?_
      rintro r w5 ⟨rfl, rfl⟩
      go_wp2_with fail
      refine (at_at z16 0 0 (w.heap.size + 1) false w5 z16_length A6.out.2.1).mono ?_
      rintro r w6 ⟨rfl, rfl⟩
      go_wp2_with fail
      refine (known_any w6).mono ?_
      rintro r w7 ⟨rfl, hb⟩
      have b7 : Boxed w7 w.heap.size 4 (.bool false) := Arr.kept (vs := [.bool false]) A6.out.1 hb
      have c7 := b7.cell
      have f7 := b7.frozen
      have HB7 := hide (A6.out.2.2.trans (hb.mono A6.out.2.2.size))
      have HE1 : Hid (w7.heap[D]? = some (.deferred (some []))) := (hb.block D (Array.getElem?_eq_some_iff.1 HD1'.out).1).trans HD1'.out
      have HE2 : Hid (w7.heap[D2]? = some (.deferred (some []))) := (hb.block D2 (Array.getElem?_eq_some_iff.1 HD2.out).1).trans HD2.out
      clear hb A6 HD1' HD2 en
      go_wp2
      have k2 := (KeepsOthers.setCell w7 ⟨w.heap.size, 0, none⟩ (.bool true)).same D2 _ HE2.out rfl
      have k1 := (KeepsOthers.setCell w7 ⟨w.heap.size, 0, none⟩ (.bool true)).same D _ HE1.out rfl
      have k1' : ((w7.setCell ⟨w.heap.size, 0, none⟩ (.bool true)).putObj D2 (.deferred none)).heap[D]? = some (.deferred (some [])) := (World.putObj_heap_other (by omega)).trans k1
      have c8 := (b7.set (.bool true)).cell
      have c9 := cell_kept c8 (grownBy_putObj' _ D2 (.deferred none)) (fun r e => by cases e; exact ⟨_, k2, rfl⟩)
      have c10 := cell_kept c9 (grownBy_putObj' _ D (.deferred none)) (fun r e => by cases e; exact ⟨_, k1', rfl⟩)
      have bA := HB7.out.setCell (p := ⟨w.heap.size, 0, none⟩) (Nat.le_refl _) (.bool true)
      have bB := bA.trans (belowK_b (w := w) (Nat.le_refl _) _ D2 _ (.deferred none) (by omega) k2 rfl rfl)
      have bC := bB.trans (belowK_b (w := w) (Nat.le_refl _) _ D _ (.deferred none) (by omega) k1' rfl rfl)
      refine ⟨by simp, .inl ⟨_, _, rfl, run_takeDeferred k2, ?_⟩⟩
      refine ⟨by simp, .inl ⟨_, _, rfl, run_takeDeferred k1', ?_⟩⟩
      refine ⟨.bool true, ?_, rfl, bC⟩
      simp [results, Try.f6, go_sem, c10]

theorem own : ownKnob Try.prog.godebug = none := by kernel_rfl
theorem laidOut : laidOutB Try.prog = true := by kernel_rfl
set_option maxRecDepth 100000 in
theorem lifted (os : Os) (started : os.Started) (H : Type) (enc : TypeId × Value → H) :
    ReturnsInHanded {} Try.checked os 6 .any (Rows.ctrNoneSpec.pre6 enc Try.prog Try.f6 Rows.ctrNoneRow.domain false) (Rows.ctrNoneSpec.post enc Try.prog Try.f6 false true false false) := by
  refine returnsInHanded_of_change (C := Try.checked) own started (by kernel_rfl) Try.func6
    (ChangeSpec.witness6 (enc := enc) (C := Try.checked) false ⟨#[], #[.slice none 0 0], []⟩ 8 (by kernel_rfl) (by kernel_rfl) (by kernel_rfl) (by kernel_rfl)) ?_
  intro W base args ds gs before hval0 hW hcnd _
  have hval : ∀ (j : Nat) t v, Try.f6.params[j]? = some t → args[j]? = some v → Value.okWide Try.prog W .any base t v := hval0
  have hW' := hW
  obtain ⟨p, q, hA0, hV, rfl, hfz, hnd⟩ := hW
  have hA : DataW.TrodAll enc Try.prog W 0 (fun _ => true) true Try.f6.params.toList args.toList ds p := hA0
  rw [Try.params6] at hA hval
  obtain ⟨v0, vs0, d0, ds0, p0, q0, hargs, rfl, rfl, h0, r0⟩ := trodAll_cons hA
  obtain ⟨rfl, rfl, rfl⟩ := trodAll_nil r0
  obtain rfl : args = #[v0] := by cases args; simp_all
  obtain ⟨rfl, rfl⟩ := trodVars_none hV
  obtain ⟨a0, len0, cap0, rfl⟩ := okWide_slice Try.underlying25 (hval 0 25 v0 rfl rfl)
  have k0 := h0
  have lt0 : ∀ x ∈ p0, x.block < W.heap.size := by obtain ⟨m, hm⟩ := k0; exact DataW.trod_lt m _ _ _ hm
  obtain ⟨fuel0, hf0⟩ := h0
  obtain ⟨a0', cap0', x0, hcs0, w0⟩ := piece_of hf0
  simp [Value.cells] at hcs0
  obtain ⟨rfl, rfl, rfl⟩ := hcs0
  clear hf0
  clear hA0 hval0
  refine (walk a0 cap0 x0 W w0).mono fun e W' ⟨he, bel⟩ => ?_
  subst he
  exact ⟨_, rfl, _, _, _, [], _, [], hW', trodAll_mk1 (shut_bool Try.underlying4 _), (trodAll_cons_mk (Below.trod laidOut (by kernel_rfl) (of_decide_eq_true (by kernel_rfl)) k0 bel lt0) trodAll_mk0), rfl, bel.frame _, fun h => by cases h⟩

theorem over : Rows.ctrNoneRow.holds Try.pinned (OpenSpec.ofChange Rows.ctrNoneSpec) :=
  OpenClaim.holds_of_wide 6 Try.f6 rfl rfl rfl rfl rfl rfl rfl ⟨rfl, rfl, rfl, rfl, rfl⟩ rfl rfl rfl rfl rfl (by kernel_rfl) Try.func6 (by kernel_rfl)
    (of_decide_eq_true (by kernel_rfl)) (by unfold Func.isWrapper; first | (rw [if_pos (by decide +kernel)]; kernel_rfl) | (rw [if_neg (by decide +kernel)]; exact ⟨rfl, rfl⟩))
    (fun os started H enc _ => lifted os started H enc)

end CtrNoneProof

/-- A flow that is not there, or that New did not make, turns nothing. -/
theorem ctrNone_holds : Rows.CtrNoneSaid := CtrNoneProof.over

#print axioms ctrNone_holds
end Go.Proofs.Ytflakgigekfgcaa
