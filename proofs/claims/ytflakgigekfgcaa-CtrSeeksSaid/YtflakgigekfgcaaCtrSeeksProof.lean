/-
  CtrSeeks: whatever the key, the nonce and the numbers, the bytes of a stream from a place on are those that stand there in a longer piece of it, and the known rows come out: the law returns true. No condition.
-/
import Derived.Test.YtflakgigekfgcaaEO
import Derived.Test.YtflakgigekfgcaaCI
namespace Go.Proofs.Ytflakgigekfgcaa
namespace CtrSeeksProof
open Go.ChangeShapes Go.WideShapes Go.ChangeAt Go.WideMaps Go.WideElems Go.RowKit
set_option linter.unusedVariables false
set_option linter.unusedSimpArgs false

def Out (f a n : Int) : Bool := decide (f < 0 ∨ 524288 < f ∨ a < 0 ∨ 300 < a ∨ n < 0 ∨ 300 < n)

theorem exec_slice_l {o : Oper} {a : Act} {w : World} (x y : Operand) (ho : o.op = .slice 25 x (some y) none none) (p : Option Addr) (n cap l k d : Nat) (hx : a.eval x = .slice p n cap) (hy : a.eval y = .int .i64 (l : Int)) (hn : n = l + k) (hd : d = cap - l) :
    (execOp a.eval o).run Try.prog w = .ok (.value (.slice (cutP p l cap) k d)) w := by
  have ht' : Try.prog.underlying 25 = some (.slice (Try.prog.elem 25)) := by simp [Program.elem, Try.underlying25]
  have he : Try.prog.elem 25 = 5 := by simp [Program.elem, Try.underlying25]
  have hr := run_slice_l (P := Try.prog) w 25 p n cap ht' .i64 (l : Int) (by omega) (by omega)
  rw [he, size5] at hr
  subst hd
  have e1 : n - l = k := by omega
  simp only [Result.andThen, sliced, Int.toNat_natCast, e1, Nat.mul_one] at hr
  have hr2 := (run_sliceAt_slice (P := Try.prog) w 25 (.slice p n cap) (some (.int .i64 (l : Int))) none none ht').trans hr
  simp [execOp, ho, hx, hy, hr2, Result.andThen, cutP]

set_option maxHeartbeats 8000000 in
set_option maxRecDepth 100000 in
theorem walk_in (key T S : List Nat) (nn fm am nm : Nat) (f a n : Int) (w : World) (hk : Blk key) (hf1 : -9223372036854775808 ≤ f) (hf2 : f ≤ 9223372036854775807) (ha1 : -9223372036854775808 ≤ a) (ha2 : a ≤ 9223372036854775807) (hn1 : -9223372036854775808 ≤ n) (hn2 : n ≤ 9223372036854775807)
    (hm : Out f a n = false → f = (fm : Int) ∧ a = (am : Int) ∧ n = (nm : Int) ∧ fm ≤ 524288 ∧ am ≤ 300 ∧ nm ≤ 300) (hTl : T.length = am + nm) (hTb : BytesN T) (hSl : S.length = nm) (hSb : BytesN S) (hTS : T.drop am = S)
    (h1 : ∀ v, Out f a n = false → Calls Try.prog 10 #[.agg (u8s key).toArray, .int .u64 (nn : Int), .int .i64 (fm : Int), .int .i64 ((am : Int) + (nm : Int))] v fun r w' => ∃ u, r = .returned u ∧ w'.ownsRow v.heap.size 5 1 u (am + nm) (u8s T) ∧ Below v.heap.size v w')
    (h2 : ∀ v, Out f a n = false → Calls Try.prog 10 #[.agg (u8s key).toArray, .int .u64 (nn : Int), .int .i64 ((fm : Int) + (am : Int)), .int .i64 (nm : Int)] v fun r w' => ∃ u, r = .returned u ∧ w'.ownsRow v.heap.size 5 1 u nm (u8s S) ∧ Below v.heap.size v w') :
    Calls Try.prog 8 #[.agg (u8s key).toArray, .int .u64 (nn : Int), .int .i64 f, .int .i64 a, .int .i64 n] w fun e w' => e = .returned (.bool true) ∧ Below w.heap.size w w' := by
  have H1 := hide h1
  have H2 := hide h2
  have HM := hide hm
  have HTL := hide hTl
  have HTB := hide hTb
  have HSL := hide hSl
  have HSB := hide hSb
  have HTS := hide hTS
  have IK := hide (szb hk)
  have A0 : Hid (Arr (w.alloc (Obj.cells (u8s key).toArray 22)) w.heap.size 22 (u8s key) ∧ Below w.heap.size w (w.alloc (Obj.cells (u8s key).toArray 22))) := ⟨Arr.new w _ _, (Below.refl _ _).alloc (Nat.le_refl _) _⟩
  clear hk hm hTl hTb hSl hSb hTS h1 h2
  go_enter Try.func8, Try.ntmps8
  go_wp2_with fail
  generalize w.alloc (Obj.cells (u8s key).toArray 22) = w1 at *
  refine (known_any w1).mono ?_
  rintro e w2 ⟨rfl, hb⟩
  have A2 : Hid (Arr w2 w.heap.size 22 (u8s key) ∧ Below w.heap.size w w2) := ⟨A0.out.1.kept hb, A0.out.2.trans (hb.mono A0.out.2.size)⟩
  clear hb A0
  go_upto_region 3 with fail
  go_cut [36] (fun s36 wc => s36 = .bool (Out f a n) ∧ wc = w2)
  case first =>
    clear H1 H2 HM A2
    by_cases g1 : f < 0
    · have d1 : decide (f < 0) = true := decide_eq_true g1
      have e : Out f a n = true := by simp [Out, g1]
      go_wp2
      go_meet
      case rel => exact ⟨by rw [e], rfl⟩
    have d1 : decide (f < 0) = false := decide_eq_false g1
    by_cases g2 : 524288 < f
    · have d2 : decide (524288 < f) = true := decide_eq_true g2
      have e : Out f a n = true := by simp [Out, g2]
      go_wp2
      go_meet
      case rel => exact ⟨by rw [e], rfl⟩
    have d2 : decide (524288 < f) = false := decide_eq_false g2
    by_cases g3 : a < 0
    · have d3 : decide (a < 0) = true := decide_eq_true g3
      have e : Out f a n = true := by simp [Out, g3]
      go_wp2
      go_meet
      case rel => exact ⟨by rw [e], rfl⟩
    have d3 : decide (a < 0) = false := decide_eq_false g3
    by_cases g4 : 300 < a
    · have d4 : decide (300 < a) = true := decide_eq_true g4
      have e : Out f a n = true := by simp [Out, g4]
      go_wp2
      go_meet
      case rel => exact ⟨by rw [e], rfl⟩
    have d4 : decide (300 < a) = false := decide_eq_false g4
    by_cases g5 : n < 0
    · have d5 : decide (n < 0) = true := decide_eq_true g5
      have e : Out f a n = true := by simp [Out, g5]
      go_wp2
      go_meet
      case rel => exact ⟨by rw [e], rfl⟩
    have d5 : decide (n < 0) = false := decide_eq_false g5
    have e : Out f a n = decide (300 < n) := by unfold Out; exact decide_eq_decide.2 ⟨fun h => by omega, fun h => by omega⟩
    go_wp2
    go_meet
    case rel => exact ⟨by rw [e], rfl⟩
  case rest =>
    obtain ⟨rfl, rfl⟩ := hcut
    cases hF : Out f a n
    · obtain ⟨e1, e2, e3, b1, b2, b3⟩ := HM.out hF
      subst e1
      subst e2
      subst e3
      clear hf1 hf2 ha1 ha2 hn1 hn2 HM
      go_wp2_with (refine wpList_load_row rfl 22 _ rfl w.heap.size rfl 22 _ (0, 0) _ A2.out.1 Try.underlying22 rfl IK.out ?_)
      refine (H1.out wc hF).mono ?_
      rintro r w3 ⟨u, rfl, ho, hb⟩
      obtain ⟨p3, c3, rfl, hP3, _⟩ := own_piece_n ho HTL.out HTB.out
      have A3 : Hid (Arr w3 w.heap.size 22 (u8s key) ∧ Below w.heap.size w w3 ∧ Piece w3 p3 c3 T) := ⟨A2.out.1.kept hb, A2.out.2.trans (hb.mono A2.out.2.size), hP3⟩
      clear ho hb hP3 A2
      go_wp2_with (refine wpList_load_row rfl 22 _ rfl w.heap.size rfl 22 _ (0, 0) _ A3.out.1 Try.underlying22 rfl IK.out ?_)
      refine (H2.out w3 hF).mono ?_
      rintro r w4 ⟨u, rfl, ho, hb⟩
      obtain ⟨p4, c4, rfl, hP4, _⟩ := own_piece_n ho HSL.out HSB.out
      have A4 : Hid (Below w.heap.size w w4 ∧ Piece w4 p3 c3 T ∧ Piece w4 p4 c4 S) := ⟨A3.out.2.1.trans (hb.mono A3.out.2.1.size), A3.out.2.2.kept hb, hP4⟩
      clear ho hb hP4 A3 H1 H2
      have hPd := A4.out.2.1.from am (by rw [HTL.out]; omega)
      rw [HTS.out] at hPd
      have HPD := hide hPd
      have C3 : Hid (∀ v : World, Hid (Below w4.heap.size w4 v) → (convert 25 9 (.slice (cutP p3 am c3) nm (c3 - am))).run Try.prog v = .ok (.string (strF S)) v) := fun v h => conv_any (HPD.out.kept h.out).1 nm HSL.out
      have C4 : Hid (∀ v : World, Hid (Below w4.heap.size w4 v) → (convert 25 9 (.slice p4 nm c4)).run Try.prog v = .ok (.string (strF S)) v) := fun v h => conv_any (A4.out.2.2.kept h.out).1 nm HSL.out
      have AB := hide A4.out.1
      have wa : IntKind.i64.wrap ((am : Int) + (nm : Int)) = (am : Int) + (nm : Int) := by rw [IntKind.wrap_i64]; omega
      clear A4 hPd hF
      go_upto_region 7 with fail
      refine wp_region_held_drew (S := fun v => Hid (Below w4.heap.size w4 v)) (by kernel_rfl) (hide (Below.refl w4.heap.size w4).drew) (fun hHeld => ?_)
      refine take_dstH (i := 0) (d := 51) (v := ?_) rfl rfl (by kernel_rfl) (by kernel_rfl) (by kernel_rfl) (fun _ _ _ h => h) (by rfl) hHeld ?_ ?_
      rotate_left
      · intro wZ hSw; clear hSw; go_simp; first | (with_reducible rfl) | (rw [if_pos (by omega)]; with_reducible rfl) | skip
      try simp only [Act.put, List.setIfInBounds_toArray, List.set_cons_zero, List.set_cons_succ]
      refine take_dstH (i := 1) (d := 52) (v := ?_) rfl rfl (by kernel_rfl) (by kernel_rfl) (by kernel_rfl) (fun _ _ _ h => h) (by rfl) hHeld ?_ ?_
      rotate_left
      · intro wZ hSw; clear hSw; go_simp; first | (with_reducible rfl) | (rw [if_pos (by omega)]; with_reducible rfl) | skip
      try simp only [Act.put, List.setIfInBounds_toArray, List.set_cons_zero, List.set_cons_succ]
      refine take_dstH (i := 2) (d := 53) (v := ?_) rfl rfl (by kernel_rfl) (by kernel_rfl) (by kernel_rfl) (fun _ _ _ h => h) (by rfl) hHeld ?_ ?_
      rotate_left
      · intro wZ hSw; clear hSw; go_simp; first | (with_reducible rfl) | (rw [if_pos (by omega)]; with_reducible rfl) | skip
      try simp only [Act.put, List.setIfInBounds_toArray, List.set_cons_zero, List.set_cons_succ]
      refine take_dstH (i := 3) (d := 54) (v := ?_) rfl rfl (by kernel_rfl) (by kernel_rfl) (by kernel_rfl) (fun _ _ _ h => h) (by rfl) hHeld ?_ ?_
      rotate_left
      · intro wZ hSw; clear hSw; go_simp; first | (with_reducible rfl) | (rw [if_pos (by omega)]; with_reducible rfl) | skip
      try simp only [Act.put, List.setIfInBounds_toArray, List.set_cons_zero, List.set_cons_succ]
      refine take_dstH (i := 4) (d := 55) (v := ?_) rfl rfl (by kernel_rfl) (by kernel_rfl) (by kernel_rfl) (fun _ _ _ h => h) (by rfl) hHeld ?_ ?_
      rotate_left
      · intro wZ hSw; clear hSw; go_simp; first | (with_reducible rfl) | (rw [if_pos (by omega)]; with_reducible rfl) | skip
      try simp only [Act.put, List.setIfInBounds_toArray, List.set_cons_zero, List.set_cons_succ]
      refine take_dstH (i := 5) (d := 56) (v := ?_) rfl rfl (by kernel_rfl) (by kernel_rfl) (by kernel_rfl) (fun _ _ _ h => h) (by rfl) hHeld ?_ ?_
      rotate_left
      · intro wZ hSw; clear hSw; go_simp; first | (with_reducible rfl) | (rw [if_pos (by omega)]; with_reducible rfl) | skip
      try simp only [Act.put, List.setIfInBounds_toArray, List.set_cons_zero, List.set_cons_succ]
      refine take_dstH (i := 6) (d := 57) (v := ?_) rfl rfl (by kernel_rfl) (by kernel_rfl) (by kernel_rfl) (fun _ _ _ h => h) (by rfl) hHeld ?_ ?_
      rotate_left
      · intro wZ hSw; clear hSw; go_simp; first | (with_reducible rfl) | (rw [if_pos (by omega)]; with_reducible rfl) | skip
      try simp only [Act.put, List.setIfInBounds_toArray, List.set_cons_zero, List.set_cons_succ]
      refine take_dstH (i := 7) (d := 58) (v := ?_) rfl rfl (by kernel_rfl) (by kernel_rfl) (by kernel_rfl) (fun _ _ _ h => h) (by rfl) hHeld ?_ ?_
      rotate_left
      · intro wZ hSw; clear hSw; go_simp; first | (with_reducible rfl) | (rw [if_pos (by omega)]; with_reducible rfl) | skip
      try simp only [Act.put, List.setIfInBounds_toArray, List.set_cons_zero, List.set_cons_succ]
      refine take_dstH (i := 8) (d := 59) (v := ?_) rfl rfl (by kernel_rfl) (by kernel_rfl) (by kernel_rfl) (fun _ _ _ h => h) (by rfl) hHeld ?_ ?_
      rotate_left
      · intro wZ hSw; clear hSw; go_simp; first | (with_reducible rfl) | (rw [if_pos (by omega)]; with_reducible rfl) | skip
      try simp only [Act.put, List.setIfInBounds_toArray, List.set_cons_zero, List.set_cons_succ]
      refine take_dstH (i := 9) (d := 60) (v := ?_) rfl rfl (by kernel_rfl) (by kernel_rfl) (by kernel_rfl) (fun _ _ _ h => h) (by rfl) hHeld ?_ ?_
      rotate_left
      · intro wZ hSw; refine exec_slice_l (.tmp 58) (.tmp 59) ?_ p3 (am + nm) c3 am nm (c3 - am) ?_ ?_ rfl rfl <;> rfl
      try simp only [Act.put, List.setIfInBounds_toArray, List.set_cons_zero, List.set_cons_succ]
      refine take_dstH (i := 10) (d := 61) (v := ?_) rfl rfl (by kernel_rfl) (by kernel_rfl) (by kernel_rfl) (fun _ _ _ h => h) (by rfl) hHeld ?_ ?_
      rotate_left
      · intro wZ hSw; have hfS := C3.out wZ hSw; clear hSw; go_simp; first | (with_reducible rfl) | (rw [if_pos (by omega)]; with_reducible rfl) | skip
      try simp only [Act.put, List.setIfInBounds_toArray, List.set_cons_zero, List.set_cons_succ]
      refine take_dstH (i := 11) (d := 62) (v := ?_) rfl rfl (by kernel_rfl) (by kernel_rfl) (by kernel_rfl) (fun _ _ _ h => h) (by rfl) hHeld ?_ ?_
      rotate_left
      · intro wZ hSw; clear hSw; go_simp; first | (with_reducible rfl) | (rw [if_pos (by omega)]; with_reducible rfl) | skip
      try simp only [Act.put, List.setIfInBounds_toArray, List.set_cons_zero, List.set_cons_succ]
      refine take_dstH (i := 12) (d := 63) (v := ?_) rfl rfl (by kernel_rfl) (by kernel_rfl) (by kernel_rfl) (fun _ _ _ h => h) (by rfl) hHeld ?_ ?_
      rotate_left
      · intro wZ hSw; have hfS := C4.out wZ hSw; clear hSw; go_simp; first | (with_reducible rfl) | (rw [if_pos (by omega)]; with_reducible rfl) | skip
      try simp only [Act.put, List.setIfInBounds_toArray, List.set_cons_zero, List.set_cons_succ]
      refine take_dstH (i := 13) (d := 64) (v := ?_) rfl rfl (by kernel_rfl) (by kernel_rfl) (by kernel_rfl) (fun _ _ _ h => h) (by rfl) hHeld ?_ ?_
      rotate_left
      · intro wZ hSw; clear hSw; go_simp; first | (with_reducible rfl) | (rw [if_pos (by omega)]; with_reducible rfl) | skip
      try simp only [Act.put, List.setIfInBounds_toArray, List.set_cons_zero, List.set_cons_succ]
      refine take_dstH (i := 14) (d := 65) (v := ?_) rfl rfl (by kernel_rfl) (by kernel_rfl) (by kernel_rfl) (fun _ _ _ h => h) (by rfl) hHeld ?_ ?_
      rotate_left
      · intro wZ hSw; clear hSw; go_simp; first | (with_reducible rfl) | (rw [if_pos (by omega)]; with_reducible rfl) | skip
      try simp only [Act.put, List.setIfInBounds_toArray, List.set_cons_zero, List.set_cons_succ]
      refine take_dstH (i := 15) (d := 10) (v := ?_) rfl rfl (by kernel_rfl) (by kernel_rfl) (by kernel_rfl) (fun _ _ _ h => h) (by rfl) hHeld ?_ ?_
      rotate_left
      · intro wZ hSw; clear hSw; go_simp; first | (with_reducible rfl) | (rw [if_pos (by omega)]; with_reducible rfl) | skip
      try simp only [Act.put, List.setIfInBounds_toArray, List.set_cons_zero, List.set_cons_succ]
      refine wpAnyH_done (by kernel_rfl) ?_ _
      all_goals
        go_wp2
        go_ret
        exact ⟨rfl, AB.out.trans ((Hid.out hHeld).mono AB.out.size)⟩
    · go_wp2
      go_ret
      exact ⟨rfl, A2.out.2⟩

theorem walk (key : List Nat) (b f a n : Int) (w : World) (hk : Blk key) (hb : (Lit.int .u64 b).wf = true) (hf : (Lit.int .i64 f).wf = true) (ha : (Lit.int .i64 a).wf = true) (hn : (Lit.int .i64 n).wf = true) :
    Calls Try.prog 8 #[.agg (u8s key).toArray, .int .u64 b, .int .i64 f, .int .i64 a, .int .i64 n] w fun e w' => e = .returned (.bool true) ∧ Below w.heap.size w w' := by
  obtain ⟨nn, rfl, hnn⟩ := wf_u64 hb
  have bf := bounds_i64 hf
  have ba := bounds_i64 ha
  have bn := bounds_i64 hn
  have hff : Out f a n = false → f = (f.toNat : Int) ∧ a = (a.toNat : Int) ∧ n = (n.toNat : Int) ∧ f.toNat ≤ 524288 ∧ a.toNat ≤ 300 ∧ n.toNat ≤ 300 := fun h1 => by
    have h1' := of_decide_eq_false h1
    omega
  refine walk_in key (stF (hbF key nn) f.toNat (a.toNat + n.toNat)) (stF (hbF key nn) (f.toNat + a.toNat) n.toNat) nn f.toNat a.toNat n.toNat f a n w hk (by omega) (by omega) (by omega) (by omega) (by omega) (by omega) hff (stF_length _ _ _) (stF_bytes (fun i => hbF_blk hk nn i) _ _) (stF_length _ _ _) (stF_bytes (fun i => hbF_blk hk nn i) _ _) ?_ ?_ ?_
  · rw [stF_add]; exact List.drop_left' (stF_length _ _ _)
  · intro v h1
    obtain ⟨e1, e2, e3, e4, e5, e6⟩ := hff h1
    have := strm_any key nn f.toNat (a.toNat + n.toNat) v hk hnn (by omega)
    rwa [Int.natCast_add] at this
  · intro v h1
    obtain ⟨e1, e2, e3, e4, e5, e6⟩ := hff h1
    have := strm_any key nn (f.toNat + a.toNat) n.toNat v hk hnn (by omega)
    rwa [Int.natCast_add] at this

theorem own : ownKnob Try.prog.godebug = none := by kernel_rfl
theorem laidOut : laidOutB Try.prog = true := by kernel_rfl
set_option maxRecDepth 100000 in
theorem lifted (os : Os) (started : os.Started) (H : Type) (enc : TypeId × Value → H) :
    ReturnsInHanded {} Try.checked os 8 .any (Rows.ctrSeeksSpec.pre6 enc Try.prog Try.f8 Rows.ctrSeeksRow.domain false) (Rows.ctrSeeksSpec.post enc Try.prog Try.f8 false true false false) := by
  refine returnsInHanded_of_change (C := Try.checked) own started (by kernel_rfl) Try.func8
    (ChangeSpec.witness6 (enc := enc) (C := Try.checked) false ⟨#[], #[.agg (u8s z16).toArray, .int .u64 0, .int .i64 0, .int .i64 0, .int .i64 0], []⟩ 8 (by kernel_rfl) (by kernel_rfl) (by kernel_rfl) (by kernel_rfl)) ?_
  intro W base args ds gs before hval0 hW hcnd _
  have hval : ∀ (j : Nat) t v, Try.f8.params[j]? = some t → args[j]? = some v → Value.okWide Try.prog W .any base t v := hval0
  have hW' := hW
  obtain ⟨p, q, hA0, hV, rfl, hfz, hnd⟩ := hW
  have hA : DataW.TrodAll enc Try.prog W 0 (fun _ => true) true Try.f8.params.toList args.toList ds p := hA0
  rw [Try.params8] at hA hval
  obtain ⟨v0, vs0, d0, ds0, p0, q0, hargs, rfl, rfl, h0, r0⟩ := trodAll_cons hA
  obtain ⟨v1, vs1, d1, ds1, p1, q1, rfl, rfl, rfl, h1, r1⟩ := trodAll_cons r0
  obtain ⟨v2, vs2, d2, ds2, p2, q2, rfl, rfl, rfl, h2, r2⟩ := trodAll_cons r1
  obtain ⟨v3, vs3, d3, ds3, p3, q3, rfl, rfl, rfl, h3, r3⟩ := trodAll_cons r2
  obtain ⟨v4, vs4, d4, ds4, p4, q4, rfl, rfl, rfl, h4, r4⟩ := trodAll_cons r3
  obtain ⟨rfl, rfl, rfl⟩ := trodAll_nil r4
  obtain rfl : args = #[v0, v1, v2, v3, v4] := by cases args; simp_all
  obtain ⟨rfl, rfl⟩ := trodVars_none hV
  have k0 := h0
  obtain ⟨x0, rfl, w0, z0⟩ := open_blk (hval 0 22 v0 rfl rfl) h0
  obtain ⟨a1, rfl, rfl, rfl, w1⟩ := open_int Try.underlying23 (hval 1 23 v1 rfl rfl) h1
  obtain ⟨a2, rfl, rfl, rfl, w2⟩ := open_int Try.underlying3 (hval 2 3 v2 rfl rfl) h2
  obtain ⟨a3, rfl, rfl, rfl, w3⟩ := open_int Try.underlying3 (hval 3 3 v3 rfl rfl) h3
  obtain ⟨a4, rfl, rfl, rfl, w4⟩ := open_int Try.underlying3 (hval 4 3 v4 rfl rfl) h4
  clear hA0 hval0
  refine (walk x0 a1 a2 a3 a4 W w0 w1 w2 w3 w4).mono fun e W' ⟨he, bel⟩ => ?_
  subst he
  exact ⟨_, rfl, _, _, _, [], _, [], hW', trodAll_mk1 (shut_bool Try.underlying4 _), (trodAll_cons_mk (Below.trod laidOut (by kernel_rfl) (of_decide_eq_true (by kernel_rfl)) k0 bel (fun x hx => (z0 x hx).elim)) (trodAll_cons_mk (shut_int Try.underlying23 w1) (trodAll_cons_mk (shut_int Try.underlying3 w2) (trodAll_cons_mk (shut_int Try.underlying3 w3) (trodAll_cons_mk (shut_int Try.underlying3 w4) trodAll_mk0))))), rfl, bel.frame _, fun h => by cases h⟩

theorem over : Rows.ctrSeeksRow.holds Try.pinned (OpenSpec.ofChange Rows.ctrSeeksSpec) :=
  OpenClaim.holds_of_wide 8 Try.f8 rfl rfl rfl rfl rfl rfl rfl ⟨rfl, rfl, rfl, rfl, rfl⟩ rfl rfl rfl rfl rfl (by kernel_rfl) Try.func8 (by kernel_rfl)
    (of_decide_eq_true (by kernel_rfl)) (by unfold Func.isWrapper; first | (rw [if_pos (by decide +kernel)]; kernel_rfl) | (rw [if_neg (by decide +kernel)]; exact ⟨rfl, rfl⟩))
    (fun os started H enc _ => lifted os started H enc)

end CtrSeeksProof

/-- Bytes of a stream from a place on are those that stand there in a longer piece of it. -/
theorem ctrSeeks_holds : Rows.CtrSeeksSaid := CtrSeeksProof.over

#print axioms ctrSeeks_holds
end Go.Proofs.Ytflakgigekfgcaa
