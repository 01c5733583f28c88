/-
  MacKeys, the tied card: a member's key is the document's, and numbers that may not be are refused (of masters of more than 100 bytes nothing is asked but the known rows): the law returns true, and what is handed in stays. No condition but the two tables, which the card ties to the program's text.
-/
import Derived.Test.YtfopjobcjafgaabDoorNI
import Derived.Test.YtfopjobcjafgaabDoorFA
namespace Go.Proofs.YtfopjobcjafgaabDoor
namespace MacKeysProof
open Go.ChangeShapes Go.WideShapes Go.ChangeAt Go.WideMaps Go.WideElems Go.RowKit

/-- both sides tell the same key and the same error, in whatever world -/
theorem both (p : Option Addr) (c : Nat) (ms : List Nat) (m e : Int) (W : World) (hP : Piece W p c ms) (hl : ms.length ≤ 100) (hL : Laid W) :
    ∃ (a b : List Nat) (en : Int), a.length = 16 ∧ b.length = 32 ∧ BytesN a ∧ BytesN b ∧
      (∀ v, Below W.heap.size W v → Calls Tryd.prog 11 #[.slice p ms.length c, .int .i64 m, .int .i64 e] v fun r w' => r = .returned (.tuple #[.agg (kCells a b).toArray, .int .i64 en]) ∧ Below v.heap.size v w') ∧
      (∀ v, Below W.heap.size W v → Calls Tryd.prog 12 #[.slice p ms.length c, .int .i64 m, .int .i64 e] v fun r w' => r = .returned (.tuple #[.agg (kCells a b).toArray, .int .i64 en]) ∧ Below v.heap.size v w') := by
  by_cases h : 1 ≤ m ∧ m ≤ 8 ∧ 1 ≤ e ∧ e ≤ 1048576
  · obtain ⟨m', rfl⟩ := Int.eq_ofNat_of_zero_le (show 0 ≤ m by omega)
    obtain ⟨e', rfl⟩ := Int.eq_ofNat_of_zero_le (show 0 ≤ e by omega)
    have hc : (codeF ms m' e').length = 32 := macF_length _ _
    refine ⟨(codeF ms m' e').take 16, markF ms m' e', 0, by simp [hc], macF_length _ _, fun x hx => macF_bytes _ _ x (List.mem_of_mem_take hx), macF_bytes _ _, fun v hb => ?_, fun v hb => ?_⟩
    · exact derive_in p c ms m' e' v (hP.kept hb) (by omega) (by omega) (by omega) (by omega) (by omega) (hL.keptB (B := W.heap.size) hL.size hb)
    · exact refderive_in p c ms m' e' v (hP.kept hb) (by omega) (by omega) (by omega) (by omega) (by omega)
  · exact ⟨List.replicate 16 0, List.replicate 32 0, 2, by simp, by simp, zeros_bytes _, zeros_bytes _, fun v _ => derive_out _ m e v h, fun v _ => refderive_out _ m e v h⟩

set_option maxHeartbeats 4000000 in
set_option maxRecDepth 100000 in
theorem walk (p : Option Addr) (c : Nat) (ms : List Nat) (m e : Int) (W : World) (hP : Piece W p c ms) (_hm : (Lit.int .i64 m).wf = true) (_he : (Lit.int .i64 e).wf = true) (hL : Laid W) :
    Calls Tryd.prog 5 #[.slice p ms.length c, .int .i64 m, .int .i64 e] W fun r W' => r = .returned (.bool true) ∧ Below W.heap.size W W' := by
  have HL := hide hL
  by_cases hbig : 100 < ms.length
  · have hb' : (100 : Int) < (ms.length : Int) := by omega
    clear hL hP
    go_enter Tryd.func5, Tryd.ntmps5
    go_wp2_with fail
    refine (known_any _ HL.out).mono ?_
    rintro r w1 ⟨rfl, hb1⟩
    go_wp2
    go_ret
    exact ⟨rfl, hb1⟩
  have hb' : ¬ (100 : Int) < (ms.length : Int) := by omega
  obtain ⟨a, b, en, ha, hb, ba, bb, h1, h2⟩ := both p c ms m e W hP (by omega) hL
  have HD1 := hide h1
  have HD2 := hide h2
  have HE := hide (eq_key a b ha hb ba bb)
  have LK := hide (kCells_length ha hb)
  have LZ : Hid (zeroK.toArray.size = 48) := rfl
  have HC := hide (one_kCells a b)
  clear h1 h2 hP hL ha hb ba bb
  generalize kCells a b = KC at *
  have IK : Hid ((Tryd.prog.info? 32).map (·.size) = some KC.toArray.size) := by show _ = _; rw [infoK, LK.out]
  have OK : Hid (zeroK.toArray.size = KC.toArray.size) := by show _ = _; rw [LK.out, LZ.out]
  generalize ms.length = n at *
  go_enter Tryd.func5, Tryd.ntmps5
  go_wp2_with fail
  refine (known_any _ HL.out).mono ?_
  rintro r w1 ⟨rfl, hb1⟩
  have B1 := hide hb1
  clear hb1
  go_upto_region 5 with fail
  go_cut [7, 8] (fun s7 s8 wx => ∃ g, s7 = .pointer (some ⟨g, 0, none⟩) ∧ s8 = .int .i64 en ∧ Arr wx g 32 KC ∧ Below W.heap.size W wx)
  case first =>
    go_wp2_with fail
    refine (HD1.out w1 B1.out).mono ?_
    rintro r w2 ⟨rfl, hb2⟩
    have B2 : Hid (Below W.heap.size W w2) := B1.out.trans (hb2.mono B1.out.size)
    clear hb2 B1
    go_wp2_with (refine wpList_store_row rfl 32 _ _ rfl w2.heap.size KC.toArray rfl rfl 32 zeroK.toArray (heap_at w2 _ _ rfl) IK.out OK.out HC.out ?_)
    go_meet
    case rel => exact ⟨w2.heap.size, rfl, rfl, (Arr.new w2 32 zeroK).row _, below_setRow (B2.out.alloc B2.out.size _) B2.out.size (by simp) _⟩
  case rest =>
    clear B1 HD1
    obtain ⟨g, rfl, rfl, hG, hB⟩ := hcut
    have HG := hide hG
    have HB := hide hB
    clear hG hB
    go_upto_region 6 with fail
    go_cut [9, 10] (fun s9 s10 wx => ∃ g2, s9 = .pointer (some ⟨g2, 0, none⟩) ∧ s10 = .int .i64 en ∧ Arr wx g2 32 KC ∧ Arr wx g 32 KC ∧ Below W.heap.size W wx)
    case first =>
      go_wp2_with fail
      refine (HD2.out wc HB.out).mono ?_
      rintro r w2 ⟨rfl, hb2⟩
      have G2 := hide (HG.out.kept hb2)
      have B2 : Hid (Below W.heap.size W w2) := HB.out.trans (hb2.mono HB.out.size)
      clear hb2 HB HG
      go_wp2_with (refine wpList_store_row rfl 32 _ _ rfl w2.heap.size KC.toArray rfl rfl 32 zeroK.toArray (heap_at w2 _ _ rfl) IK.out OK.out HC.out ?_)
      go_meet
      case rel => exact ⟨w2.heap.size, rfl, rfl, (Arr.new w2 32 zeroK).row _, (G2.out.alloc _).rowOther _ _ (Nat.ne_of_lt G2.out.lt), below_setRow (B2.out.alloc B2.out.size _) B2.out.size (by simp) _⟩
    case rest =>
      clear HB HG HD2
      obtain ⟨g2, rfl, rfl, hG2, hG, hB⟩ := hcut
      have HG := hide hG
      have HG2 := hide hG2
      have HB := hide hB
      clear hG hG2 hB
      go_wp2_with (first
        | (refine wpList_load_row rfl 32 (.tmp 7) rfl g rfl 32 _ (0, 0) _ HG.out Tryd.underlying32 rfl IK.out ?_)
        | (refine wpList_load_row rfl 32 (.tmp 9) rfl g2 rfl 32 _ (0, 0) _ HG2.out Tryd.underlying32 rfl IK.out ?_)
        | (refine wpList_eql_agg rfl 32 32 (.tmp 30) (.tmp 31) rfl KC.toArray KC.toArray rfl rfl true (guardK _ _ _ _ _) (HE.out _) ?_))
      go_ret
      exact ⟨rfl, HB.out⟩

set_option maxRecDepth 100000 in
theorem lifted (os : Os) (started : os.Started) (H : Type) (enc : TypeId × Value → H) :
    ReturnsInHanded {} Tryd.checked os 5 .any (fun w args => (Rows.macKeysSpec.pre enc Tryd.prog Tryd.f5 [] false w args ∧ laidMetH Tryd.prog laid2 w) ∧ sizedMet enc Tryd.prog Tryd.f5 (OpenSpec.ofChange Rows.macKeysSpec) false w args)
      (Rows.macKeysSpec.post enc Tryd.prog Tryd.f5 false true false false) := by
  refine returnsInHanded_of_change_and (C := Tryd.checked) (X := fun w _ => laidMetH Tryd.prog laid2 w) (fun _ _ _ hh h => h.of_heap hh) own started (by kernel_rfl) Tryd.func5
    (ChangeSpec.witness_shaped (enc := enc) (C := Tryd.checked) (os := os) (X := fun w _ => laidMetH Tryd.prog laid2 w) false (World.doorLaid Tryd.prog 400 os) #[.slice none 0 0, .int .i64 0, .int .i64 0] 8 rfl (World.shaped_of_RefB (by kernel_rfl) (by kernel_rfl)) (by kernel_rfl) (by kernel_rfl) (by kernel_rfl) (door_met os _)) ?_
  intro W base args ds gs before hval0 hW _ hsz hL _
  have hval : ∀ (j : Nat) t v, Tryd.f5.params[j]? = some t → args[j]? = some v → Value.okWide Tryd.prog W .any base t v := hval0
  have hW' := hW
  obtain ⟨p, q, hA0, hV, rfl, hfz, hnd⟩ := hW
  have hA : DataW.TrodAll enc Tryd.prog W 0 (fun _ => true) true Tryd.f5.params.toList args.toList ds p := hA0
  rw [Tryd.params5] at hA hval
  obtain ⟨v0, vs0, d0, ds0, p0, q0, hargs, rfl, rfl, h0, r0⟩ := trodAll_cons hA
  obtain ⟨v1, vs1, d1, ds1, p1, q1, rfl, rfl, rfl, h1, r1⟩ := trodAll_cons r0
  obtain ⟨v2, vs2, d2, ds2, p2, q2, rfl, rfl, rfl, h2, r2⟩ := trodAll_cons r1
  obtain ⟨rfl, rfl, rfl⟩ := trodAll_nil r2
  obtain rfl : args = #[v0, v1, v2] := by cases args; simp_all
  obtain ⟨rfl, rfl⟩ := trodVars_none hV
  obtain ⟨a0, len0, cap0, rfl⟩ := okWide_slice Tryd.underlying22 (hval 0 22 v0 rfl rfl)
  have k0 := h0
  have lt0 : ∀ x ∈ p0, x.block < W.heap.size := by obtain ⟨m, hm⟩ := k0; exact DataW.trod_lt m _ _ _ hm
  obtain ⟨fuel0, hf0⟩ := h0
  obtain ⟨a0', cap0', x0, hcs0, w0⟩ := piece_of hf0
  simp [Value.cells] at hcs0
  obtain ⟨rfl, rfl, rfl⟩ := hcs0
  clear hf0
  obtain ⟨a1, rfl, rfl, rfl, w1⟩ := open_int Tryd.underlying3 (hval 1 3 v1 rfl rfl) h1
  obtain ⟨a2, rfl, rfl, rfl, w2⟩ := open_int Tryd.underlying3 (hval 2 3 v2 rfl rfl) h2
  clear hA0 hval0
  refine (walk a0 cap0 x0 a1 a2 W w0 w1 w2 (of_laid hL)).mono fun e W' ⟨he, bel⟩ => ?_
  subst he
  exact ⟨_, rfl, _, _, _, [], _, [], hW', trodAll_mk1 (shut_bool Tryd.underlying4 _), (trodAll_cons_mk (Below.trod laidOut (by kernel_rfl) (of_decide_eq_true (by kernel_rfl)) k0 bel lt0) (trodAll_cons_mk (shut_int Tryd.underlying3 w1) (trodAll_cons_mk (shut_int Tryd.underlying3 w2) trodAll_mk0))), rfl, bel.frame _, fun h => by cases h⟩

theorem row : Rows.MacKeysSaid :=
  OpenClaim.holds_of_wide 5 Tryd.f5 rfl rfl rfl rfl rfl rfl rfl ⟨rfl, rfl, rfl, rfl, rfl⟩ rfl rfl rfl rfl rfl (by kernel_rfl) Tryd.func5 (by kernel_rfl)
    (of_decide_eq_true (by kernel_rfl)) (by unfold Func.isWrapper; first | (rw [if_pos (by decide +kernel)]; kernel_rfl) | (rw [if_neg (by decide +kernel)]; exact ⟨rfl, rfl⟩))
    (fun os started H enc _ => lifted os started H enc)

theorem card : Rows.MacKeysCardSaid :=
  Claim7.holds_tied_plain_at .later [] [.data, .data] true (true, Rows.macKeysCard.stood.harness.2) false
    row (fun _ h => by cases h) (by kernel_rfl) (fun _ h => by cases h) macKeys_row_tie rfl ⟨rfl, rfl⟩ (by kernel_rfl) rfl
    (fun f fn hf hfn => by
      obtain rfl : f = 5 := Option.some.inj ((show Tryd.prog.funcNamed "oriel/oriellaw03.MacKeys" = some 5 by kernel_rfl).symm.trans hf) |>.symm
      obtain rfl : fn = Tryd.f5 := (Option.some.inj (Tryd.func5.symm.trans hfn)).symm
      exact ⟨by kernel_rfl, fun j t ht => by
        rw [Tryd.params5] at ht
        have hm : t ∈ [22, 3, 3] := by simpa using Array.mem_of_getElem? ht
        have hall : ([22, 3, 3].all fun u => !Tryd.prog.wantsStandIn u) = true := by kernel_rfl
        exact (show Tryd.prog.wantsStandIn t = false by simpa using List.all_eq_true.1 hall t hm)⟩)
    (by kernel_rfl)

end MacKeysProof

theorem macKeys_holds : Rows.MacKeysCardSaid := MacKeysProof.card
#print axioms macKeys_holds

end Go.Proofs.YtfopjobcjafgaabDoor
