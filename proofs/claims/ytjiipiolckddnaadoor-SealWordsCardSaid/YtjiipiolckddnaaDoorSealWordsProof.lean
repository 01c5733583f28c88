/-
  SealWords, the tied card: a nonce's word, and the nonce of a word, are the document's (any nonce, any word); no condition but the two tables, which the card ties to the program's text.
-/
import Derived.Test.YtjiipiolckddnaaDoorJU
import Derived.Test.YtjiipiolckddnaaDoorJR
import Derived.Test.YtjiipiolckddnaaDoorJP
namespace Go.Proofs.YtjiipiolckddnaaDoor
namespace SealWordsProof
open Go.ChangeShapes Go.WideShapes Go.ChangeAt Go.WideMaps Go.WideElems Go.RowKit

set_option maxHeartbeats 4000000 in
set_option maxRecDepth 100000 in
theorem walk_of (d : Bool) (m x : Nat) (a e : Int) (xd : Bool) (xn : Nat) (W : World) (hL : Laid W)
    (h1 : ∀ v : World, Calls Tryd.prog 9 #[noV d m] v fun r w' => r = .returned (.tuple #[.int .u64 a, .int .i64 e]) ∧ Below v.heap.size v w')
    (h2 : ∀ v : World, Calls Tryd.prog 10 #[noV d m] v fun r w' => r = .returned (.tuple #[.int .u64 a, .int .i64 e]) ∧ Below v.heap.size v w')
    (h3 : ∀ v : World, Calls Tryd.prog 11 #[.int .u64 (x : Int)] v fun r w' => r = .returned (noV xd xn) ∧ Below v.heap.size v w')
    (h4 : ∀ v : World, Calls Tryd.prog 12 #[.int .u64 (x : Int)] v fun r w' => r = .returned (noV xd xn) ∧ Below v.heap.size v w') :
    Calls Tryd.prog 3 #[noV d m, .int .u64 (x : Int)] W fun r w' => r = .returned (.bool true) ∧ Below W.heap.size W w' := by
  have H1 := hide h1
  have H2 := hide h2
  have H3 := hide h3
  have H4 := hide h4
  have hL2 := hL.size
  have HK : Hid (∀ v, Below W.heap.size W v → Calls Tryd.prog 13 #[] v fun e w' => e = .returned (.bool true) ∧ Below v.heap.size v w') := fun v hb => known_any v (hL.keptB (B := W.heap.size) hL2 hb)
  have HE := hide (fun v : World => eq_no_true xd xn v)
  have A1 : Hid (Arr (W.alloc (Obj.cells #[Value.bool d, Value.int IntKind.u64 ↑m] 24)) W.heap.size 24 (noC d m) ∧ Below W.heap.size W (W.alloc (Obj.cells #[Value.bool d, Value.int IntKind.u64 ↑m] 24))) := ⟨Arr.new W _ _, (Below.refl _ _).alloc (Nat.le_refl _) _⟩
  clear h1 h2 h3 h4 hL
  go_enter Tryd.func3, Tryd.ntmps3
  go_upto_region 1 with fail
  generalize W.alloc (Obj.cells #[Value.bool d, Value.int IntKind.u64 ↑m] 24) = w1 at *
  go_wp2_with (refine wpList_load_row rfl 24 _ rfl W.heap.size rfl 24 _ (0, 0) _ A1.out.1 Tryd.underlying24 rfl infoN ?_)
  refine (H1.out w1).mono ?_
  rintro r w2 ⟨rfl, hb2⟩
  have A2 : Hid (Arr w2 W.heap.size 24 (noC d m) ∧ Below W.heap.size W w2) := ⟨A1.out.1.kept hb2, A1.out.2.trans (hb2.mono A1.out.2.size)⟩
  clear hb2 A1 H1
  go_wp2_with (refine wpList_load_row rfl 24 _ rfl W.heap.size rfl 24 _ (0, 0) _ A2.out.1 Tryd.underlying24 rfl infoN ?_)
  refine (H2.out w2).mono ?_
  rintro r w3 ⟨rfl, hb3⟩
  have B3 : Hid (Below W.heap.size W w3) := A2.out.2.trans (hb3.mono A2.out.2.size)
  clear hb3 A2 H2
  go_wp2_with fail
  refine (H3.out w3).mono ?_
  rintro r w4 ⟨rfl, hb4⟩
  have B4 : Hid (Below W.heap.size W w4) := B3.out.trans (hb4.mono B3.out.size)
  clear hb4 B3 H3
  go_wp2_with fail
  refine (H4.out w4).mono ?_
  rintro r w5 ⟨rfl, hb5⟩
  have B5 : Hid (Below W.heap.size W w5) := B4.out.trans (hb5.mono B4.out.size)
  clear hb5 B4 H4
  go_wp2_with (refine wpList_exec (by rfl) _ (exec_eql_agg 24 24 (.tmp 29) (.tmp 31) rfl #[Value.bool xd, Value.int .u64 (xn : Int)] #[Value.bool xd, Value.int .u64 (xn : Int)] rfl rfl true (guardN _ _ _ _ _) (HE.out _)) ?_)
  refine (HK.out w5 B5.out).mono ?_
  rintro r w6 ⟨rfl, hb6⟩
  have B6 : Hid (Below W.heap.size W w6) := B5.out.trans (hb6.mono B5.out.size)
  clear hb6 B5 HK
  go_wp2
  go_ret
  exact ⟨rfl, B6.out⟩

theorem walk (d : Bool) (m : Nat) (z : Int) (W : World) (hm : m < 18446744073709551616) (hz : (Lit.int .u64 z).wf = true) (hL : Laid W) :
    Calls Tryd.prog 3 #[noV d m, .int .u64 z] W fun r w' => r = .returned (.bool true) ∧ Below W.heap.size W w' := by
  obtain ⟨x, rfl, hx⟩ := wf_u64 hz
  by_cases h : m < 9223372036854775808
  · exact walk_of d m x _ _ _ _ W hL (fun v => by have := word_no d m hm v; rw [if_pos h] at this; exact this) (fun v => by have := rword_no d m v; rw [if_pos h] at this; exact this) (fun v => of_no x v) (fun v => rof_no x hx v)
  · exact walk_of d m x _ _ _ _ W hL (fun v => by have := word_no d m hm v; rw [if_neg h] at this; exact this) (fun v => by have := rword_no d m v; rw [if_neg h] at this; exact this) (fun v => of_no x v) (fun v => rof_no x hx v)

set_option maxRecDepth 100000 in
theorem lifted (os : Os) (started : os.Started) (H : Type) (enc : TypeId × Value → H) :
    ReturnsInHanded {} Tryd.checked os 3 .any (fun w args => (Rows.sealWordsSpec.pre enc Tryd.prog Tryd.f3 [] false w args ∧ laidMetH Tryd.prog laid2 w) ∧ sizedMet enc Tryd.prog Tryd.f3 (OpenSpec.ofChange Rows.sealWordsSpec) false w args)
      (Rows.sealWordsSpec.post enc Tryd.prog Tryd.f3 false true false false) := by
  refine returnsInHanded_of_change_and (C := Tryd.checked) (X := fun w _ => laidMetH Tryd.prog laid2 w) (fun _ _ _ hh h => h.of_heap hh) own started (by kernel_rfl) Tryd.func3
    (ChangeSpec.witness_shaped (enc := enc) (C := Tryd.checked) (os := os) (X := fun w _ => laidMetH Tryd.prog laid2 w) false (World.doorLaid Tryd.prog 400 os) #[.agg #[.bool false, .int .u64 0], .int .u64 0] 8 rfl (World.shaped_of_RefB (by kernel_rfl) (by kernel_rfl)) (by kernel_rfl) (by kernel_rfl) (by kernel_rfl) (door_met os _)) ?_
  intro W base args ds gs before hval0 hW _ hsz hL _
  have hval : ∀ (j : Nat) t v, Tryd.f3.params[j]? = some t → args[j]? = some v → Value.okWide Tryd.prog W .any base t v := hval0
  have hW' := hW
  obtain ⟨p, q, hA0, hV, rfl, hfz, hnd⟩ := hW
  have hA : DataW.TrodAll enc Tryd.prog W 0 (fun _ => true) true Tryd.f3.params.toList args.toList ds p := hA0
  rw [Tryd.params3] at hA hval
  obtain ⟨v0, vs0, d0, ds0, p0, q0, hargs, rfl, rfl, h0, r0⟩ := trodAll_cons hA
  obtain ⟨v1, vs1, d1, ds1, p1, q1, rfl, rfl, rfl, h1, r1⟩ := trodAll_cons r0
  obtain ⟨rfl, rfl, rfl⟩ := trodAll_nil r1
  obtain rfl : args = #[v0, v1] := by cases args; simp_all
  obtain ⟨rfl, rfl⟩ := trodVars_none hV
  have k0 := h0
  obtain ⟨x0, y0, rfl, w0, z0⟩ := open_nonce (hval 0 24 v0 rfl rfl) h0
  obtain ⟨a1, rfl, rfl, rfl, w1⟩ := open_int Tryd.underlying22 (hval 1 22 v1 rfl rfl) h1
  clear hA0 hval0
  refine (walk x0 y0 a1 W w0 w1 (of_laid hL)).mono fun e W' ⟨he, bel⟩ => ?_
  subst he
  exact ⟨_, rfl, _, _, _, [], _, [], hW', trodAll_mk1 (shut_bool Tryd.underlying4 _), (trodAll_cons_mk (Below.trod laidOut (by kernel_rfl) (of_decide_eq_true (by kernel_rfl)) k0 bel (fun x hx => (z0 x hx).elim)) (trodAll_cons_mk (shut_int Tryd.underlying22 w1) trodAll_mk0)), rfl, bel.frame _, fun h => by cases h⟩

theorem row : Rows.SealWordsSaid :=
  OpenClaim.holds_of_wide 3 Tryd.f3 rfl rfl rfl rfl rfl rfl rfl ⟨rfl, rfl, rfl, rfl, rfl⟩ rfl rfl rfl rfl rfl (by kernel_rfl) Tryd.func3 (by kernel_rfl)
    (of_decide_eq_true (by kernel_rfl)) (by unfold Func.isWrapper; first | (rw [if_pos (by decide +kernel)]; kernel_rfl) | (rw [if_neg (by decide +kernel)]; exact ⟨rfl, rfl⟩))
    (fun os started H enc _ => lifted os started H enc)

theorem card : Rows.SealWordsCardSaid :=
  Claim7.holds_tied_plain_at .later [] [.data, .data] true (true, Rows.sealWordsCard.stood.harness.2) false
    row (fun _ h => by cases h) (by kernel_rfl) (fun _ h => by cases h) sealWords_row_tie rfl ⟨rfl, rfl⟩ (by kernel_rfl) rfl
    (fun f fn hf hfn => by
      obtain rfl : f = 3 := Option.some.inj ((show Tryd.prog.funcNamed "oriel/oriellaw06.SealWords" = some 3 by kernel_rfl).symm.trans hf) |>.symm
      obtain rfl : fn = Tryd.f3 := (Option.some.inj (Tryd.func3.symm.trans hfn)).symm
      exact ⟨by kernel_rfl, fun j t ht => by
        rw [Tryd.params3] at ht
        have hm : t ∈ [24, 22] := by simpa using Array.mem_of_getElem? ht
        have hall : ([24, 22].all fun u => !Tryd.prog.wantsStandIn u) = true := by kernel_rfl
        exact (show Tryd.prog.wantsStandIn t = false by simpa using List.all_eq_true.1 hall t hm)⟩)
    (by kernel_rfl)

end SealWordsProof

/-- A nonce's word, and the nonce of a word, are the document's. -/
theorem sealWords_holds : Rows.SealWordsCardSaid := SealWordsProof.card

#print axioms sealWords_holds
end Go.Proofs.YtjiipiolckddnaaDoor
