/-
  SealSeals, the tied card: the packet of any text is the document's, or refused; what is handed in stays (a text of more than 1300 bytes is refused as too long); no condition but the two tables, which the card ties to the program's text.
-/
import Derived.Test.YtjiipiolckddnaaDoorJU
import Derived.Test.YtjiipiolckddnaaDoorJS
import Derived.Test.YtjiipiolckddnaaDoorJR
import Derived.Test.YtjiipiolckddnaaDoorJP
namespace Go.Proofs.YtjiipiolckddnaaDoor
namespace SealSealsProof
open Go.ChangeShapes Go.WideShapes Go.ChangeAt Go.WideMaps Go.WideElems Go.RowKit

/-- what sealing tells, of whichever of the two -/
def Told (F : FuncId) (code mark : List Nat) (d : Bool) (m : Nat) (p : Option Addr) (c n k : Nat) (e : Int) (U : List Nat) (v : World) : Prop :=
  Calls Tryd.prog F #[keyV code mark, noV d m, .slice p n c] v fun r w' => ∃ q cq, r = .returned (.tuple #[.slice q k cq, .int .i64 e]) ∧ Piece w' q cq U ∧ Below v.heap.size v w'

set_option maxHeartbeats 8000000 in
set_option maxRecDepth 100000 in
theorem walk_long (code mark : List Nat) (d : Bool) (m : Nat) (p : Option Addr) (c n : Nat) (W : World) (hk : IsKey code mark) (hn : 1300 < n) (_hm : m < 18446744073709551616)
    (hK : ∀ v, Below W.heap.size W v → Calls Tryd.prog 13 #[] v fun e w' => e = .returned (.bool true) ∧ Below v.heap.size v w') :
    Calls Tryd.prog 4 #[keyV code mark, noV d m, .slice p n c] W fun r w' => r = .returned (.bool true) ∧ Below W.heap.size W w' := by
  have HK := hide hK
  have IK := hide hk.info
  have HS := hide (fun v : World => seal_long code mark false (m % 9) p c n v (by omega) (by omega))
  have hn' : (1300 : Int) < (n : Int) := by omega
  have e9 : (m : Int) % 9 = ((m % 9 : Nat) : Int) := by omega
  have A1 := hide (boxes W (kCells code mark) (noC d m) 34 24)
  clear hK hn hk
  generalize m % 9 = m9 at *
  go_enter Tryd.func4, Tryd.ntmps4
  go_upto_region 1 with fail
  generalize (W.alloc (Obj.cells (kCells code mark).toArray 34)).alloc (Obj.cells #[Value.bool d, Value.int IntKind.u64 ↑m] 24) = w1 at *
  go_wp2_with fail
  refine (HK.out w1 A1.out.2.2).mono ?_
  rintro r w2 ⟨rfl, hb⟩
  have A2 : Hid (Arr w2 W.heap.size 34 (kCells code mark) ∧ Arr w2 (W.heap.size + 1) 24 (noC d m) ∧ Below W.heap.size W w2) := ⟨A1.out.1.kept hb, A1.out.2.1.kept hb, A1.out.2.2.trans (hb.mono A1.out.2.2.size)⟩
  clear hb A1 HK
  have c1 := A2.out.2.1.cell 1
  simp only [List.getElem?_cons_zero, List.getElem?_cons_succ] at c1
  go_wp2_with (refine wpList_load_row rfl 34 _ rfl W.heap.size rfl 34 _ (0, 0) _ A2.out.1 Tryd.underlying34 rfl IK.out ?_)
  refine (HS.out w2).mono ?_
  rintro r w3 ⟨rfl, hb⟩
  have A3 : Hid (Below W.heap.size W w3) := A2.out.2.2.trans (hb.mono A2.out.2.2.size)
  clear hb A2 c1 HS
  go_wp2
  go_ret
  exact ⟨rfl, A3.out⟩

set_option maxHeartbeats 8000000 in
set_option maxRecDepth 100000 in
theorem walk_of (code mark : List Nat) (d : Bool) (m : Nat) (p : Option Addr) (c n k : Nat) (e : Int) (text U : List Nat) (W : World) (hk : IsKey code mark) (hP : Piece W p c text) (hn : text.length = n) (hUl : U.length = k) (hn2 : n ≤ 1300)
    (hK : ∀ v, Below W.heap.size W v → Calls Tryd.prog 13 #[] v fun e w' => e = .returned (.bool true) ∧ Below v.heap.size v w')
    (h1 : ∀ v q cq, Below W.heap.size W v → Piece v q cq text → Told 14 code mark d m q cq n k e U v)
    (h2 : ∀ v, Below W.heap.size W v → Told 15 code mark d m p c n k e U v) :
    Calls Tryd.prog 4 #[keyV code mark, noV d m, .slice p n c] W fun r w' => r = .returned (.bool true) ∧ Below W.heap.size W w' := by
  have HK := hide hK
  have H1 := hide h1
  have H2 := hide h2
  have HP := hide hP
  have HN := hide hn
  have HUL := hide hUl
  have IK := hide hk.info
  have hn' : ¬ (1300 : Int) < (n : Int) := by omega
  have A1 := hide (boxes W (kCells code mark) (noC d m) 34 24)
  clear hK h1 h2 hUl hk hP hn
  go_enter Tryd.func4, Tryd.ntmps4
  go_upto_region 1 with fail
  generalize (W.alloc (Obj.cells (kCells code mark).toArray 34)).alloc (Obj.cells #[Value.bool d, Value.int IntKind.u64 ↑m] 24) = w1 at *
  go_wp2_with fail
  refine (HK.out w1 A1.out.2.2).mono ?_
  rintro r w2 ⟨rfl, hb⟩
  have A2 : Hid (Arr w2 W.heap.size 34 (kCells code mark) ∧ Arr w2 (W.heap.size + 1) 24 (noC d m) ∧ Below W.heap.size W w2) := ⟨A1.out.1.kept hb, A1.out.2.1.kept hb, A1.out.2.2.trans (hb.mono A1.out.2.2.size)⟩
  clear hb A1 HK
  go_wp2_with (at_builtin; refine wpList_append_bytes rfl (.tmp 36) (.tmp 37) rfl w2.heap.size _ [] rfl 0 rfl (World.ownsRow_made w2 #[] 0 (Nat.le_refl _) (Nat.zero_le _) rfl) p n c text HN.out rfl ((HP.out.1.kept A2.out.2.2).kept ((Below.refl _ _).alloc (Nat.le_refl _) _)) HP.out.2.1 (by omega) (by simp) ?_)
  intro v3 w3 hown hgrow
  have B3 : Below w2.heap.size w2 w3 := ((Below.refl _ w2).alloc (Nat.le_refl _) _).trans (grown_below hgrow (by simp) (by intro k hk; simp [Value.ownBlock] at hk; omega))
  obtain ⟨po, co, rfl, hpo, _⟩ := own_piece_n hown HN.out HP.out.2.2.1
  have A3 : Hid (Arr w3 W.heap.size 34 (kCells code mark) ∧ Arr w3 (W.heap.size + 1) 24 (noC d m) ∧ Piece w3 po co text ∧ Below W.heap.size W w3) := ⟨A2.out.1.kept B3, A2.out.2.1.kept B3, hpo, A2.out.2.2.trans (B3.mono A2.out.2.2.size)⟩
  clear hown hgrow B3 hpo A2
  go_wp2_with (first
    | (refine wpList_load_row rfl 34 _ rfl W.heap.size rfl 34 _ (0, 0) _ A3.out.1 Tryd.underlying34 rfl IK.out ?_)
    | (refine wpList_load_row rfl 24 _ rfl (W.heap.size + 1) rfl 24 _ (0, 0) _ A3.out.2.1 Tryd.underlying24 rfl infoN ?_))
  refine (show Told _ _ _ _ _ _ _ _ _ _ _ _ from H1.out w3 po co A3.out.2.2.2 A3.out.2.2.1).mono ?_
  rintro r w4 ⟨q1, c1, rfl, hp, hb⟩
  have A4 : Hid (Arr w4 W.heap.size 34 (kCells code mark) ∧ Arr w4 (W.heap.size + 1) 24 (noC d m) ∧ Piece w4 po co text ∧ Piece w4 q1 c1 U ∧ Below W.heap.size W w4) := ⟨A3.out.1.kept hb, A3.out.2.1.kept hb, A3.out.2.2.1.kept hb, hp, A3.out.2.2.2.trans (hb.mono A3.out.2.2.2.size)⟩
  clear hp hb A3 H1
  go_wp2_with (first
    | (refine wpList_load_row rfl 34 _ rfl W.heap.size rfl 34 _ (0, 0) _ A4.out.1 Tryd.underlying34 rfl IK.out ?_)
    | (refine wpList_load_row rfl 24 _ rfl (W.heap.size + 1) rfl 24 _ (0, 0) _ A4.out.2.1 Tryd.underlying24 rfl infoN ?_))
  refine (show Told _ _ _ _ _ _ _ _ _ _ _ _ from H2.out w4 A4.out.2.2.2.2).mono ?_
  rintro r w5 ⟨q2, c2, rfl, hp, hb⟩
  have A5 : Hid (Piece w5 po co text ∧ Piece w5 q1 c1 U ∧ Piece w5 q2 c2 U ∧ Below W.heap.size W w5) := ⟨A4.out.2.2.1.kept hb, A4.out.2.2.2.1.kept hb, hp, A4.out.2.2.2.2.trans (hb.mono A4.out.2.2.2.2.size)⟩
  clear hp hb A4 H2
  have cv1 := conv_any A5.out.2.1.1 (c := c1) k HUL.out
  have cv2 := conv_any A5.out.2.2.1.1 (c := c2) k HUL.out
  have cv3 := conv_any A5.out.1.1 (c := co) n HN.out
  have cv4 := conv_any (HP.out.kept A5.out.2.2.2).1 (c := c) n HN.out
  have BE := hide A5.out.2.2.2
  clear A5
  go_wp2
  go_ret
  exact ⟨rfl, BE.out⟩

theorem nil_piece (w : World) : Piece w none 0 [] := ⟨Or.inl rfl, fun _ => rfl, (fun x hx => by cases hx), Nat.le_refl _, Nat.zero_le _⟩

theorem walk (code mark : List Nat) (d : Bool) (m : Nat) (p : Option Addr) (c : Nat) (text : List Nat) (W : World) (hk : IsKey code mark) (hm64 : m < 18446744073709551616) (hP : Piece W p c text) (hL : Laid W) :
    Calls Tryd.prog 4 #[keyV code mark, noV d m, .slice p text.length c] W fun r w' => r = .returned (.bool true) ∧ Below W.heap.size W w' := by
  have hL2 := hL.size
  have hLB : ∀ v, Below W.heap.size W v → Laid v := fun v hb => hL.keptB (B := W.heap.size) hL2 hb
  have hK : ∀ v, Below W.heap.size W v → Calls Tryd.prog 13 #[] v fun e w' => e = .returned (.bool true) ∧ Below v.heap.size v w' := fun v hb => known_any v (hLB v hb)
  by_cases hn : 1300 < text.length
  · exact walk_long code mark d m p c text.length W hk hn hm64 hK
  by_cases hm : m < 9223372036854775808
  · by_cases hl : 1200 < text.length
    · exact walk_of code mark d m p c text.length 0 3 text [] W hk hP rfl rfl (by omega) hK
        (fun v q cq hb hq => (seal_long code mark d m q cq text.length v hm hl).mono fun r w' ⟨h1, h2⟩ => ⟨none, 0, h1, nil_piece _, h2⟩)
        (fun v hb => (rseal_long code mark d m p c text.length v hm hl).mono fun r w' ⟨h1, h2⟩ => ⟨none, 0, h1, nil_piece _, h2⟩)
    · have hU := paF_length code mark (wdF d m) text
      have hUb := paF_bytes hk.c mark (wdF d m) hP.2.2.1
      refine walk_of code mark d m p c text.length (text.length + 24) 0 text (paF code mark (wdF d m) text) W hk hP rfl hU (by omega) hK (fun v q cq hb hq => ?_) (fun v hb => ?_)
      · exact (seal_ok code mark d m q cq text.length text v hk hm hq rfl (by omega) (hLB v hb)).mono fun r w' ⟨u, h1, h2, h3⟩ => by
          obtain ⟨q', cq', rfl, hq', _⟩ := own_piece_n h2 hU hUb
          exact ⟨q', cq', h1, hq', h3⟩
      · exact (rseal_ok code mark d m p c text.length text v hk hm (hP.kept hb) rfl (by omega)).mono fun r w' ⟨u, h1, h2, h3⟩ => by
          obtain ⟨q', cq', rfl, hq', _⟩ := own_piece_n h2 hU hUb
          exact ⟨q', cq', h1, hq', h3⟩
  · exact walk_of code mark d m p c text.length 0 2 text [] W hk hP rfl rfl (by omega) hK
      (fun v q cq hb hq => (seal_arg code mark d m q cq text.length v hm64 hm).mono fun r w' ⟨h1, h2⟩ => ⟨none, 0, h1, nil_piece _, h2⟩)
      (fun v hb => (rseal_arg code mark d m p c text.length v hm).mono fun r w' ⟨h1, h2⟩ => ⟨none, 0, h1, nil_piece _, h2⟩)

set_option maxRecDepth 100000 in
theorem lifted (os : Os) (started : os.Started) (H : Type) (enc : TypeId × Value → H) :
    ReturnsInHanded {} Tryd.checked os 4 .any (fun w args => (Rows.sealSealsSpec.pre enc Tryd.prog Tryd.f4 [] false w args ∧ laidMetH Tryd.prog laid2 w) ∧ sizedMet enc Tryd.prog Tryd.f4 (OpenSpec.ofChange Rows.sealSealsSpec) false w args)
      (Rows.sealSealsSpec.post enc Tryd.prog Tryd.f4 false true false false) := by
  refine returnsInHanded_of_change_and (C := Tryd.checked) (X := fun w _ => laidMetH Tryd.prog laid2 w) (fun _ _ _ hh h => h.of_heap hh) own started (by kernel_rfl) Tryd.func4
    (ChangeSpec.witness_shaped (enc := enc) (C := Tryd.checked) (os := os) (X := fun w _ => laidMetH Tryd.prog laid2 w) false (World.doorLaid Tryd.prog 400 os) #[.agg zeroK.toArray, .agg #[.bool false, .int .u64 0], .slice none 0 0] 8 rfl (World.shaped_of_RefB (by kernel_rfl) (by kernel_rfl)) (by kernel_rfl) (by kernel_rfl) (by kernel_rfl) (door_met os _)) ?_
  intro W base args ds gs before hval0 hW _ hsz hL _
  have hval : ∀ (j : Nat) t v, Tryd.f4.params[j]? = some t → args[j]? = some v → Value.okWide Tryd.prog W .any base t v := hval0
  have hW' := hW
  obtain ⟨p, q, hA0, hV, rfl, hfz, hnd⟩ := hW
  have hA : DataW.TrodAll enc Tryd.prog W 0 (fun _ => true) true Tryd.f4.params.toList args.toList ds p := hA0
  rw [Tryd.params4] at hA hval
  obtain ⟨v0, vs0, d0, ds0, p0, q0, hargs, rfl, rfl, h0, r0⟩ := trodAll_cons hA
  obtain ⟨v1, vs1, d1, ds1, p1, q1, rfl, rfl, rfl, h1, r1⟩ := trodAll_cons r0
  obtain ⟨v2, vs2, d2, ds2, p2, q2, rfl, rfl, rfl, h2, r2⟩ := trodAll_cons r1
  obtain ⟨rfl, rfl, rfl⟩ := trodAll_nil r2
  obtain rfl : args = #[v0, v1, v2] := by cases args; simp_all
  obtain ⟨rfl, rfl⟩ := trodVars_none hV
  have k0 := h0
  obtain ⟨x0, y0, rfl, w0, z0⟩ := open_key (hval 0 34 v0 rfl rfl) h0
  have k1 := h1
  obtain ⟨x1, y1, rfl, w1, z1⟩ := open_nonce (hval 1 24 v1 rfl rfl) h1
  obtain ⟨a2, len2, cap2, rfl⟩ := okWide_slice Tryd.underlying35 (hval 2 35 v2 rfl rfl)
  have k2 := h2
  have lt2 : ∀ x ∈ p2, x.block < W.heap.size := by obtain ⟨m, hm⟩ := k2; exact DataW.trod_lt m _ _ _ hm
  obtain ⟨fuel2, hf2⟩ := h2
  obtain ⟨a2', cap2', x2, hcs2, w2⟩ := piece_of hf2
  simp [Value.cells] at hcs2
  obtain ⟨rfl, rfl, rfl⟩ := hcs2
  clear hf2
  clear hA0 hval0
  refine (walk x0 y0 x1 y1 a2 cap2 x2 W w0 w1 w2 (of_laid hL)).mono fun e W' ⟨he, bel⟩ => ?_
  subst he
  exact ⟨_, rfl, _, _, _, [], _, [], hW', trodAll_mk1 (shut_bool Tryd.underlying4 _), (trodAll_cons_mk (Below.trod laidOut (by kernel_rfl) (of_decide_eq_true (by kernel_rfl)) k0 bel (fun x hx => (z0 x hx).elim)) (trodAll_cons_mk (Below.trod laidOut (by kernel_rfl) (of_decide_eq_true (by kernel_rfl)) k1 bel (fun x hx => (z1 x hx).elim)) (trodAll_cons_mk (Below.trod laidOut (by kernel_rfl) (of_decide_eq_true (by kernel_rfl)) k2 bel lt2) trodAll_mk0))), rfl, bel.frame _, fun h => by cases h⟩

theorem row : Rows.SealSealsSaid :=
  OpenClaim.holds_of_wide 4 Tryd.f4 rfl rfl rfl rfl rfl rfl rfl ⟨rfl, rfl, rfl, rfl, rfl⟩ rfl rfl rfl rfl rfl (by kernel_rfl) Tryd.func4 (by kernel_rfl)
    (of_decide_eq_true (by kernel_rfl)) (by unfold Func.isWrapper; first | (rw [if_pos (by decide +kernel)]; kernel_rfl) | (rw [if_neg (by decide +kernel)]; exact ⟨rfl, rfl⟩))
    (fun os started H enc _ => lifted os started H enc)

theorem card : Rows.SealSealsCardSaid :=
  Claim7.holds_tied_plain_at .later [] [.data, .data] true (true, Rows.sealSealsCard.stood.harness.2) false
    row (fun _ h => by cases h) (by kernel_rfl) (fun _ h => by cases h) sealSeals_row_tie rfl ⟨rfl, rfl⟩ (by kernel_rfl) rfl
    (fun f fn hf hfn => by
      obtain rfl : f = 4 := Option.some.inj ((show Tryd.prog.funcNamed "oriel/oriellaw06.SealSeals" = some 4 by kernel_rfl).symm.trans hf) |>.symm
      obtain rfl : fn = Tryd.f4 := (Option.some.inj (Tryd.func4.symm.trans hfn)).symm
      exact ⟨by kernel_rfl, fun j t ht => by
        rw [Tryd.params4] at ht
        have hm : t ∈ [34, 24, 35] := by simpa using Array.mem_of_getElem? ht
        have hall : ([34, 24, 35].all fun u => !Tryd.prog.wantsStandIn u) = true := by kernel_rfl
        exact (show Tryd.prog.wantsStandIn t = false by simpa using List.all_eq_true.1 hall t hm)⟩)
    (by kernel_rfl)

end SealSealsProof

/-- The packet of any text is the document's, or refused; what is handed in stays. -/
theorem sealSeals_holds : Rows.SealSealsCardSaid := SealSealsProof.card

#print axioms sealSeals_holds
end Go.Proofs.YtjiipiolckddnaaDoor
