/-
  CtrTurns: whatever the key, the nonce and the text, the program's text turned is the document's, what is handed in stays, and the known rows come out: the law returns true. No condition.
-/
import Derived.Test.YtflakgigekfgcaaEO
import Derived.Test.YtflakgigekfgcaaCI
import Derived.Test.YtflakgigekfgcaaCH
namespace Go.Proofs.Ytflakgigekfgcaa
namespace CtrTurnsProof
open Go.ChangeShapes Go.WideShapes Go.ChangeAt Go.WideMaps Go.WideElems Go.RowKit
set_option linter.unusedVariables false
set_option linter.unusedSimpArgs false

set_option maxHeartbeats 8000000 in
set_option maxRecDepth 100000 in
theorem walk_in (key T xs : List Nat) (nn n : Nat) (p : Option Addr) (c : Nat) (w : World) (hk : Blk key) (hx : Piece w p c xs) (hn : xs.length = n) (hTl : n ≤ 2000 → T.length = n) (hTb : BytesN T)
    (h1 : ∀ (p : Option Addr) (c : Nat) (v : World), Piece v p c xs → n ≤ 2000 → Calls Try.prog 12 #[.agg (u8s key).toArray, .int .u64 (nn : Int), .slice p n c] v fun r w' => ∃ u, r = .returned u ∧ w'.ownsRow v.heap.size 5 1 u n (u8s T) ∧ Below v.heap.size v w')
    (h2 : ∀ (p : Option Addr) (c : Nat) (v : World), Piece v p c xs → n ≤ 2000 → Calls Try.prog 11 #[.agg (u8s key).toArray, .int .u64 (nn : Int), .int .i64 0, .slice p n c] v fun r w' => ∃ u, r = .returned u ∧ w'.ownsRow v.heap.size 5 1 u n (u8s T) ∧ Below v.heap.size v w') :
    Calls Try.prog 4 #[.agg (u8s key).toArray, .int .u64 (nn : Int), .slice p n c] w fun e w' => e = .returned (.bool true) ∧ Below w.heap.size w w' := by
  have H1 := hide h1
  have H2 := hide h2
  have HX := hide hx
  have HN := hide hn
  have HTL := hide hTl
  have HTB := hide hTb
  have IK := hide (szb hk)
  have IKl := hide (szl hk)
  have hnm : n ≤ maxLen := by have := hx.2.2.2.1; have := hx.2.2.2.2; omega
  have A0 : Hid (Arr (w.alloc (Obj.cells (u8s key).toArray 22)) w.heap.size 22 (u8s key) ∧ Below w.heap.size w (w.alloc (Obj.cells (u8s key).toArray 22))) := ⟨Arr.new w _ _, (Below.refl _ _).alloc (Nat.le_refl _) _⟩
  clear hk hx hn hTl hTb h1 h2
  go_enter Try.func4, Try.ntmps4
  go_wp2_with fail
  generalize w.alloc (Obj.cells (u8s key).toArray 22) = w1 at *
  refine (known_any w1).mono ?_
  rintro e w2 ⟨rfl, hb⟩
  have A2 : Hid (Arr w2 w.heap.size 22 (u8s key) ∧ Below w.heap.size w w2 ∧ Piece w2 p c xs) := ⟨A0.out.1.kept hb, A0.out.2.trans (hb.mono A0.out.2.size), HX.out.kept (A0.out.2.trans (hb.mono A0.out.2.size))⟩
  clear hb A0 HX
  by_cases hbig : 2000 < n
  · have hd : decide ((2000 : Int) < (n : Int)) = true := by simp; omega
    go_wp2
    go_ret
    exact ⟨rfl, A2.out.2.1⟩
  have hd : decide ((2000 : Int) < (n : Int)) = false := by simp; omega
  have hn2 : n ≤ 2000 := by omega
  go_wp2_with (at_builtin; refine wpList_append_bytes rfl (.tmp 14) (.tmp 15) rfl w2.heap.size _ [] rfl 0 rfl (World.ownsRow_made w2 #[] 0 (Nat.le_refl _) (Nat.zero_le _) rfl) p n c xs HN.out rfl ?h1 A2.out.2.2.2.1 ?h3 ?h4 ?_)
  case h1 => exact A2.out.2.2.1.kept ((Below.refl _ _).alloc (Nat.le_refl _) _)
  case h3 => omega
  case h4 => simp
  intro v w3 ho hg
  obtain ⟨p3, c3, rfl, hP3, _⟩ := own_piece_n ho HN.out A2.out.2.2.2.2.1
  have hb : Below w2.heap.size w2 w3 := ((Below.refl _ w2).alloc (Nat.le_refl _) _).trans (grown_below hg (by simp) (fun k e => by simp [Value.ownBlock] at e; omega))
  have A3 : Hid (Arr w3 w.heap.size 22 (u8s key) ∧ Below w.heap.size w w3 ∧ Piece w3 p c xs ∧ Piece w3 p3 c3 xs) := ⟨A2.out.1.kept hb, A2.out.2.1.trans (hb.mono A2.out.2.1.size), A2.out.2.2.kept hb, hP3⟩
  clear ho hg hP3 hb A2
  go_wp2_with (refine wpList_load_row rfl 22 _ rfl w.heap.size rfl 22 _ (0, 0) _ A3.out.1 Try.underlying22 rfl IK.out ?_)
  refine (H1.out _ _ w3 A3.out.2.2.2 hn2).mono ?_
  rintro r w4 ⟨u, rfl, ho, hb⟩
  obtain ⟨p4, c4, rfl, hP4, _⟩ := own_piece_n ho (HTL.out hn2) HTB.out
  have A4 : Hid (Arr w4 w.heap.size 22 (u8s key) ∧ Below w.heap.size w w4 ∧ Piece w4 p c xs ∧ Piece w4 p3 c3 xs ∧ Piece w4 p4 c4 T) := ⟨A3.out.1.kept hb, A3.out.2.1.trans (hb.mono A3.out.2.1.size), A3.out.2.2.1.kept hb, A3.out.2.2.2.kept hb, hP4⟩
  clear ho hb hP4 A3
  have Lk : Hid (∀ v : World, Hid (Below w4.heap.size w4 v) → Arr v w.heap.size 22 (u8s key)) := fun v h => A4.out.1.kept h.out
  have Lp : Hid (∀ v : World, Hid (Below w4.heap.size w4 v) → Piece v p c xs) := fun v h => A4.out.2.2.1.kept h.out
  have C3 : Hid (∀ v : World, Hid (Below w4.heap.size w4 v) → (convert 25 9 (.slice p3 n c3)).run Try.prog v = .ok (.string (strF xs)) v) := fun v h => conv_any (A4.out.2.2.2.1.kept h.out).1 n HN.out
  have C1 : Hid (∀ v : World, Hid (Below w4.heap.size w4 v) → (convert 25 9 (.slice p n c)).run Try.prog v = .ok (.string (strF xs)) v) := fun v h => conv_any (A4.out.2.2.1.kept h.out).1 n HN.out
  have C4 : Hid (∀ v : World, Hid (Below w4.heap.size w4 v) → (convert 25 9 (.slice p4 n c4)).run Try.prog v = .ok (.string (strF T)) v) := fun v h => conv_any (A4.out.2.2.2.2.kept h.out).1 n (HTL.out hn2)
  have AB := hide A4.out.2.1
  clear A4 hd hbig
  go_upto_region 7 with fail
  refine wp_region_held_drew (S := fun v => Hid (Below w4.heap.size w4 v)) (by kernel_rfl) (hide (Below.refl w4.heap.size w4).drew) (fun hHeld => ?_)
  refine take_dstH (i := 0) (d := 21) (v := ?_) rfl rfl (by kernel_rfl) (by kernel_rfl) (by kernel_rfl) (fun _ _ _ h => h) (by rfl) hHeld ?_ ?_
  rotate_left
  · intro wZ hSw; clear hSw; go_simp; first | (with_reducible rfl) | (rw [if_pos (by omega)]; with_reducible rfl) | skip
  try simp only [Act.put, List.setIfInBounds_toArray, List.set_cons_zero, List.set_cons_succ]
  refine take_dstH (i := 1) (d := 22) (v := ?_) rfl rfl (by kernel_rfl) (by kernel_rfl) (by kernel_rfl) (fun _ _ _ h => h) (by rfl) hHeld ?_ ?_
  rotate_left
  · intro wZ hSw; have hfS := C3.out wZ hSw; clear hSw; go_simp; first | (with_reducible rfl) | (rw [if_pos (by omega)]; with_reducible rfl) | skip
  try simp only [Act.put, List.setIfInBounds_toArray, List.set_cons_zero, List.set_cons_succ]
  refine take_dstH (i := 2) (d := 23) (v := ?_) rfl rfl (by kernel_rfl) (by kernel_rfl) (by kernel_rfl) (fun _ _ _ h => h) (by rfl) hHeld ?_ ?_
  rotate_left
  · intro wZ hSw; clear hSw; go_simp; first | (with_reducible rfl) | (rw [if_pos (by omega)]; with_reducible rfl) | skip
  try simp only [Act.put, List.setIfInBounds_toArray, List.set_cons_zero, List.set_cons_succ]
  refine take_dstH (i := 3) (d := 24) (v := ?_) rfl rfl (by kernel_rfl) (by kernel_rfl) (by kernel_rfl) (fun _ _ _ h => h) (by rfl) hHeld ?_ ?_
  rotate_left
  · intro wZ hSw; have hfS := C1.out wZ hSw; clear hSw; go_simp; first | (with_reducible rfl) | (rw [if_pos (by omega)]; with_reducible rfl) | skip
  try simp only [Act.put, List.setIfInBounds_toArray, List.set_cons_zero, List.set_cons_succ]
  refine take_dstH (i := 4) (d := 25) (v := ?_) rfl rfl (by kernel_rfl) (by kernel_rfl) (by kernel_rfl) (fun _ _ _ h => h) (by rfl) hHeld ?_ ?_
  rotate_left
  · intro wZ hSw; clear hSw; go_simp; first | (with_reducible rfl) | (rw [if_pos (by omega)]; with_reducible rfl) | skip
  try simp only [Act.put, List.setIfInBounds_toArray, List.set_cons_zero, List.set_cons_succ]
  refine take_dstH (i := 5) (d := 26) (v := ?_) rfl rfl (by kernel_rfl) (by kernel_rfl) (by kernel_rfl) (fun _ _ _ h => h) (by rfl) hHeld ?_ ?_
  rotate_left
  · intro wZ hSw; clear hSw; go_simp; first | (with_reducible rfl) | (rw [if_pos (by omega)]; with_reducible rfl) | skip
  try simp only [Act.put, List.setIfInBounds_toArray, List.set_cons_zero, List.set_cons_succ]
  refine take_dstH (i := 6) (d := 27) (v := ?_) rfl rfl (by kernel_rfl) (by kernel_rfl) (by kernel_rfl) (fun _ _ _ h => h) (by rfl) hHeld ?_ ?_
  rotate_left
  · intro wZ hSw; clear hSw; go_simp; first | (with_reducible rfl) | (rw [if_pos (by omega)]; with_reducible rfl) | skip
  try simp only [Act.put, List.setIfInBounds_toArray, List.set_cons_zero, List.set_cons_succ]
  refine take_dstH (i := 7) (d := 28) (v := ?_) rfl rfl (by kernel_rfl) (by kernel_rfl) (by kernel_rfl) (fun _ _ _ h => h) (by rfl) hHeld ?_ ?_
  rotate_left
  · intro wZ hSw; have hfS := C4.out wZ hSw; clear hSw; go_simp; first | (with_reducible rfl) | (rw [if_pos (by omega)]; with_reducible rfl) | skip
  try simp only [Act.put, List.setIfInBounds_toArray, List.set_cons_zero, List.set_cons_succ]
  refine take_dstH (i := 8) (d := 29) (v := ?_) rfl rfl (by kernel_rfl) (by kernel_rfl) (by kernel_rfl) (fun _ _ _ h => h) (by rfl) hHeld ?_ ?_
  rotate_left
  · intro wZ hSw; refine exec_load_all 22 (.tmp 3) ?_ w.heap.size ?_ 22 (u8s key) _ (Lk.out wZ hSw) Try.underlying22 rfl IKl.out <;> rfl
  try simp only [Act.put, List.setIfInBounds_toArray, List.set_cons_zero, List.set_cons_succ]
  refine take_dstH (i := 9) (d := 30) (v := ?_) rfl rfl (by kernel_rfl) (by kernel_rfl) (by kernel_rfl) (fun _ _ _ h => h) (by rfl) hHeld ?_ ?_
  rotate_left
  · intro wZ hSw; clear hSw; go_simp; first | (with_reducible rfl) | (rw [if_pos (by omega)]; with_reducible rfl) | skip
  try simp only [Act.put, List.setIfInBounds_toArray, List.set_cons_zero, List.set_cons_succ]
  refine take_dstH (i := 10) (d := 31) (v := ?_) rfl rfl (by kernel_rfl) (by kernel_rfl) (by kernel_rfl) (fun _ _ _ h => h) (by rfl) hHeld ?_ ?_
  rotate_left
  · intro wZ hSw; clear hSw; go_simp; first | (with_reducible rfl) | (rw [if_pos (by omega)]; with_reducible rfl) | skip
  try simp only [Act.put, List.setIfInBounds_toArray, List.set_cons_zero, List.set_cons_succ]
  refine wpAnyH_ready (rs := [11]) (by kernel_rfl) (by simp) ?_
  refine (AllReadyH.cons rfl (fun K hK => ?_) AllReadyH.nil)
  go_simp
  refine (H2.out _ _ _ (Lp.out _ hHeld) hn2).mono ?_; rintro r w5 ⟨u, rfl, ho, hb⟩; obtain ⟨p5, c5, rfl, hP5, _⟩ := own_piece_n ho (HTL.out hn2) HTB.out; have HBe : Hid (Below w4.heap.size w4 w5) := (Hid.out hHeld).trans (hb.mono (Hid.out hHeld).size); have cv5 := conv_any hP5.1 (c := c5) n (HTL.out hn2); clear ho hb
  go_wp2_with fail
  refine hK.out _ _ ?_ (fun hHeld => ?_)
  · exact HBe
  clear hK K
  try simp only [Act.put, List.setIfInBounds_toArray, List.set_cons_zero, List.set_cons_succ]
  refine wpAnyH_ready (rs := [12]) (by kernel_rfl) (by simp) ?_
  refine (AllReadyH.cons rfl (fun K hK => ?_) AllReadyH.nil)
  go_simp
  refine hK.out _ _ ?_ (fun hHeld => ?_)
  · exact hHeld
  clear hK K
  try simp only [Act.put, List.setIfInBounds_toArray, List.set_cons_zero, List.set_cons_succ]
  refine take_dstH (i := 13) (d := 34) (v := ?_) rfl rfl (by kernel_rfl) (by kernel_rfl) (by kernel_rfl) (fun _ _ _ h => h) (by rfl) hHeld ?_ ?_
  rotate_left
  · intro wZ hSw; clear hSw; go_simp; first | (with_reducible rfl) | (rw [if_pos (by omega)]; with_reducible rfl) | skip
  try simp only [Act.put, List.setIfInBounds_toArray, List.set_cons_zero, List.set_cons_succ]
  refine take_dstH (i := 14) (d := 35) (v := ?_) rfl rfl (by kernel_rfl) (by kernel_rfl) (by kernel_rfl) (fun _ _ _ h => h) (by rfl) hHeld ?_ ?_
  rotate_left
  · intro wZ hSw; clear hSw; go_simp; first | (with_reducible rfl) | (rw [if_pos (by omega)]; with_reducible rfl) | skip
  try simp only [Act.put, List.setIfInBounds_toArray, List.set_cons_zero, List.set_cons_succ]
  refine take_dstH (i := 15) (d := 6) (v := ?_) rfl rfl (by kernel_rfl) (by kernel_rfl) (by kernel_rfl) (fun _ _ _ h => h) (by rfl) hHeld ?_ ?_
  rotate_left
  · intro wZ hSw; clear hSw; go_simp; first | (with_reducible rfl) | (rw [if_pos (by omega)]; with_reducible rfl) | skip
  try simp only [Act.put, List.setIfInBounds_toArray, List.set_cons_zero, List.set_cons_succ]
  refine wpAnyH_done (by kernel_rfl) ?_ _
  all_goals
    go_wp2
    go_ret
    exact ⟨rfl, AB.out.trans ((Hid.out hHeld).mono AB.out.size)⟩

theorem walk (key : List Nat) (a : Int) (p : Option Addr) (c : Nat) (xs : List Nat) (w : World) (hk : Blk key) (ha : (Lit.int .u64 a).wf = true) (hx : Piece w p c xs) :
    Calls Try.prog 4 #[.agg (u8s key).toArray, .int .u64 a, .slice p xs.length c] w fun e w' => e = .returned (.bool true) ∧ Below w.heap.size w w' := by
  obtain ⟨nn, rfl, hnn⟩ := wf_u64 ha
  exact walk_in key (trF (hbF key nn) 0 xs) xs nn _ p c w hk hx rfl (fun _ => trF_length _ _ _) (trF_bytes (fun i => hbF_blk hk nn i) 0 hx.2.2.1)
    (fun p c v hp h => turn_any key nn _ p c xs v hk hnn hp rfl (by omega))
    (fun p c v hp h => rturn_any key nn 0 _ p c xs v hk hp rfl (by omega) (by omega))

theorem own : ownKnob Try.prog.godebug = none := by kernel_rfl
theorem laidOut : laidOutB Try.prog = true := by kernel_rfl
set_option maxRecDepth 100000 in
theorem lifted (os : Os) (started : os.Started) (H : Type) (enc : TypeId × Value → H) :
    ReturnsInHanded {} Try.checked os 4 .any (Rows.ctrTurnsSpec.pre6 enc Try.prog Try.f4 Rows.ctrTurnsRow.domain false) (Rows.ctrTurnsSpec.post enc Try.prog Try.f4 false true false false) := by
  refine returnsInHanded_of_change (C := Try.checked) own started (by kernel_rfl) Try.func4
    (ChangeSpec.witness6 (enc := enc) (C := Try.checked) false ⟨#[], #[.agg (u8s z16).toArray, .int .u64 0, .slice none 0 0], []⟩ 8 (by kernel_rfl) (by kernel_rfl) (by kernel_rfl) (by kernel_rfl)) ?_
  intro W base args ds gs before hval0 hW hcnd _
  have hval : ∀ (j : Nat) t v, Try.f4.params[j]? = some t → args[j]? = some v → Value.okWide Try.prog W .any base t v := hval0
  have hW' := hW
  obtain ⟨p, q, hA0, hV, rfl, hfz, hnd⟩ := hW
  have hA : DataW.TrodAll enc Try.prog W 0 (fun _ => true) true Try.f4.params.toList args.toList ds p := hA0
  rw [Try.params4] at hA hval
  obtain ⟨v0, vs0, d0, ds0, p0, q0, hargs, rfl, rfl, h0, r0⟩ := trodAll_cons hA
  obtain ⟨v1, vs1, d1, ds1, p1, q1, rfl, rfl, rfl, h1, r1⟩ := trodAll_cons r0
  obtain ⟨v2, vs2, d2, ds2, p2, q2, rfl, rfl, rfl, h2, r2⟩ := trodAll_cons r1
  obtain ⟨rfl, rfl, rfl⟩ := trodAll_nil r2
  obtain rfl : args = #[v0, v1, v2] := by cases args; simp_all
  obtain ⟨rfl, rfl⟩ := trodVars_none hV
  have k0 := h0
  obtain ⟨x0, rfl, w0, z0⟩ := open_blk (hval 0 22 v0 rfl rfl) h0
  obtain ⟨a1, rfl, rfl, rfl, w1⟩ := open_int Try.underlying23 (hval 1 23 v1 rfl rfl) h1
  obtain ⟨a2, len2, cap2, rfl⟩ := okWide_slice Try.underlying25 (hval 2 25 v2 rfl rfl)
  have k2 := h2
  have lt2 : ∀ x ∈ p2, x.block < W.heap.size := by obtain ⟨m, hm⟩ := k2; exact DataW.trod_lt m _ _ _ hm
  obtain ⟨fuel2, hf2⟩ := h2
  obtain ⟨a2', cap2', x2, hcs2, w2⟩ := piece_of hf2
  simp [Value.cells] at hcs2
  obtain ⟨rfl, rfl, rfl⟩ := hcs2
  clear hf2
  clear hA0 hval0
  refine (walk x0 a1 a2 cap2 x2 W w0 w1 w2).mono fun e W' ⟨he, bel⟩ => ?_
  subst he
  exact ⟨_, rfl, _, _, _, [], _, [], hW', trodAll_mk1 (shut_bool Try.underlying4 _), (trodAll_cons_mk (Below.trod laidOut (by kernel_rfl) (of_decide_eq_true (by kernel_rfl)) k0 bel (fun x hx => (z0 x hx).elim)) (trodAll_cons_mk (shut_int Try.underlying23 w1) (trodAll_cons_mk (Below.trod laidOut (by kernel_rfl) (of_decide_eq_true (by kernel_rfl)) k2 bel lt2) trodAll_mk0))), rfl, bel.frame _, fun h => by cases h⟩

theorem over : Rows.ctrTurnsRow.holds Try.pinned (OpenSpec.ofChange Rows.ctrTurnsSpec) :=
  OpenClaim.holds_of_wide 4 Try.f4 rfl rfl rfl rfl rfl rfl rfl ⟨rfl, rfl, rfl, rfl, rfl⟩ rfl rfl rfl rfl rfl (by kernel_rfl) Try.func4 (by kernel_rfl)
    (of_decide_eq_true (by kernel_rfl)) (by unfold Func.isWrapper; first | (rw [if_pos (by decide +kernel)]; kernel_rfl) | (rw [if_neg (by decide +kernel)]; exact ⟨rfl, rfl⟩))
    (fun os started H enc _ => lifted os started H enc)

end CtrTurnsProof

/-- Any text turned is the document's, and what is handed in stays. -/
theorem ctrTurns_holds : Rows.CtrTurnsSaid := CtrTurnsProof.over

#print axioms ctrTurns_holds
end Go.Proofs.Ytflakgigekfgcaa
