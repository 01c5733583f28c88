/-
  AesBack: whatever the key and the block, what was hidden is shown again as it was, and what was shown is hidden again, and the known rows come out: the law returns true, and what is handed in stays. No condition.
-/
import Derived.Test.YtkafnkofanocpaaEO
import Derived.Test.YtkafnkofanocpaaEP
namespace Go.Proofs.Ytkafnkofanocpaa
namespace AesBackProof
open Go.ChangeShapes Go.WideShapes Go.ChangeAt Go.RowKit
set_option linter.unusedVariables false

set_option maxHeartbeats 4000000 in
set_option maxRecDepth 100000 in
theorem walk_in (key b C D : List Nat) (w : World) (hk : Blk key) (hb : Blk b) (hC : Blk C) (hD : Blk D)
    (h1 : ∀ v : World, Calls Try.prog 19 #[.agg (u8s key).toArray, .agg (u8s b).toArray] v fun e w' => e = .returned (.agg (u8s C).toArray) ∧ Below v.heap.size v w')
    (h2 : ∀ v : World, Calls Try.prog 21 #[.agg (u8s key).toArray, .agg (u8s C).toArray] v fun e w' => e = .returned (.agg (u8s b).toArray) ∧ Below v.heap.size v w')
    (h3 : ∀ v : World, Calls Try.prog 21 #[.agg (u8s key).toArray, .agg (u8s b).toArray] v fun e w' => e = .returned (.agg (u8s D).toArray) ∧ Below v.heap.size v w')
    (h4 : ∀ v : World, Calls Try.prog 19 #[.agg (u8s key).toArray, .agg (u8s D).toArray] v fun e w' => e = .returned (.agg (u8s b).toArray) ∧ Below v.heap.size v w') :
    Calls Try.prog 6 #[.agg (u8s key).toArray, .agg (u8s b).toArray] w fun e w' => e = .returned (.bool true) ∧ Below w.heap.size w w' := by
  have H1 := hide h1
  have H2 := hide h2
  have H3 := hide h3
  have H4 := hide h4
  have HE : Hid (∀ v : World, (Op.equalIn 10000 26 (.agg (u8s b).toArray) (.agg (u8s b).toArray)).run Try.prog v = .ok true v) := fun v => by
    have := eq_blk hb hb v
    rwa [decide_eq_true rfl] at this
  have Ikey := hide (szl hk)
  have Ib := hide (szl hb)
  have Lkey : Hid (∀ v : World, Hid (Below ((w.alloc (Obj.cells (u8s key).toArray 26)).alloc (Obj.cells (u8s b).toArray 26)).heap.size ((w.alloc (Obj.cells (u8s key).toArray 26)).alloc (Obj.cells (u8s b).toArray 26)) v) → Arr v w.heap.size 26 (u8s key)) := fun v h => ((Arr.new w _ (u8s key)).alloc _).kept h.out
  have Lb : Hid (∀ v : World, Hid (Below ((w.alloc (Obj.cells (u8s key).toArray 26)).alloc (Obj.cells (u8s b).toArray 26)).heap.size ((w.alloc (Obj.cells (u8s key).toArray 26)).alloc (Obj.cells (u8s b).toArray 26)) v) → Arr v (w.heap.size + 1) 26 (u8s b)) := fun v h => (Arr.newAt (w.alloc _) _ (u8s b) _ (by simp)).kept h.out
  have AB : Hid (Below w.heap.size w ((w.alloc (Obj.cells (u8s key).toArray 26)).alloc (Obj.cells (u8s b).toArray 26))) := ((Below.refl _ _).alloc (Nat.le_refl _) _).alloc (by simp) _
  clear hk hb hC hD h1 h2 h3 h4
  generalize hW1 : (w.alloc (Obj.cells (u8s key).toArray 26)).alloc (Obj.cells (u8s b).toArray 26) = w1 at *
  go_enter Try.func6, Try.ntmps6
  go_upto_region 1 with fail
  try rw [hW1]
  clear hW1
  refine wp_region_held_drew (S := fun v => Hid (Below w1.heap.size w1 v)) (by kernel_rfl) (hide (Below.refl w1.heap.size w1).drew) (fun hHeld => ?_)
  refine take_dstH (i := 0) (d := 5) (v := ?_) rfl rfl (by kernel_rfl) (by kernel_rfl) (by kernel_rfl) (fun _ _ _ h => h) (by rfl) hHeld ?_ ?_
  rotate_left
  · intro wZ hSw; refine exec_load_all 26 (.tmp 2) ?_ w.heap.size ?_ 26 (u8s key) _ (Lkey.out wZ hSw) Try.underlying26 rfl Ikey.out <;> rfl
  try simp only [Act.put, List.setIfInBounds_toArray, List.set_cons_zero, List.set_cons_succ]
  refine take_dstH (i := 1) (d := 6) (v := ?_) rfl rfl (by kernel_rfl) (by kernel_rfl) (by kernel_rfl) (fun _ _ _ h => h) (by rfl) hHeld ?_ ?_
  rotate_left
  · intro wZ hSw; refine exec_load_all 26 (.tmp 2) ?_ w.heap.size ?_ 26 (u8s key) _ (Lkey.out wZ hSw) Try.underlying26 rfl Ikey.out <;> rfl
  try simp only [Act.put, List.setIfInBounds_toArray, List.set_cons_zero, List.set_cons_succ]
  refine take_dstH (i := 2) (d := 7) (v := ?_) rfl rfl (by kernel_rfl) (by kernel_rfl) (by kernel_rfl) (fun _ _ _ h => h) (by rfl) hHeld ?_ ?_
  rotate_left
  · intro wZ hSw; refine exec_load_all 26 (.tmp 3) ?_ (w.heap.size + 1) ?_ 26 (u8s b) _ (Lb.out wZ hSw) Try.underlying26 rfl Ib.out <;> rfl
  try simp only [Act.put, List.setIfInBounds_toArray, List.set_cons_zero, List.set_cons_succ]
  refine take_dstH (i := 5) (d := 10) (v := ?_) rfl rfl (by kernel_rfl) (by kernel_rfl) (by kernel_rfl) (fun _ _ _ h => h) (by rfl) hHeld ?_ ?_
  rotate_left
  · intro wZ hSw; refine exec_load_all 26 (.tmp 3) ?_ (w.heap.size + 1) ?_ 26 (u8s b) _ (Lb.out wZ hSw) Try.underlying26 rfl Ib.out <;> rfl
  try simp only [Act.put, List.setIfInBounds_toArray, List.set_cons_zero, List.set_cons_succ]
  refine wpAnyH_ready (rs := [3]) (by kernel_rfl) (by simp) ?_
  refine (AllReadyH.cons rfl (fun K hK => ?_) AllReadyH.nil)
  go_simp
  refine (H1.out _).mono ?_; rintro e waa ⟨rfl, hba⟩; have HBa : Hid (Below w1.heap.size w1 waa) := (Hid.out hHeld).trans (hba.mono (Hid.out hHeld).size); clear hba
  go_wp2_with fail
  refine hK.out _ _ ?_ (fun hHeld => ?_)
  · exact HBa
  clear hK K
  try simp only [Act.put, List.setIfInBounds_toArray, List.set_cons_zero, List.set_cons_succ]
  refine wpAnyH_ready (rs := [4]) (by kernel_rfl) (by simp) ?_
  refine (AllReadyH.cons rfl (fun K hK => ?_) AllReadyH.nil)
  go_simp
  refine (H2.out _).mono ?_; rintro e wab ⟨rfl, hba⟩; have HBb : Hid (Below w1.heap.size w1 wab) := (Hid.out hHeld).trans (hba.mono (Hid.out hHeld).size); clear hba
  go_wp2_with fail
  refine hK.out _ _ ?_ (fun hHeld => ?_)
  · exact HBb
  clear hK K
  try simp only [Act.put, List.setIfInBounds_toArray, List.set_cons_zero, List.set_cons_succ]
  refine take_dstH (i := 6) (d := 11) (v := ?_) rfl rfl (by kernel_rfl) (by kernel_rfl) (by kernel_rfl) (fun _ _ _ h => h) (by rfl) hHeld ?_ ?_
  rotate_left
  · intro wZ hSw; refine exec_eql_agg 26 26 (.tmp 9) (.tmp 10) ?_ (u8s b).toArray (u8s b).toArray ?_ ?_ true (guard16 _ _ _ _ _) (HE.out wZ) <;> rfl
  try simp only [Act.put, List.setIfInBounds_toArray, List.set_cons_zero, List.set_cons_succ]
  refine take_dstH (i := 7) (d := 12) (v := ?_) rfl rfl (by kernel_rfl) (by kernel_rfl) (by kernel_rfl) (fun _ _ _ h => h) (by rfl) hHeld ?_ ?_
  rotate_left
  · intro wZ hSw; clear hSw; go_simp; first | (with_reducible rfl) | (rw [if_pos (by omega)]; with_reducible rfl) | skip
  try simp only [Act.put, List.setIfInBounds_toArray, List.set_cons_zero, List.set_cons_succ]
  refine take_dstH (i := 8) (d := 13) (v := ?_) rfl rfl (by kernel_rfl) (by kernel_rfl) (by kernel_rfl) (fun _ _ _ h => h) (by rfl) hHeld ?_ ?_
  rotate_left
  · intro wZ hSw; refine exec_load_all 26 (.tmp 2) ?_ w.heap.size ?_ 26 (u8s key) _ (Lkey.out wZ hSw) Try.underlying26 rfl Ikey.out <;> rfl
  try simp only [Act.put, List.setIfInBounds_toArray, List.set_cons_zero, List.set_cons_succ]
  refine take_dstH (i := 9) (d := 14) (v := ?_) rfl rfl (by kernel_rfl) (by kernel_rfl) (by kernel_rfl) (fun _ _ _ h => h) (by rfl) hHeld ?_ ?_
  rotate_left
  · intro wZ hSw; refine exec_load_all 26 (.tmp 2) ?_ w.heap.size ?_ 26 (u8s key) _ (Lkey.out wZ hSw) Try.underlying26 rfl Ikey.out <;> rfl
  try simp only [Act.put, List.setIfInBounds_toArray, List.set_cons_zero, List.set_cons_succ]
  refine take_dstH (i := 10) (d := 15) (v := ?_) rfl rfl (by kernel_rfl) (by kernel_rfl) (by kernel_rfl) (fun _ _ _ h => h) (by rfl) hHeld ?_ ?_
  rotate_left
  · intro wZ hSw; refine exec_load_all 26 (.tmp 3) ?_ (w.heap.size + 1) ?_ 26 (u8s b) _ (Lb.out wZ hSw) Try.underlying26 rfl Ib.out <;> rfl
  try simp only [Act.put, List.setIfInBounds_toArray, List.set_cons_zero, List.set_cons_succ]
  refine take_dstH (i := 13) (d := 18) (v := ?_) rfl rfl (by kernel_rfl) (by kernel_rfl) (by kernel_rfl) (fun _ _ _ h => h) (by rfl) hHeld ?_ ?_
  rotate_left
  · intro wZ hSw; refine exec_load_all 26 (.tmp 3) ?_ (w.heap.size + 1) ?_ 26 (u8s b) _ (Lb.out wZ hSw) Try.underlying26 rfl Ib.out <;> rfl
  try simp only [Act.put, List.setIfInBounds_toArray, List.set_cons_zero, List.set_cons_succ]
  refine wpAnyH_ready (rs := [11]) (by kernel_rfl) (by simp) ?_
  refine (AllReadyH.cons rfl (fun K hK => ?_) AllReadyH.nil)
  go_simp
  refine (H3.out _).mono ?_; rintro e wac ⟨rfl, hba⟩; have HBc : Hid (Below w1.heap.size w1 wac) := (Hid.out hHeld).trans (hba.mono (Hid.out hHeld).size); clear hba
  go_wp2_with fail
  refine hK.out _ _ ?_ (fun hHeld => ?_)
  · exact HBc
  clear hK K
  try simp only [Act.put, List.setIfInBounds_toArray, List.set_cons_zero, List.set_cons_succ]
  refine wpAnyH_ready (rs := [12]) (by kernel_rfl) (by simp) ?_
  refine (AllReadyH.cons rfl (fun K hK => ?_) AllReadyH.nil)
  go_simp
  refine (H4.out _).mono ?_; rintro e wad ⟨rfl, hba⟩; have HBd : Hid (Below w1.heap.size w1 wad) := (Hid.out hHeld).trans (hba.mono (Hid.out hHeld).size); clear hba
  go_wp2_with fail
  refine hK.out _ _ ?_ (fun hHeld => ?_)
  · exact HBd
  clear hK K
  try simp only [Act.put, List.setIfInBounds_toArray, List.set_cons_zero, List.set_cons_succ]
  refine take_dstH (i := 14) (d := 19) (v := ?_) rfl rfl (by kernel_rfl) (by kernel_rfl) (by kernel_rfl) (fun _ _ _ h => h) (by rfl) hHeld ?_ ?_
  rotate_left
  · intro wZ hSw; refine exec_eql_agg 26 26 (.tmp 17) (.tmp 18) ?_ (u8s b).toArray (u8s b).toArray ?_ ?_ true (guard16 _ _ _ _ _) (HE.out wZ) <;> rfl
  try simp only [Act.put, List.setIfInBounds_toArray, List.set_cons_zero, List.set_cons_succ]
  refine take_dstH (i := 15) (d := 20) (v := ?_) rfl rfl (by kernel_rfl) (by kernel_rfl) (by kernel_rfl) (fun _ _ _ h => h) (by rfl) hHeld ?_ ?_
  rotate_left
  · intro wZ hSw; clear hSw; go_simp; first | (with_reducible rfl) | (rw [if_pos (by omega)]; with_reducible rfl) | skip
  try simp only [Act.put, List.setIfInBounds_toArray, List.set_cons_zero, List.set_cons_succ]
  refine take_dstH (i := 16) (d := 21) (v := ?_) rfl rfl (by kernel_rfl) (by kernel_rfl) (by kernel_rfl) (fun _ _ _ h => h) (by rfl) hHeld ?_ ?_
  rotate_left
  · intro wZ hSw; clear hSw; go_simp; first | (with_reducible rfl) | (rw [if_pos (by omega)]; with_reducible rfl) | skip
  try simp only [Act.put, List.setIfInBounds_toArray, List.set_cons_zero, List.set_cons_succ]
  refine wpAnyH_ready (rs := [17]) (by kernel_rfl) (by simp) ?_
  refine (AllReadyH.cons rfl (fun K hK => ?_) AllReadyH.nil)
  go_simp
  refine (known_any _).mono ?_; rintro e wae ⟨rfl, hba⟩; have HBe : Hid (Below w1.heap.size w1 wae) := (Hid.out hHeld).trans (hba.mono (Hid.out hHeld).size); clear hba
  go_wp2_with fail
  refine hK.out _ _ ?_ (fun hHeld => ?_)
  · exact HBe
  clear hK K
  try simp only [Act.put, List.setIfInBounds_toArray, List.set_cons_zero, List.set_cons_succ]
  refine take_dstH (i := 18) (d := 23) (v := ?_) rfl rfl (by kernel_rfl) (by kernel_rfl) (by kernel_rfl) (fun _ _ _ h => h) (by rfl) hHeld ?_ ?_
  rotate_left
  · intro wZ hSw; clear hSw; go_simp; first | (with_reducible rfl) | (rw [if_pos (by omega)]; with_reducible rfl) | skip
  try simp only [Act.put, List.setIfInBounds_toArray, List.set_cons_zero, List.set_cons_succ]
  refine take_dstH (i := 19) (d := 4) (v := ?_) rfl rfl (by kernel_rfl) (by kernel_rfl) (by kernel_rfl) (fun _ _ _ h => h) (by rfl) hHeld ?_ ?_
  rotate_left
  · intro wZ hSw; clear hSw; go_simp; first | (with_reducible rfl) | (rw [if_pos (by omega)]; with_reducible rfl) | skip
  try simp only [Act.put, List.setIfInBounds_toArray, List.set_cons_zero, List.set_cons_succ]
  refine wpAnyH_done (by kernel_rfl) ?_ _
  all_goals
    go_wp2
    go_ret
    exact ⟨rfl, AB.out.trans (HBe.out.mono AB.out.size)⟩

theorem walk (key b : List Nat) (w : World) (hk : Blk key) (hb : Blk b) :
    Calls Try.prog 6 #[.agg (u8s key).toArray, .agg (u8s b).toArray] w fun e w' => e = .returned (.bool true) ∧ Below w.heap.size w w' := by
  have hf := rd_blk sw_lt hk
  have hC := hdF_blk hf hb 10
  have hD := (shF_blk (f := rdF swT key) hb 10).add (hf 0)
  exact walk_in key b _ _ w hk hb hC hD (fun v => Hide_of key b _ v hk hb rfl) (fun v => Show_of key _ b v hk hC (show_hide hf hb).symm) (fun v => Show_of key b _ v hk hb rfl) (fun v => Hide_of key _ b v hk hD (hide_show hf hb).symm)

theorem own : ownKnob Try.prog.godebug = none := by kernel_rfl
theorem laidOut : laidOutB Try.prog = true := by kernel_rfl
set_option maxRecDepth 100000 in
theorem lifted (os : Os) (started : os.Started) (H : Type) (enc : TypeId × Value → H) :
    ReturnsInHanded {} Try.checked os 6 .any (Rows.aesBackSpec.pre6 enc Try.prog Try.f6 Rows.aesBackRow.domain false) (Rows.aesBackSpec.post enc Try.prog Try.f6 false true false false) := by
  refine returnsInHanded_of_change (C := Try.checked) own started (by kernel_rfl) Try.func6
    (ChangeSpec.witness6 (enc := enc) (C := Try.checked) false ⟨#[], #[.agg (u8s z16).toArray, .agg (u8s z16).toArray], []⟩ 8 (by kernel_rfl) (by kernel_rfl) (by kernel_rfl) (by kernel_rfl)) ?_
  intro W base args ds gs before hval0 hW hcnd _
  have hval : ∀ (j : Nat) t v, Try.f6.params[j]? = some t → args[j]? = some v → Value.okWide Try.prog W .any base t v := hval0
  have hW' := hW
  obtain ⟨p, q, hA0, hV, rfl, hfz, hnd⟩ := hW
  have hA : DataW.TrodAll enc Try.prog W 0 (fun _ => true) true Try.f6.params.toList args.toList ds p := hA0
  rw [Try.params6] at hA hval
  obtain ⟨v0, vs0, d0, ds0, p0, q0, hargs, rfl, rfl, h0, r0⟩ := trodAll_cons hA
  obtain ⟨v1, vs1, d1, ds1, p1, q1, rfl, rfl, rfl, h1, r1⟩ := trodAll_cons r0
  obtain ⟨rfl, rfl, rfl⟩ := trodAll_nil r1
  obtain rfl : args = #[v0, v1] := by cases args; simp_all
  obtain ⟨rfl, rfl⟩ := trodVars_none hV
  have k0 := h0
  obtain ⟨x0, rfl, w0, z0⟩ := open_blk (hval 0 26 v0 rfl rfl) h0
  have k1 := h1
  obtain ⟨x1, rfl, w1, z1⟩ := open_blk (hval 1 26 v1 rfl rfl) h1
  clear hA0 hval0
  refine (walk x0 x1 W w0 w1).mono fun e W' ⟨he, bel⟩ => ?_
  subst he
  exact ⟨_, rfl, _, _, _, [], _, [], hW', trodAll_mk1 (shut_bool Try.underlying4 _), (trodAll_cons_mk (Below.trod laidOut (by kernel_rfl) (of_decide_eq_true (by kernel_rfl)) k0 bel (fun x hx => (z0 x hx).elim)) (trodAll_cons_mk (Below.trod laidOut (by kernel_rfl) (of_decide_eq_true (by kernel_rfl)) k1 bel (fun x hx => (z1 x hx).elim)) trodAll_mk0)), rfl, bel.frame _, fun h => by cases h⟩

theorem over : Rows.aesBackRow.holds Try.pinned (OpenSpec.ofChange Rows.aesBackSpec) :=
  OpenClaim.holds_of_wide 6 Try.f6 rfl rfl rfl rfl rfl rfl rfl ⟨rfl, rfl, rfl, rfl, rfl⟩ rfl rfl rfl rfl rfl (by kernel_rfl) Try.func6 (by kernel_rfl)
    (of_decide_eq_true (by kernel_rfl)) (by unfold Func.isWrapper; first | (rw [if_pos (by decide +kernel)]; kernel_rfl) | (rw [if_neg (by decide +kernel)]; exact ⟨rfl, rfl⟩))
    (fun os started H enc _ => lifted os started H enc)

end AesBackProof

/-- A block that was hidden is shown again as it was, and one that was shown is hidden again. -/
theorem aesBack_holds : Rows.AesBackSaid := AesBackProof.over

#print axioms aesBack_holds
end Go.Proofs.Ytkafnkofanocpaa
