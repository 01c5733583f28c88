/-
  AesRounds: whatever the key, the program's rounds of it are the document's, and the known rows come out: the law returns true, and what is handed in stays. No condition.
-/
import Derived.Test.YtkafnkofanocpaaEO
import Derived.Test.YtkafnkofanocpaaRD
namespace Go.Proofs.Ytkafnkofanocpaa
namespace AesRoundsProof
open Go.ChangeShapes Go.WideShapes Go.ChangeAt Go.RowKit
set_option linter.unusedVariables false

theorem cells176 : Try.prog.cellsOf 27 = 11 * 16 := by kernel_rfl
theorem guard176 (x y : Operand) (u v : Array Value) (w : World) : (eqGuard .eql 27 x y (.agg u) (.agg v)).run Try.prog w = .ok () w := by kernel_rfl
theorem eq_rows (a : List Nat) (ha : a.length = 176) (hb : ∀ x ∈ a, x < 256) (w : World) : (Op.equalIn 10000 27 (.agg (u8s a).toArray) (.agg (u8s a).toArray)).run Try.prog w = .ok true w := by
  have h := run_eq_rows Try.underlying27 Try.underlying26 Try.underlying5 cells8 cells16 cells176 (a.map Int.ofNat) (by simpa using ha)
    (fun z hz => by obtain ⟨x, hx, rfl⟩ := List.mem_map.1 hz; exact wf_u8 (hb x hx)) w
  rw [List.map_map] at h
  exact h

set_option maxHeartbeats 4000000 in
set_option maxRecDepth 100000 in
theorem walk_in (key SW L : List Nat) (w : World) (hk : Blk key) (hE : ∀ v : World, (Op.equalIn 10000 27 (.agg (u8s L).toArray) (.agg (u8s L).toArray)).run Try.prog v = .ok true v)
    (h1 : ∀ v : World, Calls Try.prog 16 #[.agg (u8s key).toArray] v fun e w' => e = .returned (.agg (u8s L).toArray) ∧ Below v.heap.size v w')
    (h2 : ∀ v : World, Calls Try.prog 18 #[] v fun e w' => e = .returned (.agg (u8s SW).toArray) ∧ Below v.heap.size v w')
    (h3 : ∀ v : World, Calls Try.prog 17 #[.agg (u8s key).toArray, .agg (u8s SW).toArray] v fun e w' => e = .returned (.agg (u8s L).toArray) ∧ Below v.heap.size v w') :
    Calls Try.prog 4 #[.agg (u8s key).toArray] w fun e w' => e = .returned (.bool true) ∧ Below w.heap.size w w' := by
  have H1 := hide h1
  have H2 := hide h2
  have H3 := hide h3
  have HE := hide hE
  have Ikey := hide (szl hk)
  have Lkey : Hid (∀ v : World, Hid (Below (w.alloc (Obj.cells (u8s key).toArray 26)).heap.size (w.alloc (Obj.cells (u8s key).toArray 26)) v) → Arr v w.heap.size 26 (u8s key)) := fun v h => (Arr.new w _ (u8s key)).kept h.out
  have AB : Hid (Below w.heap.size w (w.alloc (Obj.cells (u8s key).toArray 26))) := (Below.refl _ _).alloc (Nat.le_refl _) _
  clear hk h1 h2 h3 hE
  generalize hW1 : w.alloc (Obj.cells (u8s key).toArray 26) = w1 at *
  go_enter Try.func4, Try.ntmps4
  go_upto_region 1 with fail
  try rw [hW1]
  clear hW1
  refine wp_region_held_drew (S := fun v => Hid (Below w1.heap.size w1 v)) (by kernel_rfl) (hide (Below.refl w1.heap.size w1).drew) (fun hHeld => ?_)
  refine take_dstH (i := 0) (d := 3) (v := ?_) rfl rfl (by kernel_rfl) (by kernel_rfl) (by kernel_rfl) (fun _ _ _ h => h) (by rfl) hHeld ?_ ?_
  rotate_left
  · intro wZ hSw; refine exec_load_all 26 (.tmp 1) ?_ w.heap.size ?_ 26 (u8s key) _ (Lkey.out wZ hSw) Try.underlying26 rfl Ikey.out <;> rfl
  try simp only [Act.put, List.setIfInBounds_toArray, List.set_cons_zero, List.set_cons_succ]
  refine take_dstH (i := 2) (d := 5) (v := ?_) rfl rfl (by kernel_rfl) (by kernel_rfl) (by kernel_rfl) (fun _ _ _ h => h) (by rfl) hHeld ?_ ?_
  rotate_left
  · intro wZ hSw; refine exec_load_all 26 (.tmp 1) ?_ w.heap.size ?_ 26 (u8s key) _ (Lkey.out wZ hSw) Try.underlying26 rfl Ikey.out <;> rfl
  try simp only [Act.put, List.setIfInBounds_toArray, List.set_cons_zero, List.set_cons_succ]
  refine wpAnyH_ready (rs := [1]) (by kernel_rfl) (by simp) ?_
  refine (AllReadyH.cons rfl (fun K hK => ?_) AllReadyH.nil)
  go_simp
  refine (H1.out _).mono ?_; rintro e waa ⟨rfl, hba⟩; have HBa : Hid (Below w1.heap.size w1 waa) := (Hid.out hHeld).trans (hba.mono (Hid.out hHeld).size); clear hba
  go_wp2_with fail
  refine hK.out _ _ ?_ (fun hHeld => ?_)
  · exact HBa
  clear hK K
  try simp only [Act.put, List.setIfInBounds_toArray, List.set_cons_zero, List.set_cons_succ]
  refine wpAnyH_ready (rs := [3]) (by kernel_rfl) (by simp) ?_
  refine (AllReadyH.cons rfl (fun K hK => ?_) AllReadyH.nil)
  go_simp
  refine (H2.out _).mono ?_; rintro e wab ⟨rfl, hba⟩; have HBb : Hid (Below w1.heap.size w1 wab) := (Hid.out hHeld).trans (hba.mono (Hid.out hHeld).size); clear hba
  go_wp2_with fail
  refine hK.out _ _ ?_ (fun hHeld => ?_)
  · exact HBb
  clear hK K
  try simp only [Act.put, List.setIfInBounds_toArray, List.set_cons_zero, List.set_cons_succ]
  refine wpAnyH_ready (rs := [4]) (by kernel_rfl) (by simp) ?_
  refine (AllReadyH.cons rfl (fun K hK => ?_) AllReadyH.nil)
  go_simp
  refine (H3.out _).mono ?_; rintro e wac ⟨rfl, hba⟩; have HBc : Hid (Below w1.heap.size w1 wac) := (Hid.out hHeld).trans (hba.mono (Hid.out hHeld).size); clear hba
  go_wp2_with fail
  refine hK.out _ _ ?_ (fun hHeld => ?_)
  · exact HBc
  clear hK K
  try simp only [Act.put, List.setIfInBounds_toArray, List.set_cons_zero, List.set_cons_succ]
  refine take_dstH (i := 5) (d := 8) (v := ?_) rfl rfl (by kernel_rfl) (by kernel_rfl) (by kernel_rfl) (fun _ _ _ h => h) (by rfl) hHeld ?_ ?_
  rotate_left
  · intro wZ hSw; refine exec_eql_agg 27 27 (.tmp 4) (.tmp 7) ?_ (u8s L).toArray (u8s L).toArray ?_ ?_ true (guard176 _ _ _ _ _) (HE.out wZ) <;> rfl
  try simp only [Act.put, List.setIfInBounds_toArray, List.set_cons_zero, List.set_cons_succ]
  refine take_dstH (i := 6) (d := 9) (v := ?_) rfl rfl (by kernel_rfl) (by kernel_rfl) (by kernel_rfl) (fun _ _ _ h => h) (by rfl) hHeld ?_ ?_
  rotate_left
  · intro wZ hSw; clear hSw; go_simp; first | (with_reducible rfl) | (rw [if_pos (by omega)]; with_reducible rfl) | skip
  try simp only [Act.put, List.setIfInBounds_toArray, List.set_cons_zero, List.set_cons_succ]
  refine wpAnyH_ready (rs := [7]) (by kernel_rfl) (by simp) ?_
  refine (AllReadyH.cons rfl (fun K hK => ?_) AllReadyH.nil)
  go_simp
  refine (known_any _).mono ?_; rintro e wae ⟨rfl, hba⟩; have HBe : Hid (Below w1.heap.size w1 wae) := (Hid.out hHeld).trans (hba.mono (Hid.out hHeld).size); clear hba
  go_wp2_with fail
  refine hK.out _ _ ?_ (fun hHeld => ?_)
  · exact HBe
  clear hK K
  try simp only [Act.put, List.setIfInBounds_toArray, List.set_cons_zero, List.set_cons_succ]
  refine take_dstH (i := 8) (d := 11) (v := ?_) rfl rfl (by kernel_rfl) (by kernel_rfl) (by kernel_rfl) (fun _ _ _ h => h) (by rfl) hHeld ?_ ?_
  rotate_left
  · intro wZ hSw; clear hSw; go_simp; first | (with_reducible rfl) | (rw [if_pos (by omega)]; with_reducible rfl) | skip
  try simp only [Act.put, List.setIfInBounds_toArray, List.set_cons_zero, List.set_cons_succ]
  refine take_dstH (i := 9) (d := 2) (v := ?_) rfl rfl (by kernel_rfl) (by kernel_rfl) (by kernel_rfl) (fun _ _ _ h => h) (by rfl) hHeld ?_ ?_
  rotate_left
  · intro wZ hSw; clear hSw; go_simp; first | (with_reducible rfl) | (rw [if_pos (by omega)]; with_reducible rfl) | skip
  try simp only [Act.put, List.setIfInBounds_toArray, List.set_cons_zero, List.set_cons_succ]
  refine wpAnyH_done (by kernel_rfl) ?_ _
  all_goals
    go_wp2
    go_ret
    exact ⟨rfl, AB.out.trans (HBe.out.mono AB.out.size)⟩

theorem walk (key : List Nat) (w : World) (hk : Blk key) :
    Calls Try.prog 4 #[.agg (u8s key).toArray] w fun e w' => e = .returned (.bool true) ∧ Below w.heap.size w w' := by
  have ht := tF_lt sw_lt hk
  refine walk_in key swT (tF swT key) w hk (eq_rows _ (tF_length hk.len) ?_) (fun v => Rounds_of key _ v hk.len hk.lt rfl) rtable_any (fun v => rrounds_any key v hk)
  intro x hx
  obtain ⟨i, hi, rfl⟩ := List.getElem_of_mem hx
  have := ht i
  simpa [List.getD, hi] using this

theorem own : ownKnob Try.prog.godebug = none := by kernel_rfl
theorem laidOut : laidOutB Try.prog = true := by kernel_rfl
set_option maxRecDepth 100000 in
theorem lifted (os : Os) (started : os.Started) (H : Type) (enc : TypeId × Value → H) :
    ReturnsInHanded {} Try.checked os 4 .any (Rows.aesRoundsSpec.pre6 enc Try.prog Try.f4 Rows.aesRoundsRow.domain false) (Rows.aesRoundsSpec.post enc Try.prog Try.f4 false true false false) := by
  refine returnsInHanded_of_change (C := Try.checked) own started (by kernel_rfl) Try.func4
    (ChangeSpec.witness6 (enc := enc) (C := Try.checked) false ⟨#[], #[.agg (u8s z16).toArray], []⟩ 8 (by kernel_rfl) (by kernel_rfl) (by kernel_rfl) (by kernel_rfl)) ?_
  intro W base args ds gs before hval0 hW hcnd _
  have hval : ∀ (j : Nat) t v, Try.f4.params[j]? = some t → args[j]? = some v → Value.okWide Try.prog W .any base t v := hval0
  have hW' := hW
  obtain ⟨p, q, hA0, hV, rfl, hfz, hnd⟩ := hW
  have hA : DataW.TrodAll enc Try.prog W 0 (fun _ => true) true Try.f4.params.toList args.toList ds p := hA0
  rw [Try.params4] at hA hval
  obtain ⟨v0, vs0, d0, ds0, p0, q0, hargs, rfl, rfl, h0, r0⟩ := trodAll_cons hA
  obtain ⟨rfl, rfl, rfl⟩ := trodAll_nil r0
  obtain rfl : args = #[v0] := by cases args; simp_all
  obtain ⟨rfl, rfl⟩ := trodVars_none hV
  have k0 := h0
  obtain ⟨x0, rfl, w0, z0⟩ := open_blk (hval 0 26 v0 rfl rfl) h0
  clear hA0 hval0
  refine (walk x0 W w0).mono fun e W' ⟨he, bel⟩ => ?_
  subst he
  exact ⟨_, rfl, _, _, _, [], _, [], hW', trodAll_mk1 (shut_bool Try.underlying4 _), (trodAll_cons_mk (Below.trod laidOut (by kernel_rfl) (of_decide_eq_true (by kernel_rfl)) k0 bel (fun x hx => (z0 x hx).elim)) trodAll_mk0), rfl, bel.frame _, fun h => by cases h⟩

theorem over : Rows.aesRoundsRow.holds Try.pinned (OpenSpec.ofChange Rows.aesRoundsSpec) :=
  OpenClaim.holds_of_wide 4 Try.f4 rfl rfl rfl rfl rfl rfl rfl ⟨rfl, rfl, rfl, rfl, rfl⟩ rfl rfl rfl rfl rfl (by kernel_rfl) Try.func4 (by kernel_rfl)
    (of_decide_eq_true (by kernel_rfl)) (by unfold Func.isWrapper; first | (rw [if_pos (by decide +kernel)]; kernel_rfl) | (rw [if_neg (by decide +kernel)]; exact ⟨rfl, rfl⟩))
    (fun os started H enc _ => lifted os started H enc)

end AesRoundsProof

/-- A key's rounds are the document's. -/
theorem aesRounds_holds : Rows.AesRoundsSaid := AesRoundsProof.over

#print axioms aesRounds_holds
end Go.Proofs.Ytkafnkofanocpaa
