/-
  AesHides: whatever the key and the block, the program's block hidden is the document's, and the known rows come out: the law returns true, and what is handed in stays. No condition.
-/
import Derived.Test.YtkafnkofanocpaaEO
import Derived.Test.YtkafnkofanocpaaRF
namespace Go.Proofs.Ytkafnkofanocpaa
namespace AesHidesProof
open Go.ChangeShapes Go.WideShapes Go.ChangeAt Go.RowKit
set_option linter.unusedVariables false

set_option maxHeartbeats 4000000 in
set_option maxRecDepth 100000 in
theorem walk_in (key b C SW L : List Nat) (w : World) (hk : Blk key) (hb : Blk b) (hC : Blk C) (hSW : SW.length = 256)
    (h1 : ∀ v : World, Calls Try.prog 19 #[.agg (u8s key).toArray, .agg (u8s b).toArray] v fun e w' => e = .returned (.agg (u8s C).toArray) ∧ Below v.heap.size v w')
    (h2 : ∀ v : World, Calls Try.prog 18 #[] v fun e w' => e = .returned (.agg (u8s SW).toArray) ∧ Below v.heap.size v w')
    (h3 : ∀ v : World, Calls Try.prog 17 #[.agg (u8s key).toArray, .agg (u8s SW).toArray] v fun e w' => e = .returned (.agg (u8s L).toArray) ∧ Below v.heap.size v w')
    (h4 : ∀ v : World, Calls Try.prog 20 #[.agg (u8s L).toArray, .agg (u8s SW).toArray, .agg (u8s b).toArray] v fun e w' => e = .returned (.agg (u8s C).toArray) ∧ Below v.heap.size v w') :
    Calls Try.prog 5 #[.agg (u8s key).toArray, .agg (u8s b).toArray] w fun e w' => e = .returned (.bool true) ∧ Below w.heap.size w w' := by
  have H1 := hide h1
  have H2 := hide h2
  have H3 := hide h3
  have H4 := hide h4
  have HE : Hid (∀ v : World, (Op.equalIn 10000 26 (.agg (u8s C).toArray) (.agg (u8s C).toArray)).run Try.prog v = .ok true v) := fun v => by
    have := eq_blk hC hC v
    rwa [decide_eq_true rfl] at this
  have Ikey := hide (szl hk)
  have Ib := hide (szl hb)
  have ISW : Hid ((Try.prog.info? 30).map (·.size) = some (u8s SW).length) := by show _ = _; rw [info256, u8s_length, hSW]
  have IS : Hid ((Try.prog.info? 30).map (·.size) = some (u8s SW).toArray.size) := by show _ = _; rw [info256]; simp [u8s, hSW]
  have IS2 : Hid ((u8s z256).toArray.size = (u8s SW).toArray.size) := by show _ = _; simp [u8s, hSW, z256]
  have OS := hide (one_u8s SW)
  have Z1 := zero256
  have HZ : Hid (Arr ((w.alloc (Obj.cells (u8s key).toArray 26)).alloc (Obj.cells (u8s b).toArray 26)) w.heap.size 26 (u8s key) ∧ Arr ((w.alloc (Obj.cells (u8s key).toArray 26)).alloc (Obj.cells (u8s b).toArray 26)) (w.heap.size + 1) 26 (u8s b) ∧ Below w.heap.size w ((w.alloc (Obj.cells (u8s key).toArray 26)).alloc (Obj.cells (u8s b).toArray 26))) :=
    ⟨(Arr.new w _ (u8s key)).alloc _, Arr.newAt (w.alloc _) _ (u8s b) _ (by simp), ((Below.refl _ _).alloc (Nat.le_refl _) _).alloc (by simp) _⟩
  clear hk hb hC hSW h1 h2 h3 h4
  go_enter Try.func5, Try.ntmps5
  go_wp2_with fail
  refine (H2.out _).mono ?_
  rintro e wt ⟨rfl, hbt⟩
  have HT : Hid (Arr wt w.heap.size 26 (u8s key) ∧ Arr wt (w.heap.size + 1) 26 (u8s b) ∧ Below w.heap.size w wt) := ⟨HZ.out.1.kept hbt, HZ.out.2.1.kept hbt, HZ.out.2.2.trans (hbt.mono HZ.out.2.2.size)⟩
  clear hbt HZ
  go_upto_region 2 with
    (refine wpList_store_row rfl 30 _ _ rfl wt.heap.size (u8s SW).toArray rfl rfl 30 _ (Arr.new wt _ (u8s z256)) IS.out IS2.out OS.out ?_)
  have hlt1 : w.heap.size + 1 < wt.heap.size := HT.out.2.1.lt
  have HU : Hid ((Arr ((wt.alloc (Obj.cells (u8s z256).toArray 30)).setRow wt.heap.size (u8s SW).toArray) w.heap.size 26 (u8s key) ∧ Arr ((wt.alloc (Obj.cells (u8s z256).toArray 30)).setRow wt.heap.size (u8s SW).toArray) (w.heap.size + 1) 26 (u8s b)) ∧ Arr ((wt.alloc (Obj.cells (u8s z256).toArray 30)).setRow wt.heap.size (u8s SW).toArray) wt.heap.size 30 (u8s SW) ∧ Below w.heap.size w ((wt.alloc (Obj.cells (u8s z256).toArray 30)).setRow wt.heap.size (u8s SW).toArray)) :=
    ⟨⟨(HT.out.1.alloc _).rowOther _ _ (by omega), (HT.out.2.1.alloc _).rowOther _ _ (by omega)⟩, (Arr.new wt _ (u8s z256)).row _, below_setRow (HT.out.2.2.alloc HT.out.2.2.size _) HT.out.2.2.size (by simp) _⟩
  clear HT hlt1
  generalize (wt.alloc (Obj.cells (u8s z256).toArray 30)).setRow wt.heap.size (u8s SW).toArray = w2 at *
  generalize wt.heap.size = g at *
  have Lkey : Hid (∀ v : World, Hid (Below w2.heap.size w2 v) → Arr v w.heap.size 26 (u8s key)) := fun v h => HU.out.1.1.kept h.out
  have Lb : Hid (∀ v : World, Hid (Below w2.heap.size w2 v) → Arr v (w.heap.size + 1) 26 (u8s b)) := fun v h => HU.out.1.2.kept h.out
  have LSW : Hid (∀ v : World, Hid (Below w2.heap.size w2 v) → Arr v g 30 (u8s SW)) := fun v h => HU.out.2.1.kept h.out
  have AB := hide HU.out.2.2
  clear HU
  refine wp_region_held_drew (S := fun v => Hid (Below w2.heap.size w2 v)) (by kernel_rfl) (hide (Below.refl w2.heap.size w2).drew) (fun hHeld => ?_)
  refine take_dstH (i := 0) (d := 7) (v := ?_) rfl rfl (by kernel_rfl) (by kernel_rfl) (by kernel_rfl) (fun _ _ _ h => h) (by rfl) hHeld ?_ ?_
  rotate_left
  · intro wZ hSw; refine exec_load_all 26 (.tmp 2) ?_ w.heap.size ?_ 26 (u8s key) _ (Lkey.out wZ hSw) Try.underlying26 rfl Ikey.out <;> rfl
  try simp only [Act.put, List.setIfInBounds_toArray, List.set_cons_zero, List.set_cons_succ]
  refine take_dstH (i := 1) (d := 8) (v := ?_) rfl rfl (by kernel_rfl) (by kernel_rfl) (by kernel_rfl) (fun _ _ _ h => h) (by rfl) hHeld ?_ ?_
  rotate_left
  · intro wZ hSw; refine exec_load_all 26 (.tmp 3) ?_ (w.heap.size + 1) ?_ 26 (u8s b) _ (Lb.out wZ hSw) Try.underlying26 rfl Ib.out <;> rfl
  try simp only [Act.put, List.setIfInBounds_toArray, List.set_cons_zero, List.set_cons_succ]
  refine take_dstH (i := 3) (d := 10) (v := ?_) rfl rfl (by kernel_rfl) (by kernel_rfl) (by kernel_rfl) (fun _ _ _ h => h) (by rfl) hHeld ?_ ?_
  rotate_left
  · intro wZ hSw; refine exec_load_all 26 (.tmp 2) ?_ w.heap.size ?_ 26 (u8s key) _ (Lkey.out wZ hSw) Try.underlying26 rfl Ikey.out <;> rfl
  try simp only [Act.put, List.setIfInBounds_toArray, List.set_cons_zero, List.set_cons_succ]
  refine take_dstH (i := 4) (d := 11) (v := ?_) rfl rfl (by kernel_rfl) (by kernel_rfl) (by kernel_rfl) (fun _ _ _ h => h) (by rfl) hHeld ?_ ?_
  rotate_left
  · intro wZ hSw; refine exec_load_all 30 (.tmp 5) ?_ g ?_ 30 (u8s SW) _ (LSW.out wZ hSw) Try.underlying30 rfl ISW.out <;> rfl
  try simp only [Act.put, List.setIfInBounds_toArray, List.set_cons_zero, List.set_cons_succ]
  refine take_dstH (i := 6) (d := 13) (v := ?_) rfl rfl (by kernel_rfl) (by kernel_rfl) (by kernel_rfl) (fun _ _ _ h => h) (by rfl) hHeld ?_ ?_
  rotate_left
  · intro wZ hSw; refine exec_load_all 30 (.tmp 5) ?_ g ?_ 30 (u8s SW) _ (LSW.out wZ hSw) Try.underlying30 rfl ISW.out <;> rfl
  try simp only [Act.put, List.setIfInBounds_toArray, List.set_cons_zero, List.set_cons_succ]
  refine take_dstH (i := 7) (d := 14) (v := ?_) rfl rfl (by kernel_rfl) (by kernel_rfl) (by kernel_rfl) (fun _ _ _ h => h) (by rfl) hHeld ?_ ?_
  rotate_left
  · intro wZ hSw; refine exec_load_all 26 (.tmp 3) ?_ (w.heap.size + 1) ?_ 26 (u8s b) _ (Lb.out wZ hSw) Try.underlying26 rfl Ib.out <;> rfl
  try simp only [Act.put, List.setIfInBounds_toArray, List.set_cons_zero, List.set_cons_succ]
  refine wpAnyH_ready (rs := [2]) (by kernel_rfl) (by simp) ?_
  refine (AllReadyH.cons rfl (fun K hK => ?_) AllReadyH.nil)
  go_simp
  refine (H1.out _).mono ?_; rintro e waa ⟨rfl, hba⟩; have HBa : Hid (Below w2.heap.size w2 waa) := (Hid.out hHeld).trans (hba.mono (Hid.out hHeld).size); clear hba
  go_wp2_with fail
  refine hK.out _ _ ?_ (fun hHeld => ?_)
  · exact HBa
  clear hK K
  try simp only [Act.put, List.setIfInBounds_toArray, List.set_cons_zero, List.set_cons_succ]
  refine wpAnyH_ready (rs := [5]) (by kernel_rfl) (by simp) ?_
  refine (AllReadyH.cons rfl (fun K hK => ?_) AllReadyH.nil)
  go_simp
  refine (H3.out _).mono ?_; rintro e wab ⟨rfl, hba⟩; have HBb : Hid (Below w2.heap.size w2 wab) := (Hid.out hHeld).trans (hba.mono (Hid.out hHeld).size); clear hba
  go_wp2_with fail
  refine hK.out _ _ ?_ (fun hHeld => ?_)
  · exact HBb
  clear hK K
  try simp only [Act.put, List.setIfInBounds_toArray, List.set_cons_zero, List.set_cons_succ]
  refine wpAnyH_ready (rs := [8]) (by kernel_rfl) (by simp) ?_
  refine (AllReadyH.cons rfl (fun K hK => ?_) AllReadyH.nil)
  go_simp
  refine (H4.out _).mono ?_; rintro e wac ⟨rfl, hba⟩; have HBc : Hid (Below w2.heap.size w2 wac) := (Hid.out hHeld).trans (hba.mono (Hid.out hHeld).size); clear hba
  go_wp2_with fail
  refine hK.out _ _ ?_ (fun hHeld => ?_)
  · exact HBc
  clear hK K
  try simp only [Act.put, List.setIfInBounds_toArray, List.set_cons_zero, List.set_cons_succ]
  refine take_dstH (i := 9) (d := 16) (v := ?_) rfl rfl (by kernel_rfl) (by kernel_rfl) (by kernel_rfl) (fun _ _ _ h => h) (by rfl) hHeld ?_ ?_
  rotate_left
  · intro wZ hSw; refine exec_eql_agg 26 26 (.tmp 9) (.tmp 15) ?_ (u8s C).toArray (u8s C).toArray ?_ ?_ true (guard16 _ _ _ _ _) (HE.out wZ) <;> rfl
  try simp only [Act.put, List.setIfInBounds_toArray, List.set_cons_zero, List.set_cons_succ]
  refine take_dstH (i := 10) (d := 17) (v := ?_) rfl rfl (by kernel_rfl) (by kernel_rfl) (by kernel_rfl) (fun _ _ _ h => h) (by rfl) hHeld ?_ ?_
  rotate_left
  · intro wZ hSw; clear hSw; go_simp; first | (with_reducible rfl) | (rw [if_pos (by omega)]; with_reducible rfl) | skip
  try simp only [Act.put, List.setIfInBounds_toArray, List.set_cons_zero, List.set_cons_succ]
  refine wpAnyH_ready (rs := [11]) (by kernel_rfl) (by simp) ?_
  refine (AllReadyH.cons rfl (fun K hK => ?_) AllReadyH.nil)
  go_simp
  refine (known_any _).mono ?_; rintro e wae ⟨rfl, hba⟩; have HBe : Hid (Below w2.heap.size w2 wae) := (Hid.out hHeld).trans (hba.mono (Hid.out hHeld).size); clear hba
  go_wp2_with fail
  refine hK.out _ _ ?_ (fun hHeld => ?_)
  · exact HBe
  clear hK K
  try simp only [Act.put, List.setIfInBounds_toArray, List.set_cons_zero, List.set_cons_succ]
  refine take_dstH (i := 12) (d := 19) (v := ?_) rfl rfl (by kernel_rfl) (by kernel_rfl) (by kernel_rfl) (fun _ _ _ h => h) (by rfl) hHeld ?_ ?_
  rotate_left
  · intro wZ hSw; clear hSw; go_simp; first | (with_reducible rfl) | (rw [if_pos (by omega)]; with_reducible rfl) | skip
  try simp only [Act.put, List.setIfInBounds_toArray, List.set_cons_zero, List.set_cons_succ]
  refine take_dstH (i := 13) (d := 4) (v := ?_) rfl rfl (by kernel_rfl) (by kernel_rfl) (by kernel_rfl) (fun _ _ _ h => h) (by rfl) hHeld ?_ ?_
  rotate_left
  · intro wZ hSw; clear hSw; go_simp; first | (with_reducible rfl) | (rw [if_pos (by omega)]; with_reducible rfl) | skip
  try simp only [Act.put, List.setIfInBounds_toArray, List.set_cons_zero, List.set_cons_succ]
  refine wpAnyH_done (by kernel_rfl) ?_ _
  all_goals
    go_wp2
    go_ret
    exact ⟨rfl, AB.out.trans (HBe.out.mono AB.out.size)⟩

theorem walk (key b : List Nat) (w : World) (hk : Blk key) (hb : Blk b) :
    Calls Try.prog 5 #[.agg (u8s key).toArray, .agg (u8s b).toArray] w fun e w' => e = .returned (.bool true) ∧ Below w.heap.size w w' :=
  walk_in key b _ swT _ w hk hb (hdF_blk (rd_blk sw_lt hk) hb 10) swT_length (fun v => Hide_of key b _ v hk hb rfl) rtable_any (fun v => rrounds_any key v hk) (fun v => rhide_any key b v hk hb)

theorem own : ownKnob Try.prog.godebug = none := by kernel_rfl
theorem laidOut : laidOutB Try.prog = true := by kernel_rfl
set_option maxRecDepth 100000 in
theorem lifted (os : Os) (started : os.Started) (H : Type) (enc : TypeId × Value → H) :
    ReturnsInHanded {} Try.checked os 5 .any (Rows.aesHidesSpec.pre6 enc Try.prog Try.f5 Rows.aesHidesRow.domain false) (Rows.aesHidesSpec.post enc Try.prog Try.f5 false true false false) := by
  refine returnsInHanded_of_change (C := Try.checked) own started (by kernel_rfl) Try.func5
    (ChangeSpec.witness6 (enc := enc) (C := Try.checked) false ⟨#[], #[.agg (u8s z16).toArray, .agg (u8s z16).toArray], []⟩ 8 (by kernel_rfl) (by kernel_rfl) (by kernel_rfl) (by kernel_rfl)) ?_
  intro W base args ds gs before hval0 hW hcnd _
  have hval : ∀ (j : Nat) t v, Try.f5.params[j]? = some t → args[j]? = some v → Value.okWide Try.prog W .any base t v := hval0
  have hW' := hW
  obtain ⟨p, q, hA0, hV, rfl, hfz, hnd⟩ := hW
  have hA : DataW.TrodAll enc Try.prog W 0 (fun _ => true) true Try.f5.params.toList args.toList ds p := hA0
  rw [Try.params5] at hA hval
  obtain ⟨v0, vs0, d0, ds0, p0, q0, hargs, rfl, rfl, h0, r0⟩ := trodAll_cons hA
  obtain ⟨v1, vs1, d1, ds1, p1, q1, rfl, rfl, rfl, h1, r1⟩ := trodAll_cons r0
  obtain ⟨rfl, rfl, rfl⟩ := trodAll_nil r1
  obtain rfl : args = #[v0, v1] := by cases args; simp_all
  obtain ⟨rfl, rfl⟩ := trodVars_none hV
  have k0 := h0
  obtain ⟨x0, rfl, w0, z0⟩ := open_blk (hval 0 26 v0 rfl rfl) h0
  have k1 := h1
  obtain ⟨x1, rfl, w1, z1⟩ := open_blk (hval 1 26 v1 rfl rfl) h1
  clear hA0 hval0
  refine (walk x0 x1 W w0 w1).mono fun e W' ⟨he, bel⟩ => ?_
  subst he
  exact ⟨_, rfl, _, _, _, [], _, [], hW', trodAll_mk1 (shut_bool Try.underlying4 _), (trodAll_cons_mk (Below.trod laidOut (by kernel_rfl) (of_decide_eq_true (by kernel_rfl)) k0 bel (fun x hx => (z0 x hx).elim)) (trodAll_cons_mk (Below.trod laidOut (by kernel_rfl) (of_decide_eq_true (by kernel_rfl)) k1 bel (fun x hx => (z1 x hx).elim)) trodAll_mk0)), rfl, bel.frame _, fun h => by cases h⟩

theorem over : Rows.aesHidesRow.holds Try.pinned (OpenSpec.ofChange Rows.aesHidesSpec) :=
  OpenClaim.holds_of_wide 5 Try.f5 rfl rfl rfl rfl rfl rfl rfl ⟨rfl, rfl, rfl, rfl, rfl⟩ rfl rfl rfl rfl rfl (by kernel_rfl) Try.func5 (by kernel_rfl)
    (of_decide_eq_true (by kernel_rfl)) (by unfold Func.isWrapper; first | (rw [if_pos (by decide +kernel)]; kernel_rfl) | (rw [if_neg (by decide +kernel)]; exact ⟨rfl, rfl⟩))
    (fun os started H enc _ => lifted os started H enc)

end AesHidesProof

/-- A block hidden under a key is the document's. -/
theorem aesHides_holds : Rows.AesHidesSaid := AesHidesProof.over

#print axioms aesHides_holds
end Go.Proofs.Ytkafnkofanocpaa
