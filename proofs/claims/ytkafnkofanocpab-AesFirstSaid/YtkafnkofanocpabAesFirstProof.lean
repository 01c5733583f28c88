/-
  AesFirst: whatever the two keys, the first round of each is the key, their rounds are the same, one by one, just where the keys are, and the known rows come out: the law returns true, and what is handed in stays. No condition.
-/
import Derived.Test.YtkafnkofanocpabEO
import Derived.Test.YtkafnkofanocpabEQ
namespace Go.Proofs.Ytkafnkofanocpab
namespace AesFirstProof
open Go.ChangeShapes Go.WideShapes Go.ChangeAt Go.RowKit
set_option linter.unusedVariables false

theorem mk_new {B : Nat} {w0 wX : World} {vs : List Value} {t : TypeId} (_h : Hid (Below B w0 (wX.alloc (Obj.cells vs.toArray t)))) : Hid (Arr (wX.alloc (Obj.cells vs.toArray t)) wX.heap.size t vs) := Arr.new wX t vs
theorem mk_old {B : Nat} {w0 wX : World} {o : Obj} {g : Nat} {vs : List Value} {t : TypeId} (_h : Hid (Below B w0 (wX.alloc o))) (k : Hid (Arr wX g t vs)) : Hid (Arr (wX.alloc o) g t vs) := k.out.alloc o

/-- what lies in memory behind the two keys' rounds -/
structure StF (w wr : World) (g5 g6 : Nat) (a b LA LB : List Nat) : Prop where
  ka : Arr wr w.heap.size 25 (u8s a)
  kb : Arr wr (w.heap.size + 1) 25 (u8s b)
  la : Arr wr g5 26 (u8s LA)
  lb : Arr wr g6 26 (u8s LB)
  bl : Below w.heap.size w wr
theorem StF.drew {w wr : World} {g5 g6 : Nat} {a b LA LB : List Nat} (r : StF w wr g5 g6 a b LA LB) : StF w wr.drew g5 g6 a b LA LB := ⟨r.ka, r.kb, r.la, r.lb, r.bl.drew⟩
theorem row_range {wr : World} {g : Nat} {f : Nat → List Nat} (r : Arr wr g 26 (u8s (flF f 11))) (hf : ∀ j, (f j).length = 16) (k : Nat) (hk : k < 11) : wr.rangeAt g (k * 16) (u8s (f k)) := fun t x hx => by
  have ht : t < 16 := by have := (List.getElem?_eq_some_iff.1 hx).1; rwa [u8s_length, hf] at this
  rw [r.cell, ← hx, Nat.mul_comm k 16]
  simp only [u8s, List.getElem?_map, flF_row hf k t ht 11 hk]

set_option maxHeartbeats 8000000 in
set_option maxRecDepth 100000 in
theorem walk_in (a b LA LB : List Nat) (f h : Nat → List Nat) (r : Bool) (w : World) (ha : Blk a) (hb : Blk b) (hf : ∀ j, Blk (f j)) (hh : ∀ j, Blk (h j)) (hLA : LA = flF f 11) (hLB : LB = flF h 11) (hf0 : f 0 = a) (hh0 : h 0 = b)
    (hr : decide (a = b) = r) (hfr : ∀ j, decide (f j = h j) = r)
    (h1 : ∀ v : World, Calls Try.prog 7 #[.agg (u8s a).toArray] v fun e w' => e = .returned (.agg (u8s LA).toArray) ∧ Below v.heap.size v w')
    (h2 : ∀ v : World, Calls Try.prog 7 #[.agg (u8s b).toArray] v fun e w' => e = .returned (.agg (u8s LB).toArray) ∧ Below v.heap.size v w') :
    Calls Try.prog 4 #[.agg (u8s a).toArray, .agg (u8s b).toArray] w fun e w' => e = .returned (.bool true) ∧ Below w.heap.size w w' := by
  have lA : LA.length = 176 := by rw [hLA, flF_length (fun j => (hf j).len)]
  have lB : LB.length = 176 := by rw [hLB, flF_length (fun j => (hh j).len)]
  have H1 := hide h1
  have H2 := hide h2
  have hrn : (r != r) = false := by simp
  have Ia := hide (szl ha)
  have Ib := hide (szl hb)
  have HF := hide hf
  have HH := hide hh
  have EA : Hid (∀ v : World, (Op.equalIn 10000 25 (.agg (u8s a).toArray) (.agg (u8s a).toArray)).run Try.prog v = .ok true v) := fun v => by
    have := eq_blk ha ha v
    rwa [decide_eq_true rfl] at this
  have EB : Hid (∀ v : World, (Op.equalIn 10000 25 (.agg (u8s b).toArray) (.agg (u8s b).toArray)).run Try.prog v = .ok true v) := fun v => by
    have := eq_blk hb hb v
    rwa [decide_eq_true rfl] at this
  have E0 : Hid (∀ v : World, (Op.equalIn 10000 25 (.agg (u8s a).toArray) (.agg (u8s b).toArray)).run Try.prog v = .ok r v) := fun v => by rw [← hr]; exact eq_blk ha hb v
  have EJ : Hid (∀ (j : Nat) (v : World), (Op.equalIn 10000 25 (.agg (u8s (f j)).toArray) (.agg (u8s (h j)).toArray)).run Try.prog v = .ok r v) := fun j v => by rw [← hfr j]; exact eq_blk (hf j) (hh j) v
  have TA1 : Hid ((Try.prog.info? 26).map (·.size) = some (u8s LA).toArray.size) := by show _ = _; rw [info176]; simp [u8s, lA]
  have TA2 : Hid ((u8s z176).toArray.size = (u8s LA).toArray.size) := by show _ = _; simp [u8s, lA, z176]
  have OA := hide (one_u8s LA)
  have TB1 : Hid ((Try.prog.info? 26).map (·.size) = some (u8s LB).toArray.size) := by show _ = _; rw [info176]; simp [u8s, lB]
  have TB2 : Hid ((u8s z176).toArray.size = (u8s LB).toArray.size) := by show _ = _; simp [u8s, lB, z176]
  have OB := hide (one_u8s LB)
  have Z1 := zero176
  have RA : Hid (∀ (v : World) (g5 g6 j : Nat), StF w v g5 g6 a b LA LB → j < 11 → v.rangeAt g5 (j * 16) (u8s (f j))) := fun v g5 g6 j s hj => row_range (by have := s.la; rwa [hLA] at this) (fun j => (hf j).len) j hj
  have RB : Hid (∀ (v : World) (g5 g6 j : Nat), StF w v g5 g6 a b LA LB → j < 11 → v.rangeAt g6 (j * 16) (u8s (h j))) := fun v g5 g6 j s hj => row_range (by have := s.lb; rwa [hLB] at this) (fun j => (hh j).len) j hj
  have RA0 : Hid (∀ (v : World) (g5 g6 : Nat), StF w v g5 g6 a b LA LB → v.rangeAt g5 (0 * 16) (u8s a)) := fun v g5 g6 s => by have := RA.out v g5 g6 0 s (by omega); rwa [hf0] at this
  have RB0 : Hid (∀ (v : World) (g5 g6 : Nat), StF w v g5 g6 a b LA LB → v.rangeAt g6 (0 * 16) (u8s b)) := fun v g5 g6 s => by have := RB.out v g5 g6 0 s (by omega); rwa [hh0] at this
  have La : Hid (∀ v : World, Hid (Below ((w.alloc (Obj.cells (u8s a).toArray 25)).alloc (Obj.cells (u8s b).toArray 25)).heap.size ((w.alloc (Obj.cells (u8s a).toArray 25)).alloc (Obj.cells (u8s b).toArray 25)) v) → Arr v w.heap.size 25 (u8s a)) := fun v h => ((Arr.new w _ (u8s a)).alloc _).kept h.out
  have Lb : Hid (∀ v : World, Hid (Below ((w.alloc (Obj.cells (u8s a).toArray 25)).alloc (Obj.cells (u8s b).toArray 25)).heap.size ((w.alloc (Obj.cells (u8s a).toArray 25)).alloc (Obj.cells (u8s b).toArray 25)) v) → Arr v (w.heap.size + 1) 25 (u8s b)) := fun v h => (Arr.newAt (w.alloc _) _ (u8s b) _ (by simp)).kept h.out
  have AB : Hid (Below w.heap.size w ((w.alloc (Obj.cells (u8s a).toArray 25)).alloc (Obj.cells (u8s b).toArray 25))) := ((Below.refl _ _).alloc (Nat.le_refl _) _).alloc (by simp) _
  clear ha hb hf hh hLA hLB hf0 hh0 hr hfr h1 h2 lA lB
  generalize hW1 : (w.alloc (Obj.cells (u8s a).toArray 25)).alloc (Obj.cells (u8s b).toArray 25) = w1 at *
  go_enter Try.func4, Try.ntmps4
  go_upto_region 1 with fail
  try rw [hW1]
  clear hW1
  go_cut [5, 6] (fun s5 s6 wc => ∃ g5 g6, s5 = .pointer (some ⟨g5, 0, none⟩) ∧ s6 = .pointer (some ⟨g6, 0, none⟩) ∧ Hid (StF w wc g5 g6 a b LA LB))
  case first =>
    refine wp_region_held_drew (S := fun v => Hid (Below w1.heap.size w1 v)) (by kernel_rfl) (hide (Below.refl w1.heap.size w1).drew) (fun hHeld => ?_)
    generalize World.drew w1 = wD at *
    refine take_dstH (i := 0) (d := 8) (v := ?_) rfl rfl (by kernel_rfl) (by kernel_rfl) (by kernel_rfl) (fun _ _ _ h => h) (by rfl) hHeld ?_ ?_
    rotate_left
    · intro wZ hSw; refine exec_load_all 25 (.tmp 2) ?_ w.heap.size ?_ 25 (u8s a) _ (La.out wZ hSw) Try.underlying25 rfl Ia.out <;> rfl
    try simp only [Act.put, List.setIfInBounds_toArray, List.set_cons_zero, List.set_cons_succ]
    refine take_dstH (i := 2) (d := 10) (v := ?_) rfl rfl (by kernel_rfl) (by kernel_rfl) (by kernel_rfl) (fun _ _ _ h => h) (by rfl) hHeld ?_ ?_
    rotate_left
    · intro wZ hSw; refine exec_load_all 25 (.tmp 3) ?_ (w.heap.size + 1) ?_ 25 (u8s b) _ (Lb.out wZ hSw) Try.underlying25 rfl Ib.out <;> rfl
    try simp only [Act.put, List.setIfInBounds_toArray, List.set_cons_zero, List.set_cons_succ]
    refine wpAnyH_ready (rs := [1, 4, 5]) (by kernel_rfl) (by simp) ?_
    refine (AllReadyH.cons rfl (fun K hK => ?_) (AllReadyH.cons rfl (fun K hK => ?_) (AllReadyH.cons rfl (fun K hK => ?_) AllReadyH.nil)))
    focus
      go_simp
      refine (H1.out _).mono ?_; rintro e wa ⟨rfl, hba⟩; have HBa : Hid (Below w1.heap.size w1 wa) := (Hid.out hHeld).trans (hba.mono (Hid.out hHeld).size); (try (replace P5 := hide ((Hid.out P5).kept hba))); (try (replace P6 := hide ((Hid.out P6).kept hba))); clear hba
      go_wp2_with fail
      refine hK.out _ _ ?_ (fun hHeld => ?_)
      · exact HBa
      clear hK K
      try simp only [Act.put, List.setIfInBounds_toArray, List.set_cons_zero, List.set_cons_succ]
      refine wpAnyH_ready (rs := [3, 4, 5]) (by kernel_rfl) (by simp) ?_
      refine (AllReadyH.cons rfl (fun K hK => ?_) (AllReadyH.cons rfl (fun K hK => ?_) (AllReadyH.cons rfl (fun K hK => ?_) AllReadyH.nil)))
      focus
        go_simp
        refine (H2.out _).mono ?_; rintro e wb ⟨rfl, hbb⟩; have HBb : Hid (Below w1.heap.size w1 wb) := (Hid.out hHeld).trans (hbb.mono (Hid.out hHeld).size); (try (replace P5 := hide ((Hid.out P5).kept hbb))); (try (replace P6 := hide ((Hid.out P6).kept hbb))); clear hbb
        go_wp2_with fail
        refine hK.out _ _ ?_ (fun hHeld => ?_)
        · exact HBb
        clear hK K
        try simp only [Act.put, List.setIfInBounds_toArray, List.set_cons_zero, List.set_cons_succ]
        refine wpAnyH_ready (rs := [4, 5]) (by kernel_rfl) (by simp) ?_
        refine (AllReadyH.cons rfl (fun K hK => ?_) (AllReadyH.cons rfl (fun K hK => ?_) AllReadyH.nil))
        focus
          go_simp
          have G5 := hide (Hid.out hHeld).size; (try (have NE := hide (Ne.symm (Nat.ne_of_lt (Hid.out P6).lt))))
          go_wp2_with fail
          refine hK.out _ _ ?_ (fun hHeld => ?_)
          · exact (Hid.out hHeld).alloc (Hid.out hHeld).size _
          clear hK K
          (try (replace P6 := mk_old hHeld P6)); have P5 := mk_new hHeld; generalize World.alloc _ (Obj.cells (u8s z176).toArray 26) = wN at *
          try simp only [Act.put, List.setIfInBounds_toArray, List.set_cons_zero, List.set_cons_succ]
          refine wpAnyH_ready (rs := [5]) (by kernel_rfl) (by simp) ?_
          refine (AllReadyH.cons rfl (fun K hK => ?_) AllReadyH.nil)
          go_simp
          have G6 := hide (Hid.out hHeld).size; (try (have NE := hide (Nat.ne_of_lt (Hid.out P5).lt)))
          go_wp2_with fail
          refine hK.out _ _ ?_ (fun hHeld => ?_)
          · exact (Hid.out hHeld).alloc (Hid.out hHeld).size _
          clear hK K
          (try (replace P5 := mk_old hHeld P5)); have P6 := mk_new hHeld; generalize World.alloc _ (Obj.cells (u8s z176).toArray 26) = wM at *
          try simp only [Act.put, List.setIfInBounds_toArray, List.set_cons_zero, List.set_cons_succ]
          refine wpAnyH_ready (rs := [6]) (by kernel_rfl) (by simp) ?_
          refine (AllReadyH.cons rfl (fun K hK => ?_) AllReadyH.nil)
          refine wp_store_dst rfl 26 (.tmp 5) (.tmp 9) rfl _ _ rfl rfl 26 _ (Hid.out P5) TA1.out TA2.out OA.out ?_
          refine hK.out _ _ ?_ (fun hHeld => ?_)
          · exact hide (below_setRow (Hid.out hHeld) G5.out (Hid.out P5).lt _)
          clear hK K
          have Q5 := hide ((Hid.out P5).row (u8s LA).toArray); have Q6 := hide ((Hid.out P6).rowOther _ (u8s LA).toArray (Ne.symm NE.out)); clear P5 P6
          try simp only [Act.put, List.setIfInBounds_toArray, List.set_cons_zero, List.set_cons_succ]
          refine wpAnyH_ready (rs := [7]) (by kernel_rfl) (by simp) ?_
          refine (AllReadyH.cons rfl (fun K hK => ?_) AllReadyH.nil)
          refine wp_store_dst rfl 26 (.tmp 6) (.tmp 11) rfl _ _ rfl rfl 26 _ (Hid.out Q6) TB1.out TB2.out OB.out ?_
          refine hK.out _ _ ?_ (fun hHeld => ?_)
          · exact hide (below_setRow (Hid.out hHeld) G6.out (Hid.out Q6).lt _)
          clear hK K
          have R6 := hide ((Hid.out Q6).row (u8s LB).toArray); have R5 := hide ((Hid.out Q5).rowOther _ (u8s LB).toArray NE.out); clear Q5 Q6
          try simp only [Act.put, List.setIfInBounds_toArray, List.set_cons_zero, List.set_cons_succ]
          refine wpAnyH_done (by kernel_rfl) ?_ _
        rotate_left 1
        focus
          go_simp
          have G6 := hide (Hid.out hHeld).size; (try (have NE := hide (Nat.ne_of_lt (Hid.out P5).lt)))
          go_wp2_with fail
          refine hK.out _ _ ?_ (fun hHeld => ?_)
          · exact (Hid.out hHeld).alloc (Hid.out hHeld).size _
          clear hK K
          (try (replace P5 := mk_old hHeld P5)); have P6 := mk_new hHeld; generalize World.alloc _ (Obj.cells (u8s z176).toArray 26) = wM at *
          try simp only [Act.put, List.setIfInBounds_toArray, List.set_cons_zero, List.set_cons_succ]
          refine wpAnyH_ready (rs := [4]) (by kernel_rfl) (by simp) ?_
          refine (AllReadyH.cons rfl (fun K hK => ?_) AllReadyH.nil)
          go_simp
          have G5 := hide (Hid.out hHeld).size; (try (have NE := hide (Ne.symm (Nat.ne_of_lt (Hid.out P6).lt))))
          go_wp2_with fail
          refine hK.out _ _ ?_ (fun hHeld => ?_)
          · exact (Hid.out hHeld).alloc (Hid.out hHeld).size _
          clear hK K
          (try (replace P6 := mk_old hHeld P6)); have P5 := mk_new hHeld; generalize World.alloc _ (Obj.cells (u8s z176).toArray 26) = wN at *
          try simp only [Act.put, List.setIfInBounds_toArray, List.set_cons_zero, List.set_cons_succ]
          refine wpAnyH_ready (rs := [6]) (by kernel_rfl) (by simp) ?_
          refine (AllReadyH.cons rfl (fun K hK => ?_) AllReadyH.nil)
          refine wp_store_dst rfl 26 (.tmp 5) (.tmp 9) rfl _ _ rfl rfl 26 _ (Hid.out P5) TA1.out TA2.out OA.out ?_
          refine hK.out _ _ ?_ (fun hHeld => ?_)
          · exact hide (below_setRow (Hid.out hHeld) G5.out (Hid.out P5).lt _)
          clear hK K
          have Q5 := hide ((Hid.out P5).row (u8s LA).toArray); have Q6 := hide ((Hid.out P6).rowOther _ (u8s LA).toArray (Ne.symm NE.out)); clear P5 P6
          try simp only [Act.put, List.setIfInBounds_toArray, List.set_cons_zero, List.set_cons_succ]
          refine wpAnyH_ready (rs := [7]) (by kernel_rfl) (by simp) ?_
          refine (AllReadyH.cons rfl (fun K hK => ?_) AllReadyH.nil)
          refine wp_store_dst rfl 26 (.tmp 6) (.tmp 11) rfl _ _ rfl rfl 26 _ (Hid.out Q6) TB1.out TB2.out OB.out ?_
          refine hK.out _ _ ?_ (fun hHeld => ?_)
          · exact hide (below_setRow (Hid.out hHeld) G6.out (Hid.out Q6).lt _)
          clear hK K
          have R6 := hide ((Hid.out Q6).row (u8s LB).toArray); have R5 := hide ((Hid.out Q5).rowOther _ (u8s LB).toArray NE.out); clear Q5 Q6
          try simp only [Act.put, List.setIfInBounds_toArray, List.set_cons_zero, List.set_cons_succ]
          refine wpAnyH_done (by kernel_rfl) ?_ _
      rotate_left 2
      focus
        go_simp
        have G5 := hide (Hid.out hHeld).size; (try (have NE := hide (Ne.symm (Nat.ne_of_lt (Hid.out P6).lt))))
        go_wp2_with fail
        refine hK.out _ _ ?_ (fun hHeld => ?_)
        · exact (Hid.out hHeld).alloc (Hid.out hHeld).size _
        clear hK K
        (try (replace P6 := mk_old hHeld P6)); have P5 := mk_new hHeld; generalize World.alloc _ (Obj.cells (u8s z176).toArray 26) = wN at *
        try simp only [Act.put, List.setIfInBounds_toArray, List.set_cons_zero, List.set_cons_succ]
        refine wpAnyH_ready (rs := [3, 5]) (by kernel_rfl) (by simp) ?_
        refine (AllReadyH.cons rfl (fun K hK => ?_) (AllReadyH.cons rfl (fun K hK => ?_) AllReadyH.nil))
        focus
          go_simp
          refine (H2.out _).mono ?_; rintro e wb ⟨rfl, hbb⟩; have HBb : Hid (Below w1.heap.size w1 wb) := (Hid.out hHeld).trans (hbb.mono (Hid.out hHeld).size); (try (replace P5 := hide ((Hid.out P5).kept hbb))); (try (replace P6 := hide ((Hid.out P6).kept hbb))); clear hbb
          go_wp2_with fail
          refine hK.out _ _ ?_ (fun hHeld => ?_)
          · exact HBb
          clear hK K
          try simp only [Act.put, List.setIfInBounds_toArray, List.set_cons_zero, List.set_cons_succ]
          refine wpAnyH_ready (rs := [5]) (by kernel_rfl) (by simp) ?_
          refine (AllReadyH.cons rfl (fun K hK => ?_) AllReadyH.nil)
          go_simp
          have G6 := hide (Hid.out hHeld).size; (try (have NE := hide (Nat.ne_of_lt (Hid.out P5).lt)))
          go_wp2_with fail
          refine hK.out _ _ ?_ (fun hHeld => ?_)
          · exact (Hid.out hHeld).alloc (Hid.out hHeld).size _
          clear hK K
          (try (replace P5 := mk_old hHeld P5)); have P6 := mk_new hHeld; generalize World.alloc _ (Obj.cells (u8s z176).toArray 26) = wM at *
          try simp only [Act.put, List.setIfInBounds_toArray, List.set_cons_zero, List.set_cons_succ]
          refine wpAnyH_ready (rs := [6]) (by kernel_rfl) (by simp) ?_
          refine (AllReadyH.cons rfl (fun K hK => ?_) AllReadyH.nil)
          refine wp_store_dst rfl 26 (.tmp 5) (.tmp 9) rfl _ _ rfl rfl 26 _ (Hid.out P5) TA1.out TA2.out OA.out ?_
          refine hK.out _ _ ?_ (fun hHeld => ?_)
          · exact hide (below_setRow (Hid.out hHeld) G5.out (Hid.out P5).lt _)
          clear hK K
          have Q5 := hide ((Hid.out P5).row (u8s LA).toArray); have Q6 := hide ((Hid.out P6).rowOther _ (u8s LA).toArray (Ne.symm NE.out)); clear P5 P6
          try simp only [Act.put, List.setIfInBounds_toArray, List.set_cons_zero, List.set_cons_succ]
          refine wpAnyH_ready (rs := [7]) (by kernel_rfl) (by simp) ?_
          refine (AllReadyH.cons rfl (fun K hK => ?_) AllReadyH.nil)
          refine wp_store_dst rfl 26 (.tmp 6) (.tmp 11) rfl _ _ rfl rfl 26 _ (Hid.out Q6) TB1.out TB2.out OB.out ?_
          refine hK.out _ _ ?_ (fun hHeld => ?_)
          · exact hide (below_setRow (Hid.out hHeld) G6.out (Hid.out Q6).lt _)
          clear hK K
          have R6 := hide ((Hid.out Q6).row (u8s LB).toArray); have R5 := hide ((Hid.out Q5).rowOther _ (u8s LB).toArray NE.out); clear Q5 Q6
          try simp only [Act.put, List.setIfInBounds_toArray, List.set_cons_zero, List.set_cons_succ]
          refine wpAnyH_done (by kernel_rfl) ?_ _
        rotate_left 1
        focus
          go_simp
          have G6 := hide (Hid.out hHeld).size; (try (have NE := hide (Nat.ne_of_lt (Hid.out P5).lt)))
          go_wp2_with fail
          refine hK.out _ _ ?_ (fun hHeld => ?_)
          · exact (Hid.out hHeld).alloc (Hid.out hHeld).size _
          clear hK K
          (try (replace P5 := mk_old hHeld P5)); have P6 := mk_new hHeld; generalize World.alloc _ (Obj.cells (u8s z176).toArray 26) = wM at *
          try simp only [Act.put, List.setIfInBounds_toArray, List.set_cons_zero, List.set_cons_succ]
          refine wpAnyH_ready (rs := [3]) (by kernel_rfl) (by simp) ?_
          refine (AllReadyH.cons rfl (fun K hK => ?_) AllReadyH.nil)
          go_simp
          refine (H2.out _).mono ?_; rintro e wb ⟨rfl, hbb⟩; have HBb : Hid (Below w1.heap.size w1 wb) := (Hid.out hHeld).trans (hbb.mono (Hid.out hHeld).size); (try (replace P5 := hide ((Hid.out P5).kept hbb))); (try (replace P6 := hide ((Hid.out P6).kept hbb))); clear hbb
          go_wp2_with fail
          refine hK.out _ _ ?_ (fun hHeld => ?_)
          · exact HBb
          clear hK K
          try simp only [Act.put, List.setIfInBounds_toArray, List.set_cons_zero, List.set_cons_succ]
          refine wpAnyH_ready (rs := [6]) (by kernel_rfl) (by simp) ?_
          refine (AllReadyH.cons rfl (fun K hK => ?_) AllReadyH.nil)
          refine wp_store_dst rfl 26 (.tmp 5) (.tmp 9) rfl _ _ rfl rfl 26 _ (Hid.out P5) TA1.out TA2.out OA.out ?_
          refine hK.out _ _ ?_ (fun hHeld => ?_)
          · exact hide (below_setRow (Hid.out hHeld) G5.out (Hid.out P5).lt _)
          clear hK K
          have Q5 := hide ((Hid.out P5).row (u8s LA).toArray); have Q6 := hide ((Hid.out P6).rowOther _ (u8s LA).toArray (Ne.symm NE.out)); clear P5 P6
          try simp only [Act.put, List.setIfInBounds_toArray, List.set_cons_zero, List.set_cons_succ]
          refine wpAnyH_ready (rs := [7]) (by kernel_rfl) (by simp) ?_
          refine (AllReadyH.cons rfl (fun K hK => ?_) AllReadyH.nil)
          refine wp_store_dst rfl 26 (.tmp 6) (.tmp 11) rfl _ _ rfl rfl 26 _ (Hid.out Q6) TB1.out TB2.out OB.out ?_
          refine hK.out _ _ ?_ (fun hHeld => ?_)
          · exact hide (below_setRow (Hid.out hHeld) G6.out (Hid.out Q6).lt _)
          clear hK K
          have R6 := hide ((Hid.out Q6).row (u8s LB).toArray); have R5 := hide ((Hid.out Q5).rowOther _ (u8s LB).toArray NE.out); clear Q5 Q6
          try simp only [Act.put, List.setIfInBounds_toArray, List.set_cons_zero, List.set_cons_succ]
          refine wpAnyH_done (by kernel_rfl) ?_ _
      rotate_left 2
      focus
        go_simp
        have G6 := hide (Hid.out hHeld).size; (try (have NE := hide (Nat.ne_of_lt (Hid.out P5).lt)))
        go_wp2_with fail
        refine hK.out _ _ ?_ (fun hHeld => ?_)
        · exact (Hid.out hHeld).alloc (Hid.out hHeld).size _
        clear hK K
        (try (replace P5 := mk_old hHeld P5)); have P6 := mk_new hHeld; generalize World.alloc _ (Obj.cells (u8s z176).toArray 26) = wM at *
        try simp only [Act.put, List.setIfInBounds_toArray, List.set_cons_zero, List.set_cons_succ]
        refine wpAnyH_ready (rs := [3, 4]) (by kernel_rfl) (by simp) ?_
        refine (AllReadyH.cons rfl (fun K hK => ?_) (AllReadyH.cons rfl (fun K hK => ?_) AllReadyH.nil))
        focus
          go_simp
          refine (H2.out _).mono ?_; rintro e wb ⟨rfl, hbb⟩; have HBb : Hid (Below w1.heap.size w1 wb) := (Hid.out hHeld).trans (hbb.mono (Hid.out hHeld).size); (try (replace P5 := hide ((Hid.out P5).kept hbb))); (try (replace P6 := hide ((Hid.out P6).kept hbb))); clear hbb
          go_wp2_with fail
          refine hK.out _ _ ?_ (fun hHeld => ?_)
          · exact HBb
          clear hK K
          try simp only [Act.put, List.setIfInBounds_toArray, List.set_cons_zero, List.set_cons_succ]
          refine wpAnyH_ready (rs := [4]) (by kernel_rfl) (by simp) ?_
          refine (AllReadyH.cons rfl (fun K hK => ?_) AllReadyH.nil)
          go_simp
          have G5 := hide (Hid.out hHeld).size; (try (have NE := hide (Ne.symm (Nat.ne_of_lt (Hid.out P6).lt))))
          go_wp2_with fail
          refine hK.out _ _ ?_ (fun hHeld => ?_)
          · exact (Hid.out hHeld).alloc (Hid.out hHeld).size _
          clear hK K
          (try (replace P6 := mk_old hHeld P6)); have P5 := mk_new hHeld; generalize World.alloc _ (Obj.cells (u8s z176).toArray 26) = wN at *
          try simp only [Act.put, List.setIfInBounds_toArray, List.set_cons_zero, List.set_cons_succ]
          refine wpAnyH_ready (rs := [6]) (by kernel_rfl) (by simp) ?_
          refine (AllReadyH.cons rfl (fun K hK => ?_) AllReadyH.nil)
          refine wp_store_dst rfl 26 (.tmp 5) (.tmp 9) rfl _ _ rfl rfl 26 _ (Hid.out P5) TA1.out TA2.out OA.out ?_
          refine hK.out _ _ ?_ (fun hHeld => ?_)
          · exact hide (below_setRow (Hid.out hHeld) G5.out (Hid.out P5).lt _)
          clear hK K
          have Q5 := hide ((Hid.out P5).row (u8s LA).toArray); have Q6 := hide ((Hid.out P6).rowOther _ (u8s LA).toArray (Ne.symm NE.out)); clear P5 P6
          try simp only [Act.put, List.setIfInBounds_toArray, List.set_cons_zero, List.set_cons_succ]
          refine wpAnyH_ready (rs := [7]) (by kernel_rfl) (by simp) ?_
          refine (AllReadyH.cons rfl (fun K hK => ?_) AllReadyH.nil)
          refine wp_store_dst rfl 26 (.tmp 6) (.tmp 11) rfl _ _ rfl rfl 26 _ (Hid.out Q6) TB1.out TB2.out OB.out ?_
          refine hK.out _ _ ?_ (fun hHeld => ?_)
          · exact hide (below_setRow (Hid.out hHeld) G6.out (Hid.out Q6).lt _)
          clear hK K
          have R6 := hide ((Hid.out Q6).row (u8s LB).toArray); have R5 := hide ((Hid.out Q5).rowOther _ (u8s LB).toArray NE.out); clear Q5 Q6
          try simp only [Act.put, List.setIfInBounds_toArray, List.set_cons_zero, List.set_cons_succ]
          refine wpAnyH_done (by kernel_rfl) ?_ _
        rotate_left 1
        focus
          go_simp
          have G5 := hide (Hid.out hHeld).size; (try (have NE := hide (Ne.symm (Nat.ne_of_lt (Hid.out P6).lt))))
          go_wp2_with fail
          refine hK.out _ _ ?_ (fun hHeld => ?_)
          · exact (Hid.out hHeld).alloc (Hid.out hHeld).size _
          clear hK K
          (try (replace P6 := mk_old hHeld P6)); have P5 := mk_new hHeld; generalize World.alloc _ (Obj.cells (u8s z176).toArray 26) = wN at *
          try simp only [Act.put, List.setIfInBounds_toArray, List.set_cons_zero, List.set_cons_succ]
          refine wpAnyH_ready (rs := [3]) (by kernel_rfl) (by simp) ?_
          refine (AllReadyH.cons rfl (fun K hK => ?_) AllReadyH.nil)
          go_simp
          refine (H2.out _).mono ?_; rintro e wb ⟨rfl, hbb⟩; have HBb : Hid (Below w1.heap.size w1 wb) := (Hid.out hHeld).trans (hbb.mono (Hid.out hHeld).size); (try (replace P5 := hide ((Hid.out P5).kept hbb))); (try (replace P6 := hide ((Hid.out P6).kept hbb))); clear hbb
          go_wp2_with fail
          refine hK.out _ _ ?_ (fun hHeld => ?_)
          · exact HBb
          clear hK K
          try simp only [Act.put, List.setIfInBounds_toArray, List.set_cons_zero, List.set_cons_succ]
          refine wpAnyH_ready (rs := [6]) (by kernel_rfl) (by simp) ?_
          refine (AllReadyH.cons rfl (fun K hK => ?_) AllReadyH.nil)
          refine wp_store_dst rfl 26 (.tmp 5) (.tmp 9) rfl _ _ rfl rfl 26 _ (Hid.out P5) TA1.out TA2.out OA.out ?_
          refine hK.out _ _ ?_ (fun hHeld => ?_)
          · exact hide (below_setRow (Hid.out hHeld) G5.out (Hid.out P5).lt _)
          clear hK K
          have Q5 := hide ((Hid.out P5).row (u8s LA).toArray); have Q6 := hide ((Hid.out P6).rowOther _ (u8s LA).toArray (Ne.symm NE.out)); clear P5 P6
          try simp only [Act.put, List.setIfInBounds_toArray, List.set_cons_zero, List.set_cons_succ]
          refine wpAnyH_ready (rs := [7]) (by kernel_rfl) (by simp) ?_
          refine (AllReadyH.cons rfl (fun K hK => ?_) AllReadyH.nil)
          refine wp_store_dst rfl 26 (.tmp 6) (.tmp 11) rfl _ _ rfl rfl 26 _ (Hid.out Q6) TB1.out TB2.out OB.out ?_
          refine hK.out _ _ ?_ (fun hHeld => ?_)
          · exact hide (below_setRow (Hid.out hHeld) G6.out (Hid.out Q6).lt _)
          clear hK K
          have R6 := hide ((Hid.out Q6).row (u8s LB).toArray); have R5 := hide ((Hid.out Q5).rowOther _ (u8s LB).toArray NE.out); clear Q5 Q6
          try simp only [Act.put, List.setIfInBounds_toArray, List.set_cons_zero, List.set_cons_succ]
          refine wpAnyH_done (by kernel_rfl) ?_ _
    rotate_left 6
    focus
      go_simp
      have G5 := hide (Hid.out hHeld).size; (try (have NE := hide (Ne.symm (Nat.ne_of_lt (Hid.out P6).lt))))
      go_wp2_with fail
      refine hK.out _ _ ?_ (fun hHeld => ?_)
      · exact (Hid.out hHeld).alloc (Hid.out hHeld).size _
      clear hK K
      (try (replace P6 := mk_old hHeld P6)); have P5 := mk_new hHeld; generalize World.alloc _ (Obj.cells (u8s z176).toArray 26) = wN at *
      try simp only [Act.put, List.setIfInBounds_toArray, List.set_cons_zero, List.set_cons_succ]
      refine wpAnyH_ready (rs := [1, 5]) (by kernel_rfl) (by simp) ?_
      refine (AllReadyH.cons rfl (fun K hK => ?_) (AllReadyH.cons rfl (fun K hK => ?_) AllReadyH.nil))
      focus
        go_simp
        refine (H1.out _).mono ?_; rintro e wa ⟨rfl, hba⟩; have HBa : Hid (Below w1.heap.size w1 wa) := (Hid.out hHeld).trans (hba.mono (Hid.out hHeld).size); (try (replace P5 := hide ((Hid.out P5).kept hba))); (try (replace P6 := hide ((Hid.out P6).kept hba))); clear hba
        go_wp2_with fail
        refine hK.out _ _ ?_ (fun hHeld => ?_)
        · exact HBa
        clear hK K
        try simp only [Act.put, List.setIfInBounds_toArray, List.set_cons_zero, List.set_cons_succ]
        refine wpAnyH_ready (rs := [3, 5]) (by kernel_rfl) (by simp) ?_
        refine (AllReadyH.cons rfl (fun K hK => ?_) (AllReadyH.cons rfl (fun K hK => ?_) AllReadyH.nil))
        focus
          go_simp
          refine (H2.out _).mono ?_; rintro e wb ⟨rfl, hbb⟩; have HBb : Hid (Below w1.heap.size w1 wb) := (Hid.out hHeld).trans (hbb.mono (Hid.out hHeld).size); (try (replace P5 := hide ((Hid.out P5).kept hbb))); (try (replace P6 := hide ((Hid.out P6).kept hbb))); clear hbb
          go_wp2_with fail
          refine hK.out _ _ ?_ (fun hHeld => ?_)
          · exact HBb
          clear hK K
          try simp only [Act.put, List.setIfInBounds_toArray, List.set_cons_zero, List.set_cons_succ]
          refine wpAnyH_ready (rs := [5]) (by kernel_rfl) (by simp) ?_
          refine (AllReadyH.cons rfl (fun K hK => ?_) AllReadyH.nil)
          go_simp
          have G6 := hide (Hid.out hHeld).size; (try (have NE := hide (Nat.ne_of_lt (Hid.out P5).lt)))
          go_wp2_with fail
          refine hK.out _ _ ?_ (fun hHeld => ?_)
          · exact (Hid.out hHeld).alloc (Hid.out hHeld).size _
          clear hK K
          (try (replace P5 := mk_old hHeld P5)); have P6 := mk_new hHeld; generalize World.alloc _ (Obj.cells (u8s z176).toArray 26) = wM at *
          try simp only [Act.put, List.setIfInBounds_toArray, List.set_cons_zero, List.set_cons_succ]
          refine wpAnyH_ready (rs := [6]) (by kernel_rfl) (by simp) ?_
          refine (AllReadyH.cons rfl (fun K hK => ?_) AllReadyH.nil)
          refine wp_store_dst rfl 26 (.tmp 5) (.tmp 9) rfl _ _ rfl rfl 26 _ (Hid.out P5) TA1.out TA2.out OA.out ?_
          refine hK.out _ _ ?_ (fun hHeld => ?_)
          · exact hide (below_setRow (Hid.out hHeld) G5.out (Hid.out P5).lt _)
          clear hK K
          have Q5 := hide ((Hid.out P5).row (u8s LA).toArray); have Q6 := hide ((Hid.out P6).rowOther _ (u8s LA).toArray (Ne.symm NE.out)); clear P5 P6
          try simp only [Act.put, List.setIfInBounds_toArray, List.set_cons_zero, List.set_cons_succ]
          refine wpAnyH_ready (rs := [7]) (by kernel_rfl) (by simp) ?_
          refine (AllReadyH.cons rfl (fun K hK => ?_) AllReadyH.nil)
          refine wp_store_dst rfl 26 (.tmp 6) (.tmp 11) rfl _ _ rfl rfl 26 _ (Hid.out Q6) TB1.out TB2.out OB.out ?_
          refine hK.out _ _ ?_ (fun hHeld => ?_)
          · exact hide (below_setRow (Hid.out hHeld) G6.out (Hid.out Q6).lt _)
          clear hK K
          have R6 := hide ((Hid.out Q6).row (u8s LB).toArray); have R5 := hide ((Hid.out Q5).rowOther _ (u8s LB).toArray NE.out); clear Q5 Q6
          try simp only [Act.put, List.setIfInBounds_toArray, List.set_cons_zero, List.set_cons_succ]
          refine wpAnyH_done (by kernel_rfl) ?_ _
        rotate_left 1
        focus
          go_simp
          have G6 := hide (Hid.out hHeld).size; (try (have NE := hide (Nat.ne_of_lt (Hid.out P5).lt)))
          go_wp2_with fail
          refine hK.out _ _ ?_ (fun hHeld => ?_)
          · exact (Hid.out hHeld).alloc (Hid.out hHeld).size _
          clear hK K
          (try (replace P5 := mk_old hHeld P5)); have P6 := mk_new hHeld; generalize World.alloc _ (Obj.cells (u8s z176).toArray 26) = wM at *
          try simp only [Act.put, List.setIfInBounds_toArray, List.set_cons_zero, List.set_cons_succ]
          refine wpAnyH_ready (rs := [3]) (by kernel_rfl) (by simp) ?_
          refine (AllReadyH.cons rfl (fun K hK => ?_) AllReadyH.nil)
          go_simp
          refine (H2.out _).mono ?_; rintro e wb ⟨rfl, hbb⟩; have HBb : Hid (Below w1.heap.size w1 wb) := (Hid.out hHeld).trans (hbb.mono (Hid.out hHeld).size); (try (replace P5 := hide ((Hid.out P5).kept hbb))); (try (replace P6 := hide ((Hid.out P6).kept hbb))); clear hbb
          go_wp2_with fail
          refine hK.out _ _ ?_ (fun hHeld => ?_)
          · exact HBb
          clear hK K
          try simp only [Act.put, List.setIfInBounds_toArray, List.set_cons_zero, List.set_cons_succ]
          refine wpAnyH_ready (rs := [6]) (by kernel_rfl) (by simp) ?_
          refine (AllReadyH.cons rfl (fun K hK => ?_) AllReadyH.nil)
          refine wp_store_dst rfl 26 (.tmp 5) (.tmp 9) rfl _ _ rfl rfl 26 _ (Hid.out P5) TA1.out TA2.out OA.out ?_
          refine hK.out _ _ ?_ (fun hHeld => ?_)
          · exact hide (below_setRow (Hid.out hHeld) G5.out (Hid.out P5).lt _)
          clear hK K
          have Q5 := hide ((Hid.out P5).row (u8s LA).toArray); have Q6 := hide ((Hid.out P6).rowOther _ (u8s LA).toArray (Ne.symm NE.out)); clear P5 P6
          try simp only [Act.put, List.setIfInBounds_toArray, List.set_cons_zero, List.set_cons_succ]
          refine wpAnyH_ready (rs := [7]) (by kernel_rfl) (by simp) ?_
          refine (AllReadyH.cons rfl (fun K hK => ?_) AllReadyH.nil)
          refine wp_store_dst rfl 26 (.tmp 6) (.tmp 11) rfl _ _ rfl rfl 26 _ (Hid.out Q6) TB1.out TB2.out OB.out ?_
          refine hK.out _ _ ?_ (fun hHeld => ?_)
          · exact hide (below_setRow (Hid.out hHeld) G6.out (Hid.out Q6).lt _)
          clear hK K
          have R6 := hide ((Hid.out Q6).row (u8s LB).toArray); have R5 := hide ((Hid.out Q5).rowOther _ (u8s LB).toArray NE.out); clear Q5 Q6
          try simp only [Act.put, List.setIfInBounds_toArray, List.set_cons_zero, List.set_cons_succ]
          refine wpAnyH_done (by kernel_rfl) ?_ _
      rotate_left 2
      focus
        go_simp
        have G6 := hide (Hid.out hHeld).size; (try (have NE := hide (Nat.ne_of_lt (Hid.out P5).lt)))
        go_wp2_with fail
        refine hK.out _ _ ?_ (fun hHeld => ?_)
        · exact (Hid.out hHeld).alloc (Hid.out hHeld).size _
        clear hK K
        (try (replace P5 := mk_old hHeld P5)); have P6 := mk_new hHeld; generalize World.alloc _ (Obj.cells (u8s z176).toArray 26) = wM at *
        try simp only [Act.put, List.setIfInBounds_toArray, List.set_cons_zero, List.set_cons_succ]
        refine wpAnyH_ready (rs := [1]) (by kernel_rfl) (by simp) ?_
        refine (AllReadyH.cons rfl (fun K hK => ?_) AllReadyH.nil)
        go_simp
        refine (H1.out _).mono ?_; rintro e wa ⟨rfl, hba⟩; have HBa : Hid (Below w1.heap.size w1 wa) := (Hid.out hHeld).trans (hba.mono (Hid.out hHeld).size); (try (replace P5 := hide ((Hid.out P5).kept hba))); (try (replace P6 := hide ((Hid.out P6).kept hba))); clear hba
        go_wp2_with fail
        refine hK.out _ _ ?_ (fun hHeld => ?_)
        · exact HBa
        clear hK K
        try simp only [Act.put, List.setIfInBounds_toArray, List.set_cons_zero, List.set_cons_succ]
        refine wpAnyH_ready (rs := [3]) (by kernel_rfl) (by simp) ?_
        refine (AllReadyH.cons rfl (fun K hK => ?_) AllReadyH.nil)
        go_simp
        refine (H2.out _).mono ?_; rintro e wb ⟨rfl, hbb⟩; have HBb : Hid (Below w1.heap.size w1 wb) := (Hid.out hHeld).trans (hbb.mono (Hid.out hHeld).size); (try (replace P5 := hide ((Hid.out P5).kept hbb))); (try (replace P6 := hide ((Hid.out P6).kept hbb))); clear hbb
        go_wp2_with fail
        refine hK.out _ _ ?_ (fun hHeld => ?_)
        · exact HBb
        clear hK K
        try simp only [Act.put, List.setIfInBounds_toArray, List.set_cons_zero, List.set_cons_succ]
        refine wpAnyH_ready (rs := [6]) (by kernel_rfl) (by simp) ?_
        refine (AllReadyH.cons rfl (fun K hK => ?_) AllReadyH.nil)
        refine wp_store_dst rfl 26 (.tmp 5) (.tmp 9) rfl _ _ rfl rfl 26 _ (Hid.out P5) TA1.out TA2.out OA.out ?_
        refine hK.out _ _ ?_ (fun hHeld => ?_)
        · exact hide (below_setRow (Hid.out hHeld) G5.out (Hid.out P5).lt _)
        clear hK K
        have Q5 := hide ((Hid.out P5).row (u8s LA).toArray); have Q6 := hide ((Hid.out P6).rowOther _ (u8s LA).toArray (Ne.symm NE.out)); clear P5 P6
        try simp only [Act.put, List.setIfInBounds_toArray, List.set_cons_zero, List.set_cons_succ]
        refine wpAnyH_ready (rs := [7]) (by kernel_rfl) (by simp) ?_
        refine (AllReadyH.cons rfl (fun K hK => ?_) AllReadyH.nil)
        refine wp_store_dst rfl 26 (.tmp 6) (.tmp 11) rfl _ _ rfl rfl 26 _ (Hid.out Q6) TB1.out TB2.out OB.out ?_
        refine hK.out _ _ ?_ (fun hHeld => ?_)
        · exact hide (below_setRow (Hid.out hHeld) G6.out (Hid.out Q6).lt _)
        clear hK K
        have R6 := hide ((Hid.out Q6).row (u8s LB).toArray); have R5 := hide ((Hid.out Q5).rowOther _ (u8s LB).toArray NE.out); clear Q5 Q6
        try simp only [Act.put, List.setIfInBounds_toArray, List.set_cons_zero, List.set_cons_succ]
        refine wpAnyH_done (by kernel_rfl) ?_ _
    rotate_left 3
    focus
      go_simp
      have G6 := hide (Hid.out hHeld).size; (try (have NE := hide (Nat.ne_of_lt (Hid.out P5).lt)))
      go_wp2_with fail
      refine hK.out _ _ ?_ (fun hHeld => ?_)
      · exact (Hid.out hHeld).alloc (Hid.out hHeld).size _
      clear hK K
      (try (replace P5 := mk_old hHeld P5)); have P6 := mk_new hHeld; generalize World.alloc _ (Obj.cells (u8s z176).toArray 26) = wM at *
      try simp only [Act.put, List.setIfInBounds_toArray, List.set_cons_zero, List.set_cons_succ]
      refine wpAnyH_ready (rs := [1, 4]) (by kernel_rfl) (by simp) ?_
      refine (AllReadyH.cons rfl (fun K hK => ?_) (AllReadyH.cons rfl (fun K hK => ?_) AllReadyH.nil))
      focus
        go_simp
        refine (H1.out _).mono ?_; rintro e wa ⟨rfl, hba⟩; have HBa : Hid (Below w1.heap.size w1 wa) := (Hid.out hHeld).trans (hba.mono (Hid.out hHeld).size); (try (replace P5 := hide ((Hid.out P5).kept hba))); (try (replace P6 := hide ((Hid.out P6).kept hba))); clear hba
        go_wp2_with fail
        refine hK.out _ _ ?_ (fun hHeld => ?_)
        · exact HBa
        clear hK K
        try simp only [Act.put, List.setIfInBounds_toArray, List.set_cons_zero, List.set_cons_succ]
        refine wpAnyH_ready (rs := [3, 4]) (by kernel_rfl) (by simp) ?_
        refine (AllReadyH.cons rfl (fun K hK => ?_) (AllReadyH.cons rfl (fun K hK => ?_) AllReadyH.nil))
        focus
          go_simp
          refine (H2.out _).mono ?_; rintro e wb ⟨rfl, hbb⟩; have HBb : Hid (Below w1.heap.size w1 wb) := (Hid.out hHeld).trans (hbb.mono (Hid.out hHeld).size); (try (replace P5 := hide ((Hid.out P5).kept hbb))); (try (replace P6 := hide ((Hid.out P6).kept hbb))); clear hbb
          go_wp2_with fail
          refine hK.out _ _ ?_ (fun hHeld => ?_)
          · exact HBb
          clear hK K
          try simp only [Act.put, List.setIfInBounds_toArray, List.set_cons_zero, List.set_cons_succ]
          refine wpAnyH_ready (rs := [4]) (by kernel_rfl) (by simp) ?_
          refine (AllReadyH.cons rfl (fun K hK => ?_) AllReadyH.nil)
          go_simp
          have G5 := hide (Hid.out hHeld).size; (try (have NE := hide (Ne.symm (Nat.ne_of_lt (Hid.out P6).lt))))
          go_wp2_with fail
          refine hK.out _ _ ?_ (fun hHeld => ?_)
          · exact (Hid.out hHeld).alloc (Hid.out hHeld).size _
          clear hK K
          (try (replace P6 := mk_old hHeld P6)); have P5 := mk_new hHeld; generalize World.alloc _ (Obj.cells (u8s z176).toArray 26) = wN at *
          try simp only [Act.put, List.setIfInBounds_toArray, List.set_cons_zero, List.set_cons_succ]
          refine wpAnyH_ready (rs := [6]) (by kernel_rfl) (by simp) ?_
          refine (AllReadyH.cons rfl (fun K hK => ?_) AllReadyH.nil)
          refine wp_store_dst rfl 26 (.tmp 5) (.tmp 9) rfl _ _ rfl rfl 26 _ (Hid.out P5) TA1.out TA2.out OA.out ?_
          refine hK.out _ _ ?_ (fun hHeld => ?_)
          · exact hide (below_setRow (Hid.out hHeld) G5.out (Hid.out P5).lt _)
          clear hK K
          have Q5 := hide ((Hid.out P5).row (u8s LA).toArray); have Q6 := hide ((Hid.out P6).rowOther _ (u8s LA).toArray (Ne.symm NE.out)); clear P5 P6
          try simp only [Act.put, List.setIfInBounds_toArray, List.set_cons_zero, List.set_cons_succ]
          refine wpAnyH_ready (rs := [7]) (by kernel_rfl) (by simp) ?_
          refine (AllReadyH.cons rfl (fun K hK => ?_) AllReadyH.nil)
          refine wp_store_dst rfl 26 (.tmp 6) (.tmp 11) rfl _ _ rfl rfl 26 _ (Hid.out Q6) TB1.out TB2.out OB.out ?_
          refine hK.out _ _ ?_ (fun hHeld => ?_)
          · exact hide (below_setRow (Hid.out hHeld) G6.out (Hid.out Q6).lt _)
          clear hK K
          have R6 := hide ((Hid.out Q6).row (u8s LB).toArray); have R5 := hide ((Hid.out Q5).rowOther _ (u8s LB).toArray NE.out); clear Q5 Q6
          try simp only [Act.put, List.setIfInBounds_toArray, List.set_cons_zero, List.set_cons_succ]
          refine wpAnyH_done (by kernel_rfl) ?_ _
        rotate_left 1
        focus
          go_simp
          have G5 := hide (Hid.out hHeld).size; (try (have NE := hide (Ne.symm (Nat.ne_of_lt (Hid.out P6).lt))))
          go_wp2_with fail
          refine hK.out _ _ ?_ (fun hHeld => ?_)
          · exact (Hid.out hHeld).alloc (Hid.out hHeld).size _
          clear hK K
          (try (replace P6 := mk_old hHeld P6)); have P5 := mk_new hHeld; generalize World.alloc _ (Obj.cells (u8s z176).toArray 26) = wN at *
          try simp only [Act.put, List.setIfInBounds_toArray, List.set_cons_zero, List.set_cons_succ]
          refine wpAnyH_ready (rs := [3]) (by kernel_rfl) (by simp) ?_
          refine (AllReadyH.cons rfl (fun K hK => ?_) AllReadyH.nil)
          go_simp
          refine (H2.out _).mono ?_; rintro e wb ⟨rfl, hbb⟩; have HBb : Hid (Below w1.heap.size w1 wb) := (Hid.out hHeld).trans (hbb.mono (Hid.out hHeld).size); (try (replace P5 := hide ((Hid.out P5).kept hbb))); (try (replace P6 := hide ((Hid.out P6).kept hbb))); clear hbb
          go_wp2_with fail
          refine hK.out _ _ ?_ (fun hHeld => ?_)
          · exact HBb
          clear hK K
          try simp only [Act.put, List.setIfInBounds_toArray, List.set_cons_zero, List.set_cons_succ]
          refine wpAnyH_ready (rs := [6]) (by kernel_rfl) (by simp) ?_
          refine (AllReadyH.cons rfl (fun K hK => ?_) AllReadyH.nil)
          refine wp_store_dst rfl 26 (.tmp 5) (.tmp 9) rfl _ _ rfl rfl 26 _ (Hid.out P5) TA1.out TA2.out OA.out ?_
          refine hK.out _ _ ?_ (fun hHeld => ?_)
          · exact hide (below_setRow (Hid.out hHeld) G5.out (Hid.out P5).lt _)
          clear hK K
          have Q5 := hide ((Hid.out P5).row (u8s LA).toArray); have Q6 := hide ((Hid.out P6).rowOther _ (u8s LA).toArray (Ne.symm NE.out)); clear P5 P6
          try simp only [Act.put, List.setIfInBounds_toArray, List.set_cons_zero, List.set_cons_succ]
          refine wpAnyH_ready (rs := [7]) (by kernel_rfl) (by simp) ?_
          refine (AllReadyH.cons rfl (fun K hK => ?_) AllReadyH.nil)
          refine wp_store_dst rfl 26 (.tmp 6) (.tmp 11) rfl _ _ rfl rfl 26 _ (Hid.out Q6) TB1.out TB2.out OB.out ?_
          refine hK.out _ _ ?_ (fun hHeld => ?_)
          · exact hide (below_setRow (Hid.out hHeld) G6.out (Hid.out Q6).lt _)
          clear hK K
          have R6 := hide ((Hid.out Q6).row (u8s LB).toArray); have R5 := hide ((Hid.out Q5).rowOther _ (u8s LB).toArray NE.out); clear Q5 Q6
          try simp only [Act.put, List.setIfInBounds_toArray, List.set_cons_zero, List.set_cons_succ]
          refine wpAnyH_done (by kernel_rfl) ?_ _
      rotate_left 2
      focus
        go_simp
        have G5 := hide (Hid.out hHeld).size; (try (have NE := hide (Ne.symm (Nat.ne_of_lt (Hid.out P6).lt))))
        go_wp2_with fail
        refine hK.out _ _ ?_ (fun hHeld => ?_)
        · exact (Hid.out hHeld).alloc (Hid.out hHeld).size _
        clear hK K
        (try (replace P6 := mk_old hHeld P6)); have P5 := mk_new hHeld; generalize World.alloc _ (Obj.cells (u8s z176).toArray 26) = wN at *
        try simp only [Act.put, List.setIfInBounds_toArray, List.set_cons_zero, List.set_cons_succ]
        refine wpAnyH_ready (rs := [1]) (by kernel_rfl) (by simp) ?_
        refine (AllReadyH.cons rfl (fun K hK => ?_) AllReadyH.nil)
        go_simp
        refine (H1.out _).mono ?_; rintro e wa ⟨rfl, hba⟩; have HBa : Hid (Below w1.heap.size w1 wa) := (Hid.out hHeld).trans (hba.mono (Hid.out hHeld).size); (try (replace P5 := hide ((Hid.out P5).kept hba))); (try (replace P6 := hide ((Hid.out P6).kept hba))); clear hba
        go_wp2_with fail
        refine hK.out _ _ ?_ (fun hHeld => ?_)
        · exact HBa
        clear hK K
        try simp only [Act.put, List.setIfInBounds_toArray, List.set_cons_zero, List.set_cons_succ]
        refine wpAnyH_ready (rs := [3]) (by kernel_rfl) (by simp) ?_
        refine (AllReadyH.cons rfl (fun K hK => ?_) AllReadyH.nil)
        go_simp
        refine (H2.out _).mono ?_; rintro e wb ⟨rfl, hbb⟩; have HBb : Hid (Below w1.heap.size w1 wb) := (Hid.out hHeld).trans (hbb.mono (Hid.out hHeld).size); (try (replace P5 := hide ((Hid.out P5).kept hbb))); (try (replace P6 := hide ((Hid.out P6).kept hbb))); clear hbb
        go_wp2_with fail
        refine hK.out _ _ ?_ (fun hHeld => ?_)
        · exact HBb
        clear hK K
        try simp only [Act.put, List.setIfInBounds_toArray, List.set_cons_zero, List.set_cons_succ]
        refine wpAnyH_ready (rs := [6]) (by kernel_rfl) (by simp) ?_
        refine (AllReadyH.cons rfl (fun K hK => ?_) AllReadyH.nil)
        refine wp_store_dst rfl 26 (.tmp 5) (.tmp 9) rfl _ _ rfl rfl 26 _ (Hid.out P5) TA1.out TA2.out OA.out ?_
        refine hK.out _ _ ?_ (fun hHeld => ?_)
        · exact hide (below_setRow (Hid.out hHeld) G5.out (Hid.out P5).lt _)
        clear hK K
        have Q5 := hide ((Hid.out P5).row (u8s LA).toArray); have Q6 := hide ((Hid.out P6).rowOther _ (u8s LA).toArray (Ne.symm NE.out)); clear P5 P6
        try simp only [Act.put, List.setIfInBounds_toArray, List.set_cons_zero, List.set_cons_succ]
        refine wpAnyH_ready (rs := [7]) (by kernel_rfl) (by simp) ?_
        refine (AllReadyH.cons rfl (fun K hK => ?_) AllReadyH.nil)
        refine wp_store_dst rfl 26 (.tmp 6) (.tmp 11) rfl _ _ rfl rfl 26 _ (Hid.out Q6) TB1.out TB2.out OB.out ?_
        refine hK.out _ _ ?_ (fun hHeld => ?_)
        · exact hide (below_setRow (Hid.out hHeld) G6.out (Hid.out Q6).lt _)
        clear hK K
        have R6 := hide ((Hid.out Q6).row (u8s LB).toArray); have R5 := hide ((Hid.out Q5).rowOther _ (u8s LB).toArray NE.out); clear Q5 Q6
        try simp only [Act.put, List.setIfInBounds_toArray, List.set_cons_zero, List.set_cons_succ]
        refine wpAnyH_done (by kernel_rfl) ?_ _
    all_goals
      go_wp2_with fail
      go_meet
      case rel => exact ⟨_, _, rfl, rfl, ⟨La.out _ hHeld, Lb.out _ hHeld, R5.out, R6.out, AB.out.trans ((Hid.out hHeld).mono AB.out.size)⟩⟩
  case rest =>
    obtain ⟨g5, g6, rfl, rfl, HR⟩ := hcut
    go_wp2_with (first
      | (refine wpList_exec (by rfl) _ (exec_load_mid 25 (.tmp 12) rfl g5 (0 * 16) rfl (u8s a) _ (RA0.out _ _ _ HR.out) Try.underlying25 rfl Ia.out) ?_)
      | (refine wpList_exec (by rfl) _ (exec_load_all 25 (.tmp 2) rfl w.heap.size rfl 25 (u8s a) _ HR.out.ka Try.underlying25 rfl Ia.out) ?_)
      | (refine wpList_exec (by rfl) _ (exec_neq_agg 25 25 (.tmp 13) (.tmp 14) rfl (u8s a).toArray (u8s a).toArray rfl rfl true (guard16n _ _ _ _ _) (EA.out _)) ?_)
      | (refine wpList_exec (by rfl) _ (exec_load_mid 25 (.tmp 17) rfl g6 (0 * 16) rfl (u8s b) _ (RB0.out _ _ _ HR.out) Try.underlying25 rfl Ib.out) ?_)
      | (refine wpList_exec (by rfl) _ (exec_load_all 25 (.tmp 3) rfl (w.heap.size + 1) rfl 25 (u8s b) _ HR.out.kb Try.underlying25 rfl Ib.out) ?_)
      | (refine wpList_exec (by rfl) _ (exec_neq_agg 25 25 (.tmp 18) (.tmp 19) rfl (u8s b).toArray (u8s b).toArray rfl rfl true (guard16n _ _ _ _ _) (EB.out _)) ?_))
    go_loopg [7] 12 (fun f0 s7 wr => ∃ (j : Nat), s7 = .int .i64 j ∧ j ≤ 11 ∧ 11 - j < f0 ∧ Hid (StF w wr g5 g6 a b LA LB))
    case atStart => exact ⟨0, rfl, by omega, by omega, HR⟩
    case round =>
      clear HR
      obtain ⟨j, rfl, hj, hf, HR⟩ := hrel
      by_cases hlt : j < 11
      · have m4 : (j : Int) < 11 := by omega
        have Ij := hide (szl (HF.out j))
        have Ik := hide (szl (HH.out j))
        have EJJ := hide (EJ.out j)
        have SA : Hid (∀ v : World, Hid (StF w v g5 g6 a b LA LB) → v.rangeAt g5 (j * 16) (u8s (f j))) := fun v s => RA.out v g5 g6 j s.out hlt
        have SB : Hid (∀ v : World, Hid (StF w v g5 g6 a b LA LB) → v.rangeAt g6 (j * 16) (u8s (h j))) := fun v s => RB.out v g5 g6 j s.out hlt
        go_wp2_with fail
        refine wp_region_held_drew (S := fun v => Hid (StF w v g5 g6 a b LA LB)) (by kernel_rfl) (hide HR.out.drew) (fun hHeld => ?_)
        refine take_dstH (i := 0) (d := 26) (v := ?_) rfl rfl (by kernel_rfl) (by kernel_rfl) (by kernel_rfl) (fun _ _ _ h => h) (by rfl) hHeld ?_ ?_
        rotate_left
        · intro wZ hSw; clear hSw; go_simp; first | (with_reducible rfl) | (rw [if_pos (by omega)]; with_reducible rfl) | skip
        try simp only [Act.put, List.setIfInBounds_toArray, List.set_cons_zero, List.set_cons_succ]
        refine take_dstH (i := 1) (d := 27) (v := ?_) rfl rfl (by kernel_rfl) (by kernel_rfl) (by kernel_rfl) (fun _ _ _ h => h) (by rfl) hHeld ?_ ?_
        rotate_left
        · intro wZ hSw; clear hSw; go_simp; first | (with_reducible rfl) | (rw [if_pos (by omega)]; with_reducible rfl) | skip
        try simp only [Act.put, List.setIfInBounds_toArray, List.set_cons_zero, List.set_cons_succ]
        refine take_dstH (i := 2) (d := 28) (v := ?_) rfl rfl (by kernel_rfl) (by kernel_rfl) (by kernel_rfl) (fun _ _ _ h => h) (by rfl) hHeld ?_ ?_
        rotate_left
        · intro wZ hSw; refine exec_load_mid 25 (.tmp 27) ?_ g5 (j * 16) ?_ (u8s (f j)) _ (SA.out wZ hSw) Try.underlying25 rfl Ij.out <;> rfl
        try simp only [Act.put, List.setIfInBounds_toArray, List.set_cons_zero, List.set_cons_succ]
        refine take_dstH (i := 3) (d := 29) (v := ?_) rfl rfl (by kernel_rfl) (by kernel_rfl) (by kernel_rfl) (fun _ _ _ h => h) (by rfl) hHeld ?_ ?_
        rotate_left
        · intro wZ hSw; clear hSw; go_simp; first | (with_reducible rfl) | (rw [if_pos (by omega)]; with_reducible rfl) | skip
        try simp only [Act.put, List.setIfInBounds_toArray, List.set_cons_zero, List.set_cons_succ]
        refine take_dstH (i := 4) (d := 30) (v := ?_) rfl rfl (by kernel_rfl) (by kernel_rfl) (by kernel_rfl) (fun _ _ _ h => h) (by rfl) hHeld ?_ ?_
        rotate_left
        · intro wZ hSw; clear hSw; go_simp; first | (with_reducible rfl) | (rw [if_pos (by omega)]; with_reducible rfl) | skip
        try simp only [Act.put, List.setIfInBounds_toArray, List.set_cons_zero, List.set_cons_succ]
        refine take_dstH (i := 5) (d := 31) (v := ?_) rfl rfl (by kernel_rfl) (by kernel_rfl) (by kernel_rfl) (fun _ _ _ h => h) (by rfl) hHeld ?_ ?_
        rotate_left
        · intro wZ hSw; refine exec_load_mid 25 (.tmp 30) ?_ g6 (j * 16) ?_ (u8s (h j)) _ (SB.out wZ hSw) Try.underlying25 rfl Ik.out <;> rfl
        try simp only [Act.put, List.setIfInBounds_toArray, List.set_cons_zero, List.set_cons_succ]
        refine take_dstH (i := 6) (d := 32) (v := ?_) rfl rfl (by kernel_rfl) (by kernel_rfl) (by kernel_rfl) (fun _ _ _ h => h) (by rfl) hHeld ?_ ?_
        rotate_left
        · intro wZ hSw; refine exec_eql_agg 25 25 (.tmp 28) (.tmp 31) ?_ (u8s (f j)).toArray (u8s (h j)).toArray ?_ ?_ r (guard16 _ _ _ _ _) (EJJ.out wZ) <;> rfl
        try simp only [Act.put, List.setIfInBounds_toArray, List.set_cons_zero, List.set_cons_succ]
        refine take_dstH (i := 7) (d := 33) (v := ?_) rfl rfl (by kernel_rfl) (by kernel_rfl) (by kernel_rfl) (fun _ _ _ h => h) (by rfl) hHeld ?_ ?_
        rotate_left
        · intro wZ hSw; refine exec_load_all 25 (.tmp 2) ?_ w.heap.size ?_ 25 (u8s a) _ hSw.out.ka Try.underlying25 rfl Ia.out <;> rfl
        try simp only [Act.put, List.setIfInBounds_toArray, List.set_cons_zero, List.set_cons_succ]
        refine take_dstH (i := 8) (d := 34) (v := ?_) rfl rfl (by kernel_rfl) (by kernel_rfl) (by kernel_rfl) (fun _ _ _ h => h) (by rfl) hHeld ?_ ?_
        rotate_left
        · intro wZ hSw; refine exec_load_all 25 (.tmp 3) ?_ (w.heap.size + 1) ?_ 25 (u8s b) _ hSw.out.kb Try.underlying25 rfl Ib.out <;> rfl
        try simp only [Act.put, List.setIfInBounds_toArray, List.set_cons_zero, List.set_cons_succ]
        refine take_dstH (i := 9) (d := 35) (v := ?_) rfl rfl (by kernel_rfl) (by kernel_rfl) (by kernel_rfl) (fun _ _ _ h => h) (by rfl) hHeld ?_ ?_
        rotate_left
        · intro wZ hSw; refine exec_eql_agg 25 25 (.tmp 33) (.tmp 34) ?_ (u8s a).toArray (u8s b).toArray ?_ ?_ r (guard16 _ _ _ _ _) (E0.out wZ) <;> rfl
        try simp only [Act.put, List.setIfInBounds_toArray, List.set_cons_zero, List.set_cons_succ]
        refine take_dstH (i := 10) (d := 36) (v := ?_) rfl rfl (by kernel_rfl) (by kernel_rfl) (by kernel_rfl) (fun _ _ _ h => h) (by rfl) hHeld ?_ ?_
        rotate_left
        · intro wZ hSw; clear hSw; go_simp; first | (with_reducible rfl) | (rw [if_pos (by omega)]; with_reducible rfl) | skip
        try simp only [Act.put, List.setIfInBounds_toArray, List.set_cons_zero, List.set_cons_succ]
        refine wpAnyH_done (by kernel_rfl) ?_ _
        clear hHeld
        go_wp2
        go_roundg (11 - j)
        case measure => omega
        case rel => exact ⟨j + 1, by go_num, by omega, by omega, hide HR.out.drew⟩
      · have e : j = 11 := by omega
        subst e
        go_wp2_with fail
        refine (known_any _).mono ?_
        rintro e w2 ⟨rfl, hb2⟩
        go_wp2
        go_ret
        exact ⟨rfl, HR.out.bl.trans (hb2.mono HR.out.bl.size)⟩

theorem walk (a b : List Nat) (w : World) (ha : Blk a) (hb : Blk b) :
    Calls Try.prog 4 #[.agg (u8s a).toArray, .agg (u8s b).toArray] w fun e w' => e = .returned (.bool true) ∧ Below w.heap.size w w' :=
  walk_in a b _ _ (rdF swT a) (rdF swT b) (decide (a = b)) w ha hb (rd_blk sw_lt ha) (rd_blk sw_lt hb) rfl rfl rfl rfl rfl
    (fun j => decide_eq_decide.2 ⟨fun h => rd_inj sw_lt ha hb j h, fun h => by rw [h]⟩)
    (fun v => Rounds_of a _ v ha.len ha.lt rfl) (fun v => Rounds_of b _ v hb.len hb.lt rfl)

theorem own : ownKnob Try.prog.godebug = none := by kernel_rfl
theorem laidOut : laidOutB Try.prog = true := by kernel_rfl
set_option maxRecDepth 100000 in
theorem lifted (os : Os) (started : os.Started) (H : Type) (enc : TypeId × Value → H) :
    ReturnsInHanded {} Try.checked os 4 .any (Rows.aesFirstSpec.pre6 enc Try.prog Try.f4 Rows.aesFirstRow.domain false) (Rows.aesFirstSpec.post enc Try.prog Try.f4 false true false false) := by
  refine returnsInHanded_of_change (C := Try.checked) own started (by kernel_rfl) Try.func4
    (ChangeSpec.witness6 (enc := enc) (C := Try.checked) false ⟨#[], #[.agg (u8s z16).toArray, .agg (u8s z16).toArray], []⟩ 8 (by kernel_rfl) (by kernel_rfl) (by kernel_rfl) (by kernel_rfl)) ?_
  intro W base args ds gs before hval0 hW hcnd _
  have hval : ∀ (j : Nat) t v, Try.f4.params[j]? = some t → args[j]? = some v → Value.okWide Try.prog W .any base t v := hval0
  have hW' := hW
  obtain ⟨p, q, hA0, hV, rfl, hfz, hnd⟩ := hW
  have hA : DataW.TrodAll enc Try.prog W 0 (fun _ => true) true Try.f4.params.toList args.toList ds p := hA0
  rw [Try.params4] at hA hval
  obtain ⟨v0, vs0, d0, ds0, p0, q0, hargs, rfl, rfl, h0, r0⟩ := trodAll_cons hA
  obtain ⟨v1, vs1, d1, ds1, p1, q1, rfl, rfl, rfl, h1, r1⟩ := trodAll_cons r0
  obtain ⟨rfl, rfl, rfl⟩ := trodAll_nil r1
  obtain rfl : args = #[v0, v1] := by cases args; simp_all
  obtain ⟨rfl, rfl⟩ := trodVars_none hV
  have k0 := h0
  obtain ⟨x0, rfl, w0, z0⟩ := open_blk (hval 0 25 v0 rfl rfl) h0
  have k1 := h1
  obtain ⟨x1, rfl, w1, z1⟩ := open_blk (hval 1 25 v1 rfl rfl) h1
  clear hA0 hval0
  refine (walk x0 x1 W w0 w1).mono fun e W' ⟨he, bel⟩ => ?_
  subst he
  exact ⟨_, rfl, _, _, _, [], _, [], hW', trodAll_mk1 (shut_bool Try.underlying4 _), (trodAll_cons_mk (Below.trod laidOut (by kernel_rfl) (of_decide_eq_true (by kernel_rfl)) k0 bel (fun x hx => (z0 x hx).elim)) (trodAll_cons_mk (Below.trod laidOut (by kernel_rfl) (of_decide_eq_true (by kernel_rfl)) k1 bel (fun x hx => (z1 x hx).elim)) trodAll_mk0)), rfl, bel.frame _, fun h => by cases h⟩

theorem over : Rows.aesFirstRow.holds Try.pinned (OpenSpec.ofChange Rows.aesFirstSpec) :=
  OpenClaim.holds_of_wide 4 Try.f4 rfl rfl rfl rfl rfl rfl rfl ⟨rfl, rfl, rfl, rfl, rfl⟩ rfl rfl rfl rfl rfl (by kernel_rfl) Try.func4 (by kernel_rfl)
    (of_decide_eq_true (by kernel_rfl)) (by unfold Func.isWrapper; first | (rw [if_pos (by decide +kernel)]; kernel_rfl) | (rw [if_neg (by decide +kernel)]; exact ⟨rfl, rfl⟩))
    (fun os started H enc _ => lifted os started H enc)

end AesFirstProof

/-- A key's first round is the key; unlike keys have unlike rounds, one by one. -/
theorem aesFirst_holds : Rows.AesFirstSaid := AesFirstProof.over

#print axioms aesFirst_holds
end Go.Proofs.Ytkafnkofanocpab
