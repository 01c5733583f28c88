/-
  Walks: Stream; a flow made, asked, gone over.
-/
import Derived.Test.YtflakgigekfgcaaCE
namespace Go.Proofs.Ytflakgigekfgcaa
open Go.RowKit

/-- a flow's cells -/
def flC (key : List Nat) (nn a : Nat) (m : Bool) : List Value := u8s key ++ [.int .u64 (nn : Int), .int .i64 (a : Int), .bool m]
theorem flC_length {key : List Nat} (h : key.length = 16) (nn a : Nat) (m : Bool) : (flC key nn a m).length = 19 := by simp [flC, u8s, h]
theorem flC_nonce {key : List Nat} (h : key.length = 16) (nn a : Nat) (m : Bool) : (flC key nn a m)[16]? = some (.int .u64 (nn : Int)) := by
  rw [flC, List.getElem?_append_right (by simp [u8s, h])]; simp [u8s, h]
theorem flC_at {key : List Nat} (h : key.length = 16) (nn a : Nat) (m : Bool) : (flC key nn a m)[17]? = some (.int .i64 (a : Int)) := by
  rw [flC, List.getElem?_append_right (by simp [u8s, h])]; simp [u8s, h]
theorem flC_made {key : List Nat} (h : key.length = 16) (nn a : Nat) (m : Bool) : (flC key nn a m)[18]? = some (.bool m) := by
  rw [flC, List.getElem?_append_right (by simp [u8s, h])]; simp [u8s, h]
theorem flC_set {key : List Nat} (h : key.length = 16) (nn a b : Nat) (m : Bool) : (flC key nn a m).set 17 (.int .i64 (b : Int)) = flC key nn b m := by
  rw [flC, List.set_append_right _ _ (by simp [u8s, h])]; simp [u8s, h, flC]
theorem flC_range {w : World} {g : Nat} {key : List Nat} {nn a : Nat} {m : Bool} (hA : Arr w g 41 (flC key nn a m)) : w.rangeAt g 0 (u8s key) := fun j v hv => by
  have hj : j < (u8s key).length := (List.getElem?_eq_some_iff.1 hv).1
  rw [Nat.zero_add, hA.cell, flC, List.getElem?_append_left hj]
  exact hv
theorem flC_built1 (f : Nat → Nat) (nn : Nat) : Try.prog.built 41 [(0, .agg (u8s ((List.range 16).map f)).toArray), (1, .int .u64 (nn : Int)), (3, .bool true)] = some (flC ((List.range 16).map f) nn 0 true).toArray := by kernel_rfl
theorem flC_built {key : List Nat} (h : key.length = 16) (nn : Nat) : Try.prog.built 41 [(0, .agg (u8s key).toArray), (1, .int .u64 (nn : Int)), (3, .bool true)] = some (flC key nn 0 true).toArray := by
  have e : key = (List.range 16).map (fun i => key.getD i 0) := by
    apply List.ext_getElem
    · simp [h]
    · intro i h1 h2; simp [List.getD, h1]
  rw [e]
  exact flC_built1 _ _
theorem one_flC (key : List Nat) (nn a : Nat) (m : Bool) : (flC key nn a m).toArray.all (·.oneCell') = true := by
  simp [flC, u8s, Value.oneCell']
theorem wpList_build_of {P : Program} {ops : Array Oper} {rest : List Oper} {o : Oper} {a : Act} {w : World} {Q : Exit → Act → World → Prop} (hg : o.guard = none) (t : TypeId) (parts : Array (Nat × Operand)) (ho : o.op = .build t parts) (L : List (Nat × Value)) (hL : (parts.map fun (i, x) => (i, a.eval x)).toList = L) (C : Array Value) (hb : P.built t L = some C)
    (h : wpList P ops Q rest (a.put o.dst (.agg C)) w) : wpList P ops Q (o :: rest) a w :=
  wpList_build hg t parts ho (by rw [hL, hb]; rfl) (by rw [hL, hb]; exact h)

theorem grown_set (w : World) (g i : Nat) (v : Value) : w.grownBy (w.setCell ⟨g, i, none⟩ v) (some g) := ⟨rfl, rfl, rfl, by simp, fun k _ hk => Below.heap_setCell _ _ _ k (fun e => hk (by rw [e]))⟩

set_option maxHeartbeats 2000000 in
theorem new_any (key : List Nat) (nn : Nat) (w : World) (hk : Blk key) :
    Calls Try.prog 13 #[.agg (u8s key).toArray, .int .u64 (nn : Int)] w fun r w' => ∃ g, r = .returned (.pointer (some ⟨g, 0, none⟩)) ∧ w.heap.size ≤ g ∧ Arr w' g 41 (flC key nn 0 true) ∧ Below w.heap.size w w' := by
  have IK := hide (szb hk)
  have HB := hide (flC_built hk.len nn)
  have A0 : Hid (Arr (w.alloc (Obj.cells (u8s key).toArray 22)) w.heap.size 22 (u8s key) ∧ Below w.heap.size w (w.alloc (Obj.cells (u8s key).toArray 22))) := ⟨Arr.new w _ _, (Below.refl _ _).alloc (Nat.le_refl _) _⟩
  clear hk
  go_enter Try.func13, Try.ntmps13
  go_wp2_with (first
    | (refine wpList_load_row rfl 22 _ rfl w.heap.size rfl 22 _ (0, 0) _ A0.out.1 Try.underlying22 rfl IK.out ?_)
    | (refine wpList_build_of rfl 41 #[(0, .tmp 5), (1, .tmp 6), (3, .const (.bool true))] rfl [(0, .agg (u8s key).toArray), (1, .int .u64 (nn : Int)), (3, .bool true)] (by simp [Act.eval]) (flC key nn 0 true).toArray HB.out ?_; generalize w.alloc (Obj.cells (u8s key).toArray 22) = w1 at *))
  go_ret
  exact ⟨_, rfl, A0.out.2.size, Arr.new w1 _ _, A0.out.2.alloc A0.out.2.size _⟩

set_option maxHeartbeats 1000000 in
theorem there_nil (w : World) : Calls Try.prog 25 #[.pointer none] w fun r w' => r = .returned (.bool false) ∧ w' = w := by
  go_enter Try.func25, Try.ntmps25
  go_wp2
  go_ret
  exact ⟨rfl, rfl⟩

set_option maxHeartbeats 1000000 in
theorem there_at (key : List Nat) (nn a g : Nat) (m : Bool) (w : World) (hk : key.length = 16) (hA : Arr w g 41 (flC key nn a m)) : Calls Try.prog 25 #[.pointer (some ⟨g, 0, none⟩)] w fun r w' => r = .returned (.bool m) ∧ w' = w := by
  have c := (hA.cell 18).trans (flC_made hk nn a m)
  clear hA
  go_enter Try.func25, Try.ntmps25
  go_wp2
  go_ret
  exact ⟨rfl, rfl⟩

set_option maxHeartbeats 1000000 in
theorem at_nil (w : World) : Calls Try.prog 15 #[.pointer none] w fun r w' => r = .returned (.int .i64 0) ∧ w' = w := by
  go_enter Try.func15, Try.ntmps15
  go_wp2_with fail
  refine (there_nil w).mono ?_
  rintro r w1 ⟨rfl, rfl⟩
  go_wp2
  go_ret
  exact ⟨rfl, rfl⟩

set_option maxHeartbeats 1000000 in
theorem at_at (key : List Nat) (nn a g : Nat) (m : Bool) (w : World) (hk : key.length = 16) (hA : Arr w g 41 (flC key nn a m)) : Calls Try.prog 15 #[.pointer (some ⟨g, 0, none⟩)] w fun r w' => r = .returned (.int .i64 (if m then (a : Int) else 0)) ∧ w' = w := by
  have HT := hide (there_at key nn a g m w hk hA)
  have c := (hA.cell 17).trans (flC_at hk nn a m)
  clear hA
  cases m
  all_goals
    go_enter Try.func15, Try.ntmps15
    go_wp2_with fail
    refine HT.out.mono ?_
    rintro r w1 ⟨rfl, rfl⟩
    go_wp2
    go_ret
    exact ⟨rfl, rfl⟩

set_option maxHeartbeats 1000000 in
/-- no flow turns nothing -/
theorem fturn_none (v : Value) (w : World) (p : Option Addr) (n c : Nat) (hT : Calls Try.prog 25 #[v] w fun r w' => r = .returned (.bool false) ∧ w' = w) :
    Calls Try.prog 14 #[v, .slice p n c] w fun r w' => r = .returned (.tuple #[.slice none 0 0, .int .i64 1]) ∧ w' = w := by
  have HT := hide hT
  clear hT
  go_enter Try.func14, Try.ntmps14
  go_wp2_with fail
  refine HT.out.mono ?_
  rintro r w1 ⟨rfl, rfl⟩
  go_wp2
  go_ret2
  exact ⟨rfl, rfl⟩

set_option maxHeartbeats 1000000 in
/-- .. beyond the end -/
theorem fturn_long (key : List Nat) (nn a g : Nat) (p : Option Addr) (n c : Nat) (w : World) (hk : key.length = 16) (hA : Arr w g 41 (flC key nn a true)) (_ha : a ≤ 1048576) (hn : n < 4611686018427387904) (h : 1048576 < a + n) :
    Calls Try.prog 14 #[.pointer (some ⟨g, 0, none⟩), .slice p n c] w fun r w' => r = .returned (.tuple #[.slice none 0 0, .int .i64 3]) ∧ w' = w := by
  have HT := hide (there_at key nn a g true w hk hA)
  have HF := hide (tooFar_any (a : Int) (n : Int) (by omega) (by omega) w)
  have c17 := (hA.cell 17).trans (flC_at hk nn a true)
  have hd : decide ((1048576 : Int) - (n : Int) < (a : Int)) = true := by simp; omega
  rw [hd] at HF
  clear hA hd
  go_enter Try.func14, Try.ntmps14
  go_wp2_with fail
  refine HT.out.mono ?_
  rintro r w1 ⟨rfl, rfl⟩
  go_wp2_with fail
  refine HF.out.mono ?_
  rintro r w2 ⟨rfl, rfl⟩
  go_wp2
  go_ret2
  exact ⟨rfl, rfl⟩

set_option maxHeartbeats 4000000 in
set_option maxRecDepth 100000 in
/-- a flow turns a text from its place on -/
theorem fturn_any (key : List Nat) (nn a g : Nat) (p : Option Addr) (n c : Nat) (xs : List Nat) (w : World) (hk : Blk key) (hnn : nn < 18446744073709551616) (hA : Arr w g 41 (flC key nn a true)) (hx : Piece w p c xs) (hn : xs.length = n) (h : a + n ≤ 1048576) :
    Calls Try.prog 14 #[.pointer (some ⟨g, 0, none⟩), .slice p n c] w fun r w' => ∃ v, r = .returned (.tuple #[v, .int .i64 0]) ∧ w'.ownsRow w.heap.size 5 1 v n (u8s (trF (hbF key nn) a xs)) ∧ Arr w' g 41 (flC key nn (a + n) true) ∧ w.grownBy w' (some g) := by
  have HT := hide (there_at key nn a g true w hk.len hA)
  have HF := hide (tooFar_any (a : Int) (n : Int) (by omega) (by omega) w)
  have c17 := (hA.cell 17).trans (flC_at hk.len nn a true)
  have hd : decide ((1048576 : Int) - (n : Int) < (a : Int)) = false := by simp; omega
  rw [hd] at HF
  have HC := hide (fun (w : World) (gn gq : Nat) (hN : Arr w gn 23 [.int .u64 (nn : Int)]) (hK : Arr w gq 22 (u8s key)) (hx : Piece w p c xs) => turned_any key gn gq nn a n p c xs w hk hnn hN hK (by omega) hx hn (by omega))
  have HX := hide hx
  have HA := hide hA
  have IK := hide (szl hk)
  have KL := hide hk.len
  have HM := hide (maker_any key nn)
  have hlt := hA.lt
  clear hA hd hx hk
  generalize trF (hbF key nn) a xs = T at *
  go_enter Try.func14, Try.ntmps14
  go_wp2_with fail
  refine HT.out.mono ?_
  rintro r w1 ⟨rfl, rfl⟩
  go_wp2_with fail
  refine HF.out.mono ?_
  rintro r w2 ⟨rfl, rfl⟩
  clear HT HF
  go_upto_region 5 with fail
  refine wp_region_held_drew (S := fun v => Hid (Arr v g 41 (flC key nn a true) ∧ Piece v p c xs ∧ Below w2.heap.size w2 v)) (by kernel_rfl) (hide ⟨HA.out, HX.out, (Below.refl _ _).drew⟩) (fun hHeld => ?_)
  refine take_dstH (i := 0) (d := 17) (v := ?_) rfl rfl (by kernel_rfl) (by kernel_rfl) (by kernel_rfl) (fun _ _ _ h => h) (by rfl) hHeld ?_ ?_
  rotate_left
  · intro wZ hSw; clear hSw; go_simp; first | (with_reducible rfl) | (rw [if_pos (by omega)]; with_reducible rfl) | skip
  try simp only [Act.put, List.setIfInBounds_toArray, List.set_cons_zero, List.set_cons_succ]
  refine take_dstH (i := 1) (d := 18) (v := ?_) rfl rfl (by kernel_rfl) (by kernel_rfl) (by kernel_rfl) (fun _ _ _ h => h) (by rfl) hHeld ?_ ?_
  rotate_left
  · intro wZ hSw; clear hSw; go_simp; first | (with_reducible rfl) | (rw [if_pos (by omega)]; with_reducible rfl) | skip
  try simp only [Act.put, List.setIfInBounds_toArray, List.set_cons_zero, List.set_cons_succ]
  refine take_dstH (i := 2) (d := 19) (v := ?_) rfl rfl (by kernel_rfl) (by kernel_rfl) (by kernel_rfl) (fun _ _ _ h => h) (by rfl) hHeld ?_ ?_
  rotate_left
  · intro wZ hSw; clear hSw; go_simp; first | (with_reducible rfl) | (rw [if_pos (by omega)]; with_reducible rfl) | skip
  try simp only [Act.put, List.setIfInBounds_toArray, List.set_cons_zero, List.set_cons_succ]
  refine take_dstH (i := 3) (d := 20) (v := ?_) rfl rfl (by kernel_rfl) (by kernel_rfl) (by kernel_rfl) (fun _ _ _ h => h) (by rfl) hHeld ?_ ?_
  rotate_left
  · intro wZ hSw; refine exec_load_mid 22 (.tmp 19) ?_ g 0 ?_ (u8s key) _ (flC_range hSw.out.1) Try.underlying22 rfl IK.out <;> rfl
  try simp only [Act.put, List.setIfInBounds_toArray, List.set_cons_zero, List.set_cons_succ]
  refine take_dstH (i := 4) (d := 21) (v := ?_) rfl rfl (by kernel_rfl) (by kernel_rfl) (by kernel_rfl) (fun _ _ _ h => h) (by rfl) hHeld ?_ ?_
  rotate_left
  · intro wZ hSw; clear hSw; go_simp; first | (with_reducible rfl) | (rw [if_pos (by omega)]; with_reducible rfl) | skip
  try simp only [Act.put, List.setIfInBounds_toArray, List.set_cons_zero, List.set_cons_succ]
  refine take_dstH (i := 5) (d := 22) (v := ?_) rfl rfl (by kernel_rfl) (by kernel_rfl) (by kernel_rfl) (fun _ _ _ h => h) (by rfl) hHeld ?_ ?_
  rotate_left
  · intro wZ hSw; clear hSw; go_simp; first | (with_reducible rfl) | (rw [if_pos (by omega)]; with_reducible rfl) | skip
  try simp only [Act.put, List.setIfInBounds_toArray, List.set_cons_zero, List.set_cons_succ]
  refine take_dstH (i := 6) (d := 23) (v := ?_) rfl rfl (by kernel_rfl) (by kernel_rfl) (by kernel_rfl) (fun _ _ _ h => h) (by rfl) hHeld ?_ ?_
  rotate_left
  · intro wZ hSw; clear hSw; go_simp; first | (with_reducible rfl) | (rw [if_pos (by omega)]; with_reducible rfl) | skip
  try simp only [Act.put, List.setIfInBounds_toArray, List.set_cons_zero, List.set_cons_succ]
  refine take_dstH (i := 7) (d := 24) (v := ?_) rfl rfl (by kernel_rfl) (by kernel_rfl) (by kernel_rfl) (fun _ _ _ h => h) (by rfl) hHeld ?_ ?_
  rotate_left
  · intro wZ hSw; have hfS := (fun (v : World) (h : Hid (Arr v g 41 (flC key nn a true) ∧ Piece v p c xs ∧ Below w2.heap.size w2 v)) => (h.out.1.cell 16).trans (flC_nonce KL.out nn a true)) wZ hSw; clear hSw; go_simp; first | (with_reducible rfl) | (rw [if_pos (by omega)]; with_reducible rfl) | skip
  try simp only [Act.put, List.setIfInBounds_toArray, List.set_cons_zero, List.set_cons_succ]
  refine take_dstH (i := 9) (d := 26) (v := ?_) rfl rfl (by kernel_rfl) (by kernel_rfl) (by kernel_rfl) (fun _ _ _ h => h) (by rfl) hHeld ?_ ?_
  rotate_left
  · intro wZ hSw; clear hSw; go_simp; first | (with_reducible rfl) | (rw [if_pos (by omega)]; with_reducible rfl) | skip
  try simp only [Act.put, List.setIfInBounds_toArray, List.set_cons_zero, List.set_cons_succ]
  refine take_dstH (i := 10) (d := 27) (v := ?_) rfl rfl (by kernel_rfl) (by kernel_rfl) (by kernel_rfl) (fun _ _ _ h => h) (by rfl) hHeld ?_ ?_
  rotate_left
  · intro wZ hSw; clear hSw; go_simp; first | (with_reducible rfl) | (rw [if_pos (by omega)]; with_reducible rfl) | skip
  try simp only [Act.put, List.setIfInBounds_toArray, List.set_cons_zero, List.set_cons_succ]
  refine take_dstH (i := 11) (d := 28) (v := ?_) rfl rfl (by kernel_rfl) (by kernel_rfl) (by kernel_rfl) (fun _ _ _ h => h) (by rfl) hHeld ?_ ?_
  rotate_left
  · intro wZ hSw; clear hSw; go_simp; first | (with_reducible rfl) | (rw [if_pos (by omega)]; with_reducible rfl) | skip
  try simp only [Act.put, List.setIfInBounds_toArray, List.set_cons_zero, List.set_cons_succ]
  refine take_dstH (i := 12) (d := 29) (v := ?_) rfl rfl (by kernel_rfl) (by kernel_rfl) (by kernel_rfl) (fun _ _ _ h => h) (by rfl) hHeld ?_ ?_
  rotate_left
  · intro wZ hSw; have hfS := (fun (v : World) (h : Hid (Arr v g 41 (flC key nn a true) ∧ Piece v p c xs ∧ Below w2.heap.size w2 v)) => (h.out.1.cell 17).trans (flC_at KL.out nn a true)) wZ hSw; clear hSw; go_simp; first | (with_reducible rfl) | (rw [if_pos (by omega)]; with_reducible rfl) | skip
  try simp only [Act.put, List.setIfInBounds_toArray, List.set_cons_zero, List.set_cons_succ]
  refine take_dstH (i := 13) (d := 30) (v := ?_) rfl rfl (by kernel_rfl) (by kernel_rfl) (by kernel_rfl) (fun _ _ _ h => h) (by rfl) hHeld ?_ ?_
  rotate_left
  · intro wZ hSw; clear hSw; go_simp; first | (with_reducible rfl) | (rw [if_pos (by omega)]; with_reducible rfl) | skip
  try simp only [Act.put, List.setIfInBounds_toArray, List.set_cons_zero, List.set_cons_succ]
  refine wpAnyH_ready (rs := [8]) (by kernel_rfl) (by simp) ?_
  refine (AllReadyH.cons rfl (fun K hK => ?_) AllReadyH.nil)
  go_simp
  refine (HM.out _).mono ?_; rintro r w3 ⟨rfl, hw3⟩; have B3 : Hid (Below w2.drew.heap.size w2.drew w3) := (by show Below _ _ _; rw [hw3]; exact ((Below.refl _ _).alloc (Nat.le_refl _) _).alloc (by simp) _); have H3 : Hid (Arr w3 (w2.heap.size + 1) 23 [.int .u64 (nn : Int)] ∧ Arr w3 w2.heap.size 22 (u8s key)) := (by refine ⟨?_, ?_⟩ <;> rw [hw3]; exact Arr.newAt (w2.drew.alloc _) _ [.int .u64 (nn : Int)] _ (by simp); exact (Arr.new w2.drew _ _).alloc _); clear hw3
  go_wp2_with fail
  refine hK.out _ _ ?_ (fun hHeld => ?_)
  · exact (fun h : Hid _ => hide ⟨h.out.1.kept B3.out, h.out.2.1.kept B3.out, h.out.2.2.trans B3.out⟩) hHeld
  clear hK K
  try simp only [Act.put, List.setIfInBounds_toArray, List.set_cons_zero, List.set_cons_succ]
  refine wpAnyH_ready (rs := [14]) (by kernel_rfl) (by simp) ?_
  refine (AllReadyH.cons rfl (fun K hK => ?_) AllReadyH.nil)
  go_simp
  refine (HC.out _ _ _ H3.out.1 H3.out.2 (Hid.out hHeld).2.1).mono ?_; rintro r w4 ⟨v, rfl, ho4, hb4⟩; obtain ⟨q, d, rfl⟩ := own_val ho4; have HO4 := hide ho4; have HB4 := hide hb4; have hs3 := (Hid.out hHeld).2.2.size; clear ho4 hb4
  go_wp2_with fail
  refine hK.out _ _ ?_ (fun hHeld => ?_)
  · exact (fun h : Hid _ => hide ⟨h.out.1.kept HB4.out, h.out.2.1.kept HB4.out, h.out.2.2.trans (HB4.out.mono h.out.2.2.size)⟩) hHeld
  clear hK K
  try simp only [Act.put, List.setIfInBounds_toArray, List.set_cons_zero, List.set_cons_succ]
  refine take_dstH (i := 15) (d := 6) (v := ?_) rfl rfl (by kernel_rfl) (by kernel_rfl) (by kernel_rfl) (fun _ _ _ h => h) (by rfl) hHeld ?_ ?_
  rotate_left
  · intro wZ hSw; clear hSw; go_simp; first | (with_reducible rfl) | (rw [if_pos (by omega)]; with_reducible rfl) | skip
  try simp only [Act.put, List.setIfInBounds_toArray, List.set_cons_zero, List.set_cons_succ]
  refine wpAnyH_done (by kernel_rfl) ?_ _
  have c4 := ((Hid.out hHeld).1.cell 17).trans (flC_at KL.out nn a true)
  have f4 := (Hid.out hHeld).1.frozen 17
  have HH := hide hHeld.out
  clear hHeld
  go_wp2
  go_ret2
  refine ⟨_, rfl, ?_, ?_, ?_⟩
  · refine (own_base HO4.out hs3).kept (grown_set w4 g 17 _) (.inr fun e => ?_)
    have := (HO4.out.lt g e).1
    omega
  · have h1 := HH.out.1.set 17 (.int .i64 (((a + n : Nat)) : Int))
    rw [flC_set KL.out] at h1
    exact h1
  · exact grown_trans (below_grown HH.out.2.2 (some g)) (grown_set w4 g 17 _)

theorem eq_nilFunc (d : Nat) (fv : Fn) (ra lb : Array Value) (w : World) : (Op.equalIn (d + 1) 43 (.func fv ra lb) .nilFunc).run Try.prog w = .ok false w := by
  simp [Op.equalIn, run_underlying Try.underlying43]
theorem eql_nilFunc (fv : Fn) (ra lb : Array Value) (w : World) : (binOp .eql 43 (.func fv ra lb) .nilFunc).run Try.prog w = .ok (.bool false) w := by
  have h := eq_nilFunc 9999 fv ra lb w
  simp only [binOp]
  simp only [Op.equal, Op.maxDepth, Sem.run_bind]
  rw [h]
  rfl

end Go.Proofs.Ytflakgigekfgcaa
