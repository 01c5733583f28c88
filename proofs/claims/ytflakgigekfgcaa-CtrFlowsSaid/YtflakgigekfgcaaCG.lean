/-
  Walks: a flow's blocks; the bytes of a stream, or none.
-/
import Derived.Test.YtflakgigekfgcaaCF
namespace Go.Proofs.Ytflakgigekfgcaa
open Go.RowKit Go.Shelf

set_option maxHeartbeats 2000000 in
theorem blocks_nil (w : World) :
    Calls Try.prog 27 #[.nilFunc, .int .i64 0, .int .i64 0] w fun r w' => r = .returned (.func (.func 33) #[] #[.pointer (some ⟨w.heap.size + 1, 0, none⟩), .pointer (some ⟨w.heap.size + 1 + 1, 0, none⟩), .pointer (some ⟨w.heap.size, 0, none⟩)]) ∧ w' = ((w.alloc (Obj.cells #[.nilFunc] 50)).alloc (Obj.cells #[.int .i64 0] 3)).alloc (Obj.cells #[.int .i64 0] 3) := by
  go_enter Try.func27, Try.ntmps27
  go_wp2
  go_ret
  exact ⟨rfl, rfl⟩

section
attribute [local go_sem] Oper.semAt_some

set_option maxHeartbeats 2000000 in
set_option maxRecDepth 100000 in
theorem iter_zero (n : Nat) (l gs ge gb : Nat) (R : World → Prop) (W : World) (hS : Arr W gs 3 [.int .i64 0]) (hE : Arr W ge 3 [.int .i64 0]) (h0 : R W) :
    CallsIn Fence.wide n Try.prog 33 #[.func (.yield l) #[] #[], .pointer (some ⟨gs, 0, none⟩), .pointer (some ⟨ge, 0, none⟩), .pointer (some ⟨gb, 0, none⟩)] W fun r W' => (∃ v, r = .returned v) ∧ R W' := by
  have cs := hS.cell 0
  have ce := hE.cell 0
  clear hS hE
  refine callsIn_of_wp Try.func33 rfl trivial ?_ rfl
  simp only [Try.ntmps33, List.size_toArray, List.length_cons, List.length_nil, Nat.reduceAdd, Nat.reduceSub, Array.replicate_succ, Array.replicate_zero, List.push_toArray, List.append_toArray, List.nil_append, List.cons_append]
  gi_wp2
  gi_loopw [5] (fun v wr => v = .int .i64 0 ∧ wr = W) (fun _ _ => 0)
  case atStart => exact ⟨rfl, rfl⟩
  case round =>
    obtain ⟨rfl, rfl⟩ := hrel
    gi_wp2
    go_end0
    exact ⟨⟨_, rfl⟩, h0⟩

theorem iter_none {α : Type} (n : Nat) (gs ge gb : Nat) (encs : α → Array Value) (Kp : World → World → Prop) (w : World) (hS : Arr w gs 3 [.int .i64 0]) (hE : Arr w ge 3 [.int .i64 0]) :
    SeqStopsK Fence.wide n Try.prog 33 #[.pointer (some ⟨gs, 0, none⟩), .pointer (some ⟨ge, 0, none⟩), .pointer (some ⟨gb, 0, none⟩)] encs Kp (fun ys => ys = []) (fun _ => False) 0 w := fun l J _ W hW _ _ _ h0 =>
  (iter_zero n l gs ge gb (J []) W (hS.kept hW) (hE.kept hW) h0).mono fun _ _ ⟨h1, h2⟩ => ⟨h1, .inl ⟨[], rfl, h2⟩⟩
end

set_option maxHeartbeats 2000000 in
theorem fblocks_none (v : Value) (w : World) (hT : Calls Try.prog 25 #[v] w fun r w' => r = .returned (.bool false) ∧ w' = w) :
    Calls Try.prog 17 #[v] w fun r w' => ∃ gs ge gb, r = .returned (.func (.func 33) #[] #[.pointer (some ⟨gs, 0, none⟩), .pointer (some ⟨ge, 0, none⟩), .pointer (some ⟨gb, 0, none⟩)]) ∧ Arr w' gs 3 [.int .i64 0] ∧ Arr w' ge 3 [.int .i64 0] ∧ Below w.heap.size w w' := by
  have HT := hide hT
  clear hT
  go_enter Try.func17, Try.ntmps17
  go_wp2_with fail
  refine HT.out.mono ?_
  rintro r w1 ⟨rfl, rfl⟩
  go_wp2_with fail
  refine (blocks_nil w1).mono ?_
  rintro r w2 ⟨rfl, hw2⟩
  have H : Hid (Arr w2 (w1.heap.size + 1) 3 [.int .i64 0] ∧ Arr w2 (w1.heap.size + 1 + 1) 3 [.int .i64 0] ∧ Below w1.heap.size w1 w2) := by
    refine ⟨?_, ?_, ?_⟩ <;> rw [hw2]
    · exact (Arr.newAt (w1.alloc _) _ [.int .i64 0] _ (by simp)).alloc _
    · exact Arr.newAt ((w1.alloc _).alloc _) _ [.int .i64 0] _ (by simp)
    · exact (((Below.refl _ _).alloc (Nat.le_refl _) _).alloc (by simp) _).alloc (by simp; omega) _
  clear hw2
  go_wp2
  go_ret
  exact ⟨_, _, _, rfl, H.out.1, H.out.2.1, H.out.2.2⟩

set_option maxHeartbeats 4000000 in
set_option maxRecDepth 100000 in
theorem fblocks_any (key : List Nat) (nn a g q : Nat) (w : World) (hk : Blk key) (hA : Arr w g 41 (flC key nn a true)) (ha : a ≤ 1048576) (hq : q = a / 16) :
    Calls Try.prog 17 #[.pointer (some ⟨g, 0, none⟩)] w fun r w' => ∃ gs ge gb gn gq, r = .returned (.func (.func 33) #[] #[.pointer (some ⟨gs, 0, none⟩), .pointer (some ⟨ge, 0, none⟩), .pointer (some ⟨gb, 0, none⟩)]) ∧ Arr w' gs 3 [.int .i64 (q : Int)] ∧ ItM w' ge gb gn gq 65536 nn key ∧ Below w.heap.size w w' := by
  have HT := hide (there_at key nn a g true w hk.len hA)
  have HA := hide hA
  have IK := hide (szl hk)
  have KL := hide hk.len
  have HM := hide (maker_any key nn)
  have i1 : Int.tdiv (a : Int) 16 = (q : Int) := by rw [Int.tdiv_eq_ediv_of_nonneg (by omega)]; omega
  have wq : IntKind.i64.wrap (q : Int) = (q : Int) := by rw [IntKind.wrap_i64]; omega
  clear hA hk hq
  go_enter Try.func17, Try.ntmps17
  go_wp2_with fail
  refine HT.out.mono ?_
  rintro r w1 ⟨rfl, rfl⟩
  clear HT
  go_upto_region 3 with fail
  refine wp_region_held_drew (S := fun v => Hid (Arr v g 41 (flC key nn a true) ∧ Below w1.heap.size w1 v)) (by kernel_rfl) (hide ⟨HA.out, (Below.refl _ _).drew⟩) (fun hHeld => ?_)
  refine take_dstH (i := 0) (d := 7) (v := ?_) rfl rfl (by kernel_rfl) (by kernel_rfl) (by kernel_rfl) (fun _ _ _ h => h) (by rfl) hHeld ?_ ?_
  rotate_left
  · intro wZ hSw; clear hSw; go_simp; first | (with_reducible rfl) | (rw [if_pos (by omega)]; with_reducible rfl) | skip
  try simp only [Act.put, List.setIfInBounds_toArray, List.set_cons_zero, List.set_cons_succ]
  refine take_dstH (i := 1) (d := 8) (v := ?_) rfl rfl (by kernel_rfl) (by kernel_rfl) (by kernel_rfl) (fun _ _ _ h => h) (by rfl) hHeld ?_ ?_
  rotate_left
  · intro wZ hSw; clear hSw; go_simp; first | (with_reducible rfl) | (rw [if_pos (by omega)]; with_reducible rfl) | skip
  try simp only [Act.put, List.setIfInBounds_toArray, List.set_cons_zero, List.set_cons_succ]
  refine take_dstH (i := 2) (d := 9) (v := ?_) rfl rfl (by kernel_rfl) (by kernel_rfl) (by kernel_rfl) (fun _ _ _ h => h) (by rfl) hHeld ?_ ?_
  rotate_left
  · intro wZ hSw; clear hSw; go_simp; first | (with_reducible rfl) | (rw [if_pos (by omega)]; with_reducible rfl) | skip
  try simp only [Act.put, List.setIfInBounds_toArray, List.set_cons_zero, List.set_cons_succ]
  refine take_dstH (i := 3) (d := 10) (v := ?_) rfl rfl (by kernel_rfl) (by kernel_rfl) (by kernel_rfl) (fun _ _ _ h => h) (by rfl) hHeld ?_ ?_
  rotate_left
  · intro wZ hSw; refine exec_load_mid 22 (.tmp 9) ?_ g 0 ?_ (u8s key) _ (flC_range hSw.out.1) Try.underlying22 rfl IK.out <;> rfl
  try simp only [Act.put, List.setIfInBounds_toArray, List.set_cons_zero, List.set_cons_succ]
  refine take_dstH (i := 4) (d := 11) (v := ?_) rfl rfl (by kernel_rfl) (by kernel_rfl) (by kernel_rfl) (fun _ _ _ h => h) (by rfl) hHeld ?_ ?_
  rotate_left
  · intro wZ hSw; clear hSw; go_simp; first | (with_reducible rfl) | (rw [if_pos (by omega)]; with_reducible rfl) | skip
  try simp only [Act.put, List.setIfInBounds_toArray, List.set_cons_zero, List.set_cons_succ]
  refine take_dstH (i := 5) (d := 12) (v := ?_) rfl rfl (by kernel_rfl) (by kernel_rfl) (by kernel_rfl) (fun _ _ _ h => h) (by rfl) hHeld ?_ ?_
  rotate_left
  · intro wZ hSw; clear hSw; go_simp; first | (with_reducible rfl) | (rw [if_pos (by omega)]; with_reducible rfl) | skip
  try simp only [Act.put, List.setIfInBounds_toArray, List.set_cons_zero, List.set_cons_succ]
  refine take_dstH (i := 6) (d := 13) (v := ?_) rfl rfl (by kernel_rfl) (by kernel_rfl) (by kernel_rfl) (fun _ _ _ h => h) (by rfl) hHeld ?_ ?_
  rotate_left
  · intro wZ hSw; clear hSw; go_simp; first | (with_reducible rfl) | (rw [if_pos (by omega)]; with_reducible rfl) | skip
  try simp only [Act.put, List.setIfInBounds_toArray, List.set_cons_zero, List.set_cons_succ]
  refine take_dstH (i := 7) (d := 14) (v := ?_) rfl rfl (by kernel_rfl) (by kernel_rfl) (by kernel_rfl) (fun _ _ _ h => h) (by rfl) hHeld ?_ ?_
  rotate_left
  · intro wZ hSw; have hfS := (fun (v : World) (h : Hid (Arr v g 41 (flC key nn a true) ∧ Below w1.heap.size w1 v)) => (h.out.1.cell 16).trans (flC_nonce KL.out nn a true)) wZ hSw; clear hSw; go_simp; first | (with_reducible rfl) | (rw [if_pos (by omega)]; with_reducible rfl) | skip
  try simp only [Act.put, List.setIfInBounds_toArray, List.set_cons_zero, List.set_cons_succ]
  refine take_dstH (i := 9) (d := 16) (v := ?_) rfl rfl (by kernel_rfl) (by kernel_rfl) (by kernel_rfl) (fun _ _ _ h => h) (by rfl) hHeld ?_ ?_
  rotate_left
  · intro wZ hSw; clear hSw; go_simp; first | (with_reducible rfl) | (rw [if_pos (by omega)]; with_reducible rfl) | skip
  try simp only [Act.put, List.setIfInBounds_toArray, List.set_cons_zero, List.set_cons_succ]
  refine take_dstH (i := 10) (d := 17) (v := ?_) rfl rfl (by kernel_rfl) (by kernel_rfl) (by kernel_rfl) (fun _ _ _ h => h) (by rfl) hHeld ?_ ?_
  rotate_left
  · intro wZ hSw; clear hSw; go_simp; first | (with_reducible rfl) | (rw [if_pos (by omega)]; with_reducible rfl) | skip
  try simp only [Act.put, List.setIfInBounds_toArray, List.set_cons_zero, List.set_cons_succ]
  refine take_dstH (i := 11) (d := 18) (v := ?_) rfl rfl (by kernel_rfl) (by kernel_rfl) (by kernel_rfl) (fun _ _ _ h => h) (by rfl) hHeld ?_ ?_
  rotate_left
  · intro wZ hSw; clear hSw; go_simp; first | (with_reducible rfl) | (rw [if_pos (by omega)]; with_reducible rfl) | skip
  try simp only [Act.put, List.setIfInBounds_toArray, List.set_cons_zero, List.set_cons_succ]
  refine take_dstH (i := 12) (d := 19) (v := ?_) rfl rfl (by kernel_rfl) (by kernel_rfl) (by kernel_rfl) (fun _ _ _ h => h) (by rfl) hHeld ?_ ?_
  rotate_left
  · intro wZ hSw; have hfS := (fun (v : World) (h : Hid (Arr v g 41 (flC key nn a true) ∧ Below w1.heap.size w1 v)) => (h.out.1.cell 17).trans (flC_at KL.out nn a true)) wZ hSw; clear hSw; go_simp; first | (with_reducible rfl) | (rw [if_pos (by omega)]; with_reducible rfl) | skip
  try simp only [Act.put, List.setIfInBounds_toArray, List.set_cons_zero, List.set_cons_succ]
  refine take_dstH (i := 13) (d := 20) (v := ?_) rfl rfl (by kernel_rfl) (by kernel_rfl) (by kernel_rfl) (fun _ _ _ h => h) (by rfl) hHeld ?_ ?_
  rotate_left
  · intro wZ hSw; clear hSw; go_simp; first | (with_reducible rfl) | (rw [if_pos (by omega)]; with_reducible rfl) | skip
  try simp only [Act.put, List.setIfInBounds_toArray, List.set_cons_zero, List.set_cons_succ]
  refine wpAnyH_ready (rs := [8]) (by kernel_rfl) (by simp) ?_
  refine (AllReadyH.cons rfl (fun K hK => ?_) AllReadyH.nil)
  go_simp
  refine (HM.out _).mono ?_; rintro r w3 ⟨rfl, hw3⟩; have B3 : Hid (Below w1.drew.heap.size w1.drew w3) := (by show Below _ _ _; rw [hw3]; exact ((Below.refl _ _).alloc (Nat.le_refl _) _).alloc (by simp) _); have H3 : Hid (Arr w3 (w1.heap.size + 1) 23 [.int .u64 (nn : Int)] ∧ Arr w3 w1.heap.size 22 (u8s key)) := (by refine ⟨?_, ?_⟩ <;> rw [hw3]; exact Arr.newAt (w1.drew.alloc _) _ [.int .u64 (nn : Int)] _ (by simp); exact (Arr.new w1.drew _ _).alloc _); clear hw3
  go_wp2_with fail
  refine hK.out _ _ ?_ (fun hHeld => ?_)
  · exact (fun h : Hid _ => hide ⟨h.out.1.kept B3.out, h.out.2.trans B3.out⟩) hHeld
  clear hK K
  try simp only [Act.put, List.setIfInBounds_toArray, List.set_cons_zero, List.set_cons_succ]
  refine wpAnyH_ready (rs := [14]) (by kernel_rfl) (by simp) ?_
  refine (AllReadyH.cons rfl (fun K hK => ?_) AllReadyH.nil)
  go_simp
  refine (blocks_any _ _ _ _ _ _).mono ?_; rintro r w4 ⟨rfl, hw4⟩; have B4 : Hid (Below w3.heap.size w3 w4) := (by show Below _ _ _; rw [hw4]; exact (((Below.refl _ _).alloc (Nat.le_refl _) _).alloc (by simp) _).alloc (by simp; omega) _); have H4 : Hid (Arr w4 (w3.heap.size + 1) 3 [.int .i64 (q : Int)] ∧ ItM w4 (w3.heap.size + 1 + 1) w3.heap.size (w1.heap.size + 1) w1.heap.size 65536 nn key) := (by refine ⟨?_, ?_, ?_, H3.out.1.kept B4.out, H3.out.2.kept B4.out⟩ <;> rw [hw4]; exact (Arr.newAt (w3.alloc _) _ [.int .i64 (q : Int)] _ (by simp)).alloc _; exact Arr.newAt ((w3.alloc _).alloc _) _ [.int .i64 65536] _ (by simp); exact ((Arr.new w3 _ [_]).alloc _).alloc _); clear hw4
  go_wp2_with fail
  refine hK.out _ _ ?_ (fun hHeld => ?_)
  · exact (fun h : Hid _ => hide ⟨h.out.1.kept B4.out, h.out.2.trans (B4.out.mono h.out.2.size)⟩) hHeld
  clear hK K
  try simp only [Act.put, List.setIfInBounds_toArray, List.set_cons_zero, List.set_cons_succ]
  refine take_dstH (i := 15) (d := 2) (v := ?_) rfl rfl (by kernel_rfl) (by kernel_rfl) (by kernel_rfl) (fun _ _ _ h => h) (by rfl) hHeld ?_ ?_
  rotate_left
  · intro wZ hSw; clear hSw; go_simp; first | (with_reducible rfl) | (rw [if_pos (by omega)]; with_reducible rfl) | skip
  try simp only [Act.put, List.setIfInBounds_toArray, List.set_cons_zero, List.set_cons_succ]
  refine wpAnyH_done (by kernel_rfl) ?_ _
  have HH := hide hHeld.out
  clear hHeld
  go_wp2
  go_ret
  exact ⟨_, _, _, _, _, rfl, H4.out.1, H4.out.2, HH.out.2⟩

set_option maxHeartbeats 2000000 in
/-- no bytes of a stream -/
theorem strm_none (v : Value) (key : List Nat) (nn : Nat) (f n : Int) (w : World) (hv : v = .agg (u8s key).toArray) (hn1 : -9223372036854775808 ≤ n) (hn2 : n < 9223372036854775808) (h : f < 0 ∨ n < 0 ∨ 1048576 - n < f) :
    Calls Try.prog 10 #[v, .int .u64 (nn : Int), .int .i64 f, .int .i64 n] w fun r w' => r = .returned (.slice none 0 0) ∧ Below w.heap.size w w' := by
  subst hv
  by_cases h1 : f < 0
  · go_enter Try.func10, Try.ntmps10
    go_wp2
    go_ret
    exact ⟨rfl, (Below.refl _ _).alloc (Nat.le_refl _) _⟩
  · by_cases h2 : n < 0
    · go_enter Try.func10, Try.ntmps10
      go_wp2
      go_ret
      exact ⟨rfl, (Below.refl _ _).alloc (Nat.le_refl _) _⟩
    · have HF := hide (fun v => tooFar_any f n (by omega) hn2 v)
      have hd : decide ((1048576 : Int) - n < f) = true := by simp; omega
      rw [hd] at HF
      go_enter Try.func10, Try.ntmps10
      go_wp2_with fail
      refine (HF.out _).mono ?_
      rintro r w1 ⟨rfl, rfl⟩
      go_wp2
      go_ret
      exact ⟨rfl, (Below.refl _ _).alloc (Nat.le_refl _) _⟩

set_option maxHeartbeats 2000000 in
theorem strm_any (key : List Nat) (nn f n : Nat) (w : World) (hk : Blk key) (hnn : nn < 18446744073709551616) (h : f + n ≤ 1048576) :
    Calls Try.prog 10 #[.agg (u8s key).toArray, .int .u64 (nn : Int), .int .i64 (f : Int), .int .i64 (n : Int)] w fun r w' => ∃ v, r = .returned v ∧ w'.ownsRow w.heap.size 5 1 v n (u8s (stF (hbF key nn) f n)) ∧ Below w.heap.size w w' := by
  have HF := hide (fun v => tooFar_any (f : Int) (n : Int) (by omega) (by omega) v)
  have hd : decide ((1048576 : Int) - (n : Int) < (f : Int)) = false := by simp; omega
  rw [hd] at HF
  have HC := hide (fun (w : World) (gn gq : Nat) (hN : Arr w gn 23 [.int .u64 (nn : Int)]) (hK : Arr w gq 22 (u8s key)) => stream_any key gn gq nn f n w hk hnn hN hK (by omega) (by omega))
  have IK := hide (szb hk)
  have HM := hide (maker_any key nn)
  clear hk hd
  generalize stF (hbF key nn) f n = T at *
  have A0 : Hid (Arr (w.alloc (Obj.cells (u8s key).toArray 22)) w.heap.size 22 (u8s key) ∧ Below w.heap.size w (w.alloc (Obj.cells (u8s key).toArray 22))) := ⟨Arr.new w _ _, (Below.refl _ _).alloc (Nat.le_refl _) _⟩
  go_enter Try.func10, Try.ntmps10
  go_wp2_with fail
  refine (HF.out _).mono ?_
  rintro r w0 ⟨rfl, rfl⟩
  go_wp2_with (refine wpList_load_row rfl 22 _ rfl w.heap.size rfl 22 _ (0, 0) _ A0.out.1 Try.underlying22 rfl IK.out ?_)
  generalize w.alloc (Obj.cells (u8s key).toArray 22) = w1 at *
  refine (HM.out w1).mono ?_
  rintro r w2 ⟨rfl, hw2⟩
  have B1 : Below w1.heap.size w1 w2 := by rw [hw2]; exact ((Below.refl _ _).alloc (Nat.le_refl _) _).alloc (by simp) _
  have H2 : Hid (Arr w2 (w1.heap.size + 1) 23 [.int .u64 (nn : Int)] ∧ Arr w2 w1.heap.size 22 (u8s key) ∧ Below w.heap.size w w2) := by
    refine ⟨?_, ?_, ?_⟩
    · rw [hw2]; exact Arr.newAt (w1.alloc _) _ [.int .u64 (nn : Int)] _ (by simp)
    · rw [hw2]; exact (Arr.new w1 _ _).alloc _
    · exact A0.out.2.trans (B1.mono A0.out.2.size)
  clear hw2 B1 A0
  generalize w1.heap.size = g1 at *
  go_wp2_with fail
  refine (HC.out _ _ _ H2.out.1 H2.out.2.1).mono ?_
  rintro r w3 ⟨v, rfl, ho, hb⟩
  have h2 := H2.out.2.2
  have HO : Hid (w3.ownsRow w.heap.size 5 1 v n (u8s T)) := own_base ho h2.size
  have HB := hide (h2.trans (hb.mono h2.size))
  clear ho hb h2 HC
  go_wp2
  go_ret
  exact ⟨_, rfl, HO.out, HB.out⟩

end Go.Proofs.Ytflakgigekfgcaa
