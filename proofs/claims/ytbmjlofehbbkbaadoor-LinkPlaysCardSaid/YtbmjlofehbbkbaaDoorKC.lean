/-
  Several texts, joined: IK, IL, IN, IO.
-/
import Derived.Test.YtbmjlofehbbkbaaDoorKB
import Derived.Test.YtbmjlofehbbkbaaDoorJX

/- Walks: what a fresh packet changes (take). -/
namespace Go.Proofs.YtbmjlofehbbkbaaDoor
open Go.RowKit

/-- what lies in memory while a packet is taken -/
structure TkS (w wx : World) (g G : Nat) (K : Lk) (n : Nat) (s x : Int) (t : Value) : Prop where
  l : Arr wx g 63 (lkC K)
  p : Arr wx G 82 (lpC n s x t)
  b : w.grownBy wx (some g)
  ne : g ≠ G
  k : IsKey K.code K.mark
theorem TkS.kept {w wx w' : World} {g G : Nat} {K : Lk} {n : Nat} {s x : Int} {t : Value} (h : TkS w wx g G K n s x t) (hb : Below wx.heap.size wx w') : TkS w w' g G K n s x t :=
  ⟨h.l.kept hb, h.p.kept hb, grown_trans h.b (below_grown hb _), h.ne, h.k⟩
theorem TkS.set {w wx : World} {g G : Nat} {K : Lk} {n : Nat} {s x : Int} {t : Value} (h : TkS w wx g G K n s x t) (i : Nat) (v : Value) {K' : Lk} (hv : (lkC K).set i v = lkC K') (hk : IsKey K'.code K'.mark) : TkS w (wx.setCell ⟨g, i, none⟩ v) g G K' n s x t := by
  have h1 := h.l.set i v
  rw [hv] at h1
  exact ⟨h1, h.p.grown (lk_grown_set _ _ _ _) (fun e => h.ne e.symm), grown_trans h.b (lk_grown_set _ _ _ _), h.ne, hk⟩
theorem TkS.row {w wx : World} {g G : Nat} {K : Lk} {n : Nat} {s x : Int} {t : Value} (h : TkS w wx g G K n s x t) {K' : Lk} (hk : IsKey K'.code K'.mark) : TkS w (wx.setRow g (lkC K').toArray) g G K' n s x t :=
  ⟨h.l.row _, h.p.rowOther _ _ (fun e => h.ne e.symm), grown_trans h.b (lk_grown_row _ _ _), h.ne, hk⟩
theorem TkS.cell {w wx : World} {g G : Nat} {K : Lk} {n : Nat} {s x : Int} {t : Value} (h : TkS w wx g G K n s x t) (j : Nat) : wx.cell? ⟨g, 48 + j, none⟩ = (lkT K true)[j]? := by rw [h.l.cell, lkC_at h.k]
theorem TkS.met {w wx : World} {g G : Nat} {K : Lk} {n : Nat} {s x : Int} {t : Value} (h : TkS w wx g G K n s x t) : wx.rangeAt g 54 (meC K.m) := fun j v hv => by
  have hj : j < 3 := (List.getElem?_eq_some_iff.1 hv).1
  rw [show 54 + j = 48 + (6 + j) by omega, h.cell]
  rw [← hv]
  match j, hj with
  | 0, _ => rfl
  | 1, _ => rfl
  | 2, _ => rfl

theorem pk_box (w : World) (n : Nat) (s x : Int) (q : Option Addr) (k c : Nat) : Arr (w.alloc (Obj.cells #[Value.int .u64 (n : Int), Value.int .i64 s, Value.int .i64 x, Value.slice q k c] 82)) w.heap.size 82 (lpC n s x (.slice q k c)) ∧ Below w.heap.size w (w.alloc (Obj.cells #[Value.int .u64 (n : Int), Value.int .i64 s, Value.int .i64 x, Value.slice q k c] 82)) := ⟨Arr.new w _ _, (Below.refl _ _).alloc (Nat.le_refl _) _⟩

set_option maxHeartbeats 4000000 in
set_option maxRecDepth 100000 in
/-- a packet that is not fresh -/
theorem take_old (g : Nat) (L : Lk) (n : Nat) (s x now frm : Int) (q : Option Addr) (k c : Nat) (w : World) (hL : LkAt w g L) (hf : L.fresh n = false) :
    Calls Tryd.prog 36 #[.pointer (some ⟨g, 0, none⟩), .agg (lpC n s x (.slice q k c)).toArray, .int .i64 now, .int .i64 frm] w fun e w' => e = .returned (.tuple #[]) ∧ Below w.heap.size w w' := by
  have hh : L.heard = true := by
    unfold Lk.fresh at hf
    cases e : L.heard
    · rw [e] at hf; simp at hf
    · rfl
  have hn : decide (n ≤ L.newest) = true := by
    unfold Lk.fresh at hf
    rw [hh] at hf
    simp at hf
    simp; omega
  have HL := hide (fun (v : World) (hb : Below w.heap.size w v) => (hL.kept hb).cells)
  rw [hh] at HL
  have A1 := hide (pk_box w n s x q k c)
  clear hf hL hh
  go_enter Tryd.func36, Tryd.ntmps36
  go_upto_region 1 with fail
  generalize w.alloc (Obj.cells #[Value.int .u64 (n : Int), Value.int .i64 s, Value.int .i64 x, Value.slice q k c] 82) = w1 at *
  have h52 : Hid (∀ v, Hid (Below w.heap.size w v ∧ Arr v w.heap.size 82 (lpC n s x (.slice q k c))) → v.cell? ⟨g, 52, none⟩ = some (.bool true)) := fun v hv => (HL.out v hv.out.1).2.2.2.2.1
  have h53 : Hid (∀ v, Hid (Below w.heap.size w v ∧ Arr v w.heap.size 82 (lpC n s x (.slice q k c))) → v.cell? ⟨g, 53, none⟩ = some (.int .u64 (L.newest : Int))) := fun v hv => (HL.out v hv.out.1).2.2.2.2.2
  have hp0 : Hid (∀ v, Hid (Below w.heap.size w v ∧ Arr v w.heap.size 82 (lpC n s x (.slice q k c))) → v.cell? ⟨w.heap.size, 0, none⟩ = some (.int .u64 (n : Int))) := fun v hv => hv.out.2.cell 0
  refine wp_region_held_drew (S := fun v => Hid (Below w.heap.size w v ∧ Arr v w.heap.size 82 (lpC n s x (.slice q k c)))) (by kernel_rfl) (hide ⟨A1.out.2.drew, A1.out.1⟩) (fun hHeld => ?_)
  refine take_dstH (i := 0) (d := 9) (v := ?_) rfl rfl (by kernel_rfl) (by kernel_rfl) (by kernel_rfl) (fun _ _ _ h => h) (by rfl) hHeld ?_ ?_
  rotate_left
  · intro wZ hSw; clear hSw; go_simp; first | (with_reducible rfl) | (rw [if_pos (by omega)]; with_reducible rfl) | skip
  try simp only [Act.put, List.setIfInBounds_toArray, List.set_cons_zero, List.set_cons_succ]
  refine take_dstH (i := 1) (d := 10) (v := ?_) rfl rfl (by kernel_rfl) (by kernel_rfl) (by kernel_rfl) (fun _ _ _ h => h) (by rfl) hHeld ?_ ?_
  rotate_left
  · intro wZ hSw; clear hSw; go_simp; first | (with_reducible rfl) | (rw [if_pos (by omega)]; with_reducible rfl) | skip
  try simp only [Act.put, List.setIfInBounds_toArray, List.set_cons_zero, List.set_cons_succ]
  refine take_dstH (i := 2) (d := 11) (v := ?_) rfl rfl (by kernel_rfl) (by kernel_rfl) (by kernel_rfl) (fun _ _ _ h => h) (by rfl) hHeld ?_ ?_
  rotate_left
  · intro wZ hSw; clear hSw; go_simp; first | (with_reducible rfl) | (rw [if_pos (by omega)]; with_reducible rfl) | skip
  try simp only [Act.put, List.setIfInBounds_toArray, List.set_cons_zero, List.set_cons_succ]
  refine take_dstH (i := 3) (d := 12) (v := ?_) rfl rfl (by kernel_rfl) (by kernel_rfl) (by kernel_rfl) (fun _ _ _ h => h) (by rfl) hHeld ?_ ?_
  rotate_left
  · intro wZ hSw; have hfS := h52.out wZ hSw; clear hSw; go_simp; first | (with_reducible rfl) | (rw [if_pos (by omega)]; with_reducible rfl) | skip
  try simp only [Act.put, List.setIfInBounds_toArray, List.set_cons_zero, List.set_cons_succ]
  refine take_dstH (i := 4) (d := 13) (v := ?_) rfl rfl (by kernel_rfl) (by kernel_rfl) (by kernel_rfl) (fun _ _ _ h => h) (by rfl) hHeld ?_ ?_
  rotate_left
  · intro wZ hSw; clear hSw; go_simp; first | (with_reducible rfl) | (rw [if_pos (by omega)]; with_reducible rfl) | skip
  try simp only [Act.put, List.setIfInBounds_toArray, List.set_cons_zero, List.set_cons_succ]
  refine take_dstH (i := 5) (d := 14) (v := ?_) rfl rfl (by kernel_rfl) (by kernel_rfl) (by kernel_rfl) (fun _ _ _ h => h) (by rfl) hHeld ?_ ?_
  rotate_left
  · intro wZ hSw; clear hSw; go_simp; first | (with_reducible rfl) | (rw [if_pos (by omega)]; with_reducible rfl) | skip
  try simp only [Act.put, List.setIfInBounds_toArray, List.set_cons_zero, List.set_cons_succ]
  refine take_dstH (i := 6) (d := 15) (v := ?_) rfl rfl (by kernel_rfl) (by kernel_rfl) (by kernel_rfl) (fun _ _ _ h => h) (by rfl) hHeld ?_ ?_
  rotate_left
  · intro wZ hSw; have hfS := hp0.out wZ hSw; clear hSw; go_simp; first | (with_reducible rfl) | (rw [if_pos (by omega)]; with_reducible rfl) | skip
  try simp only [Act.put, List.setIfInBounds_toArray, List.set_cons_zero, List.set_cons_succ]
  refine take_dstH (i := 7) (d := 16) (v := ?_) rfl rfl (by kernel_rfl) (by kernel_rfl) (by kernel_rfl) (fun _ _ _ h => h) (by rfl) hHeld ?_ ?_
  rotate_left
  · intro wZ hSw; clear hSw; go_simp; first | (with_reducible rfl) | (rw [if_pos (by omega)]; with_reducible rfl) | skip
  try simp only [Act.put, List.setIfInBounds_toArray, List.set_cons_zero, List.set_cons_succ]
  refine take_dstH (i := 8) (d := 17) (v := ?_) rfl rfl (by kernel_rfl) (by kernel_rfl) (by kernel_rfl) (fun _ _ _ h => h) (by rfl) hHeld ?_ ?_
  rotate_left
  · intro wZ hSw; clear hSw; go_simp; first | (with_reducible rfl) | (rw [if_pos (by omega)]; with_reducible rfl) | skip
  try simp only [Act.put, List.setIfInBounds_toArray, List.set_cons_zero, List.set_cons_succ]
  refine take_dstH (i := 9) (d := 18) (v := ?_) rfl rfl (by kernel_rfl) (by kernel_rfl) (by kernel_rfl) (fun _ _ _ h => h) (by rfl) hHeld ?_ ?_
  rotate_left
  · intro wZ hSw; clear hSw; go_simp; first | (with_reducible rfl) | (rw [if_pos (by omega)]; with_reducible rfl) | skip
  try simp only [Act.put, List.setIfInBounds_toArray, List.set_cons_zero, List.set_cons_succ]
  refine take_dstH (i := 10) (d := 19) (v := ?_) rfl rfl (by kernel_rfl) (by kernel_rfl) (by kernel_rfl) (fun _ _ _ h => h) (by rfl) hHeld ?_ ?_
  rotate_left
  · intro wZ hSw; have hfS := h53.out wZ hSw; clear hSw; go_simp; first | (with_reducible rfl) | (rw [if_pos (by omega)]; with_reducible rfl) | skip
  try simp only [Act.put, List.setIfInBounds_toArray, List.set_cons_zero, List.set_cons_succ]
  refine take_dstH (i := 11) (d := 20) (v := ?_) rfl rfl (by kernel_rfl) (by kernel_rfl) (by kernel_rfl) (fun _ _ _ h => h) (by rfl) hHeld ?_ ?_
  rotate_left
  · intro wZ hSw; clear hSw; go_simp; first | (with_reducible rfl) | (rw [if_pos (by omega)]; with_reducible rfl) | skip
  try simp only [Act.put, List.setIfInBounds_toArray, List.set_cons_zero, List.set_cons_succ]
  refine take_dstH (i := 12) (d := 21) (v := ?_) rfl rfl (by kernel_rfl) (by kernel_rfl) (by kernel_rfl) (fun _ _ _ h => h) (by rfl) hHeld ?_ ?_
  rotate_left
  · intro wZ hSw; clear hSw; go_simp; first | (with_reducible rfl) | (rw [if_pos (by omega)]; with_reducible rfl) | skip
  try simp only [Act.put, List.setIfInBounds_toArray, List.set_cons_zero, List.set_cons_succ]
  refine wpAnyH_done (by kernel_rfl) ?_ _
  have HB := hide hHeld.out.1
  clear hHeld A1 HL h52 h53 hp0
  go_wp2
  exact bodyPost_ret (results_none rfl _ _ _) rfl ⟨rfl, HB.out⟩

theorem one_ecK (b : Bool) (x y : Int) : (ecC b x y).toArray.all (·.oneCell') = true := by simp [Value.oneCell']
theorem newest_built (b : Bool) (s now : Int) : Tryd.prog.built 61 [(0, .bool b), (1, .int .i64 s), (2, .int .i64 now)] = some (ecC b s now).toArray := by kernel_rfl
theorem one_piece {w : World} {g : Nat} {x : Int} (h : w.cell? ⟨g, 0, none⟩ = some (.int .i64 x)) : IPiece w (some ⟨g, 0, none⟩) 1 [x] :=
  ⟨Or.inr ⟨g, 0, rfl, fun i hi => by have : i = 0 := by simpa using hi
                                     subst this; simpa using h⟩, (fun e => by cases e), Nat.le_refl _, by unfold maxLen; omega⟩
theorem hearM_one {m : Me} {s : Int} (h : m.may) (hs : Samp s) : hearM m [s] = m.one s ∧ hearE m [s] = 0 := by
  have h1 : m.may ∧ ∀ x ∈ [s], Samp x := ⟨h, fun x hx => by rw [List.mem_singleton] at hx; rw [hx]; exact hs⟩
  exact ⟨by rw [hearM, if_pos h1]; rfl, by rw [hearE, if_pos h1]⟩

set_option maxHeartbeats 8000000 in
set_option maxRecDepth 100000 in
/-- behind the stores of a fresh one's number -/
theorem take_start (g : Nat) (L : Lk) (n : Nat) (s x now frm : Int) (q : Option Addr) (k c : Nat) (w : World) (hL : LkAt w g L) (hf : L.fresh n = true) (M : Me) (way : Int) (hway : (now - x) % 65535 = way) (hx : 0 ≤ x) (hx2 : x ≤ 65535) (hnow : IsTime now) (hM : metF L.m x now = M) :
    Calls Tryd.prog 36 #[.pointer (some ⟨g, 0, none⟩), .agg (lpC n s x (.slice q k c)).toArray, .int .i64 now, .int .i64 frm] w fun e w' => e = .returned (.tuple #[]) ∧ Arr w' g 63 (lkC (L.took n s x now frm)) ∧ w.grownBy w' (some g) := by
  have HTK : Hid (L.took n s x now frm = { L with heard := true, newest := n, addr := if L.down then frm else L.addr, is := true, stamp := s, told := now, m := M }) := by show _ = _; unfold Lk.took; rw [if_pos hf, hM]
  have HL := hide (fun (v : World) (hb : Below w.heap.size w v) => (hL.kept hb))
  have HKY := hide hL.ok.key
  have HGL := hide hL.lt
  have HMAY := hide hL.ok.may
  have A1 := hide (pk_box w n s x q k c)
  have HC : Hid (L.heard = false ∨ (L.heard = true ∧ decide (n ≤ L.newest) = false)) := by
    show _ ∨ _
    unfold Lk.fresh at hf
    cases e : L.heard
    · exact Or.inl rfl
    · rw [e] at hf
      simp at hf
      exact Or.inr ⟨rfl, by simp; omega⟩
  have HX := hide (And.intro hx hx2)
  have HN := hide hnow
  have HW := hide hway
  have HMM := hide hM
  clear hL hf hx hx2 hnow hway hM
  generalize L.took n s x now frm = KT at *
  go_enter Tryd.func36, Tryd.ntmps36
  go_upto_region 1 with fail
  generalize w.alloc (Obj.cells #[Value.int .u64 (n : Int), Value.int .i64 s, Value.int .i64 x, Value.slice q k c] 82) = w1 at *
  have h53 : Hid (∀ v, Hid (Below w.heap.size w v ∧ Arr v w.heap.size 82 (lpC n s x (.slice q k c))) → v.cell? ⟨g, 53, none⟩ = some (.int .u64 (L.newest : Int))) := fun v hv => (HL.out v hv.out.1).cells.2.2.2.2.2
  have hp0 : Hid (∀ v, Hid (Below w.heap.size w v ∧ Arr v w.heap.size 82 (lpC n s x (.slice q k c))) → v.cell? ⟨w.heap.size, 0, none⟩ = some (.int .u64 (n : Int))) := fun v hv => hv.out.2.cell 0
  go_cut [21] (fun s21 wx => s21 = .bool false ∧ Hid (Below w.heap.size w wx ∧ Arr wx w.heap.size 82 (lpC n s x (.slice q k c))))
  case first =>
    rcases HC.out with hh | ⟨hh, hn⟩
    · have h52 : Hid (∀ v, Hid (Below w.heap.size w v ∧ Arr v w.heap.size 82 (lpC n s x (.slice q k c))) → v.cell? ⟨g, 52, none⟩ = some (.bool false)) := fun v hv => by rw [← hh]; exact (HL.out v hv.out.1).cells.2.2.2.2.1
      clear hh
      refine wp_region_held_drew (S := fun v => Hid (Below w.heap.size w v ∧ Arr v w.heap.size 82 (lpC n s x (.slice q k c)))) (by kernel_rfl) (hide ⟨A1.out.2.drew, A1.out.1⟩) (fun hHeld => ?_)
      refine take_dstH (i := 0) (d := 9) (v := ?_) rfl rfl (by kernel_rfl) (by kernel_rfl) (by kernel_rfl) (fun _ _ _ h => h) (by rfl) hHeld ?_ ?_
      rotate_left
      · intro wZ hSw; clear hSw; go_simp; first | (with_reducible rfl) | (rw [if_pos (by omega)]; with_reducible rfl) | skip
      try simp only [Act.put, List.setIfInBounds_toArray, List.set_cons_zero, List.set_cons_succ]
      refine take_dstH (i := 1) (d := 10) (v := ?_) rfl rfl (by kernel_rfl) (by kernel_rfl) (by kernel_rfl) (fun _ _ _ h => h) (by rfl) hHeld ?_ ?_
      rotate_left
      · intro wZ hSw; clear hSw; go_simp; first | (with_reducible rfl) | (rw [if_pos (by omega)]; with_reducible rfl) | skip
      try simp only [Act.put, List.setIfInBounds_toArray, List.set_cons_zero, List.set_cons_succ]
      refine take_dstH (i := 2) (d := 11) (v := ?_) rfl rfl (by kernel_rfl) (by kernel_rfl) (by kernel_rfl) (fun _ _ _ h => h) (by rfl) hHeld ?_ ?_
      rotate_left
      · intro wZ hSw; clear hSw; go_simp; first | (with_reducible rfl) | (rw [if_pos (by omega)]; with_reducible rfl) | skip
      try simp only [Act.put, List.setIfInBounds_toArray, List.set_cons_zero, List.set_cons_succ]
      refine take_dstH (i := 3) (d := 12) (v := ?_) rfl rfl (by kernel_rfl) (by kernel_rfl) (by kernel_rfl) (fun _ _ _ h => h) (by rfl) hHeld ?_ ?_
      rotate_left
      · intro wZ hSw; have hfS := h52.out wZ hSw; clear hSw; go_simp; first | (with_reducible rfl) | (rw [if_pos (by omega)]; with_reducible rfl) | skip
      try simp only [Act.put, List.setIfInBounds_toArray, List.set_cons_zero, List.set_cons_succ]
      refine take_dstH (i := 4) (d := 13) (v := ?_) rfl rfl (by kernel_rfl) (by kernel_rfl) (by kernel_rfl) (fun _ _ _ h => h) (by rfl) hHeld ?_ ?_
      rotate_left
      · intro wZ hSw; clear hSw; go_simp; first | (with_reducible rfl) | (rw [if_pos (by omega)]; with_reducible rfl) | skip
      try simp only [Act.put, List.setIfInBounds_toArray, List.set_cons_zero, List.set_cons_succ]
      refine skip_dstH (i := 5) (d := 14) rfl rfl (by kernel_rfl) (by kernel_rfl) (by kernel_rfl) (fun _ _ _ h => h) (by rfl) hHeld ?_
      try simp only [Act.put, List.setIfInBounds_toArray, List.set_cons_zero, List.set_cons_succ]
      refine skip_dstH (i := 6) (d := 15) rfl rfl (by kernel_rfl) (by kernel_rfl) (by kernel_rfl) (fun _ _ _ h => h) (by rfl) hHeld ?_
      try simp only [Act.put, List.setIfInBounds_toArray, List.set_cons_zero, List.set_cons_succ]
      refine skip_dstH (i := 7) (d := 16) rfl rfl (by kernel_rfl) (by kernel_rfl) (by kernel_rfl) (fun _ _ _ h => h) (by rfl) hHeld ?_
      try simp only [Act.put, List.setIfInBounds_toArray, List.set_cons_zero, List.set_cons_succ]
      refine skip_dstH (i := 8) (d := 17) rfl rfl (by kernel_rfl) (by kernel_rfl) (by kernel_rfl) (fun _ _ _ h => h) (by rfl) hHeld ?_
      try simp only [Act.put, List.setIfInBounds_toArray, List.set_cons_zero, List.set_cons_succ]
      refine skip_dstH (i := 9) (d := 18) rfl rfl (by kernel_rfl) (by kernel_rfl) (by kernel_rfl) (fun _ _ _ h => h) (by rfl) hHeld ?_
      try simp only [Act.put, List.setIfInBounds_toArray, List.set_cons_zero, List.set_cons_succ]
      refine skip_dstH (i := 10) (d := 19) rfl rfl (by kernel_rfl) (by kernel_rfl) (by kernel_rfl) (fun _ _ _ h => h) (by rfl) hHeld ?_
      try simp only [Act.put, List.setIfInBounds_toArray, List.set_cons_zero, List.set_cons_succ]
      refine skip_dstH (i := 11) (d := 20) rfl rfl (by kernel_rfl) (by kernel_rfl) (by kernel_rfl) (fun _ _ _ h => h) (by rfl) hHeld ?_
      try simp only [Act.put, List.setIfInBounds_toArray, List.set_cons_zero, List.set_cons_succ]
      refine take_dstH (i := 12) (d := 21) (v := ?_) rfl rfl (by kernel_rfl) (by kernel_rfl) (by kernel_rfl) (fun _ _ _ h => h) (by rfl) hHeld ?_ ?_
      rotate_left
      · intro wZ hSw; clear hSw; go_simp; first | (with_reducible rfl) | (rw [if_pos (by omega)]; with_reducible rfl) | skip
      try simp only [Act.put, List.setIfInBounds_toArray, List.set_cons_zero, List.set_cons_succ]
      refine wpAnyH_done (by kernel_rfl) ?_ _
      go_wp2_with fail
      go_meet
      case rel => exact ⟨rfl, hHeld.out⟩
    · have h52 : Hid (∀ v, Hid (Below w.heap.size w v ∧ Arr v w.heap.size 82 (lpC n s x (.slice q k c))) → v.cell? ⟨g, 52, none⟩ = some (.bool true)) := fun v hv => by rw [← hh]; exact (HL.out v hv.out.1).cells.2.2.2.2.1
      clear hh
      refine wp_region_held_drew (S := fun v => Hid (Below w.heap.size w v ∧ Arr v w.heap.size 82 (lpC n s x (.slice q k c)))) (by kernel_rfl) (hide ⟨A1.out.2.drew, A1.out.1⟩) (fun hHeld => ?_)
      refine take_dstH (i := 0) (d := 9) (v := ?_) rfl rfl (by kernel_rfl) (by kernel_rfl) (by kernel_rfl) (fun _ _ _ h => h) (by rfl) hHeld ?_ ?_
      rotate_left
      · intro wZ hSw; clear hSw; go_simp; first | (with_reducible rfl) | (rw [if_pos (by omega)]; with_reducible rfl) | skip
      try simp only [Act.put, List.setIfInBounds_toArray, List.set_cons_zero, List.set_cons_succ]
      refine take_dstH (i := 1) (d := 10) (v := ?_) rfl rfl (by kernel_rfl) (by kernel_rfl) (by kernel_rfl) (fun _ _ _ h => h) (by rfl) hHeld ?_ ?_
      rotate_left
      · intro wZ hSw; clear hSw; go_simp; first | (with_reducible rfl) | (rw [if_pos (by omega)]; with_reducible rfl) | skip
      try simp only [Act.put, List.setIfInBounds_toArray, List.set_cons_zero, List.set_cons_succ]
      refine take_dstH (i := 2) (d := 11) (v := ?_) rfl rfl (by kernel_rfl) (by kernel_rfl) (by kernel_rfl) (fun _ _ _ h => h) (by rfl) hHeld ?_ ?_
      rotate_left
      · intro wZ hSw; clear hSw; go_simp; first | (with_reducible rfl) | (rw [if_pos (by omega)]; with_reducible rfl) | skip
      try simp only [Act.put, List.setIfInBounds_toArray, List.set_cons_zero, List.set_cons_succ]
      refine take_dstH (i := 3) (d := 12) (v := ?_) rfl rfl (by kernel_rfl) (by kernel_rfl) (by kernel_rfl) (fun _ _ _ h => h) (by rfl) hHeld ?_ ?_
      rotate_left
      · intro wZ hSw; have hfS := h52.out wZ hSw; clear hSw; go_simp; first | (with_reducible rfl) | (rw [if_pos (by omega)]; with_reducible rfl) | skip
      try simp only [Act.put, List.setIfInBounds_toArray, List.set_cons_zero, List.set_cons_succ]
      refine take_dstH (i := 4) (d := 13) (v := ?_) rfl rfl (by kernel_rfl) (by kernel_rfl) (by kernel_rfl) (fun _ _ _ h => h) (by rfl) hHeld ?_ ?_
      rotate_left
      · intro wZ hSw; clear hSw; go_simp; first | (with_reducible rfl) | (rw [if_pos (by omega)]; with_reducible rfl) | skip
      try simp only [Act.put, List.setIfInBounds_toArray, List.set_cons_zero, List.set_cons_succ]
      refine take_dstH (i := 5) (d := 14) (v := ?_) rfl rfl (by kernel_rfl) (by kernel_rfl) (by kernel_rfl) (fun _ _ _ h => h) (by rfl) hHeld ?_ ?_
      rotate_left
      · intro wZ hSw; clear hSw; go_simp; first | (with_reducible rfl) | (rw [if_pos (by omega)]; with_reducible rfl) | skip
      try simp only [Act.put, List.setIfInBounds_toArray, List.set_cons_zero, List.set_cons_succ]
      refine take_dstH (i := 6) (d := 15) (v := ?_) rfl rfl (by kernel_rfl) (by kernel_rfl) (by kernel_rfl) (fun _ _ _ h => h) (by rfl) hHeld ?_ ?_
      rotate_left
      · intro wZ hSw; have hfS := hp0.out wZ hSw; clear hSw; go_simp; first | (with_reducible rfl) | (rw [if_pos (by omega)]; with_reducible rfl) | skip
      try simp only [Act.put, List.setIfInBounds_toArray, List.set_cons_zero, List.set_cons_succ]
      refine take_dstH (i := 7) (d := 16) (v := ?_) rfl rfl (by kernel_rfl) (by kernel_rfl) (by kernel_rfl) (fun _ _ _ h => h) (by rfl) hHeld ?_ ?_
      rotate_left
      · intro wZ hSw; clear hSw; go_simp; first | (with_reducible rfl) | (rw [if_pos (by omega)]; with_reducible rfl) | skip
      try simp only [Act.put, List.setIfInBounds_toArray, List.set_cons_zero, List.set_cons_succ]
      refine take_dstH (i := 8) (d := 17) (v := ?_) rfl rfl (by kernel_rfl) (by kernel_rfl) (by kernel_rfl) (fun _ _ _ h => h) (by rfl) hHeld ?_ ?_
      rotate_left
      · intro wZ hSw; clear hSw; go_simp; first | (with_reducible rfl) | (rw [if_pos (by omega)]; with_reducible rfl) | skip
      try simp only [Act.put, List.setIfInBounds_toArray, List.set_cons_zero, List.set_cons_succ]
      refine take_dstH (i := 9) (d := 18) (v := ?_) rfl rfl (by kernel_rfl) (by kernel_rfl) (by kernel_rfl) (fun _ _ _ h => h) (by rfl) hHeld ?_ ?_
      rotate_left
      · intro wZ hSw; clear hSw; go_simp; first | (with_reducible rfl) | (rw [if_pos (by omega)]; with_reducible rfl) | skip
      try simp only [Act.put, List.setIfInBounds_toArray, List.set_cons_zero, List.set_cons_succ]
      refine take_dstH (i := 10) (d := 19) (v := ?_) rfl rfl (by kernel_rfl) (by kernel_rfl) (by kernel_rfl) (fun _ _ _ h => h) (by rfl) hHeld ?_ ?_
      rotate_left
      · intro wZ hSw; have hfS := h53.out wZ hSw; clear hSw; go_simp; first | (with_reducible rfl) | (rw [if_pos (by omega)]; with_reducible rfl) | skip
      try simp only [Act.put, List.setIfInBounds_toArray, List.set_cons_zero, List.set_cons_succ]
      refine take_dstH (i := 11) (d := 20) (v := ?_) rfl rfl (by kernel_rfl) (by kernel_rfl) (by kernel_rfl) (fun _ _ _ h => h) (by rfl) hHeld ?_ ?_
      rotate_left
      · intro wZ hSw; clear hSw; go_simp; first | (with_reducible rfl) | (rw [if_pos (by omega)]; with_reducible rfl) | skip
      try simp only [Act.put, List.setIfInBounds_toArray, List.set_cons_zero, List.set_cons_succ]
      refine take_dstH (i := 12) (d := 21) (v := ?_) rfl rfl (by kernel_rfl) (by kernel_rfl) (by kernel_rfl) (fun _ _ _ h => h) (by rfl) hHeld ?_ ?_
      rotate_left
      · intro wZ hSw; clear hSw; go_simp; first | (with_reducible rfl) | (rw [if_pos (by omega)]; with_reducible rfl) | skip
      try simp only [Act.put, List.setIfInBounds_toArray, List.set_cons_zero, List.set_cons_succ]
      refine wpAnyH_done (by kernel_rfl) ?_ _
      go_wp2_with fail
      go_meet
      case rel => exact ⟨rfl, hHeld.out⟩
  case rest =>
    obtain ⟨rfl, H2⟩ := hcut
    clear A1 HC h53 hp0
    have HNE : Hid (g ≠ w.heap.size) := Nat.ne_of_lt HGL.out
    have hne : g ≠ w.heap.size := HNE.out
    have HT0 : Hid (TkS w wc.drew g w.heap.size L n s x (.slice q k c)) := ⟨(HL.out wc H2.out.1).a, H2.out.2, below_grown H2.out.1.drew _, HNE.out, HKY.out⟩
    have hq0 : Hid (∀ v, Hid (Arr v w.heap.size 82 (lpC n s x (.slice q k c))) → v.cell? ⟨w.heap.size, 0, none⟩ = some (.int .u64 (n : Int))) := fun v hv => hv.out.cell 0
    have HT1 := hide (HT0.out.set 52 (.bool true) (K' := { L with heard := true }) (lkC_heard HKY.out true) HKY.out)
    have HT2 := hide (HT1.out.set 53 (.int .u64 (n : Int)) (K' := { ({ L with heard := true } : Lk) with newest := n }) (lkC_newest (L := { L with heard := true }) HKY.out n) HKY.out)
    have HP6 : Hid (Arr (wc.setCell ⟨g, 52, none⟩ (.bool true)).drew w.heap.size 82 (lpC n s x (.slice q k c))) := HT1.out.p
    have HP9 : Hid (Arr ((wc.setCell ⟨g, 52, none⟩ (.bool true)).setCell ⟨g, 53, none⟩ (.int .u64 (n : Int))).drew w.heap.size 82 (lpC n s x (.slice q k c))) := HT2.out.p
    clear H2 HL
    have g52 : wc.cell? ⟨g, 52, none⟩ = some (.bool L.heard) := HT0.out.cell 4
    have g53 : wc.cell? ⟨g, 53, none⟩ = some (.int .u64 (L.newest : Int)) := HT0.out.cell 5
    have f52 : wc.frozen? ⟨g, 52, none⟩ = false := HT0.out.l.frozen 52
    have f53 : wc.frozen? ⟨g, 53, none⟩ = false := HT0.out.l.frozen 53
    go_upto_region 2 with fail
    refine wp_region_held_drew (S := fun v => Hid (Arr v w.heap.size 82 (lpC n s x (.slice q k c)))) (by kernel_rfl) (hide HT0.out.p) (fun hHeld => ?_)
    refine take_dstH (i := 0) (d := 22) (v := ?_) rfl rfl (by kernel_rfl) (by kernel_rfl) (by kernel_rfl) (fun _ _ _ h => h) (by rfl) hHeld ?_ ?_
    rotate_left
    · intro wZ hSw; clear hSw; go_simp; first | (with_reducible rfl) | (rw [if_pos (by omega)]; with_reducible rfl) | skip
    try simp only [Act.put, List.setIfInBounds_toArray, List.set_cons_zero, List.set_cons_succ]
    refine take_dstH (i := 1) (d := 23) (v := ?_) rfl rfl (by kernel_rfl) (by kernel_rfl) (by kernel_rfl) (fun _ _ _ h => h) (by rfl) hHeld ?_ ?_
    rotate_left
    · intro wZ hSw; clear hSw; go_simp; first | (with_reducible rfl) | (rw [if_pos (by omega)]; with_reducible rfl) | skip
    try simp only [Act.put, List.setIfInBounds_toArray, List.set_cons_zero, List.set_cons_succ]
    refine take_dstH (i := 2) (d := 24) (v := ?_) rfl rfl (by kernel_rfl) (by kernel_rfl) (by kernel_rfl) (fun _ _ _ h => h) (by rfl) hHeld ?_ ?_
    rotate_left
    · intro wZ hSw; clear hSw; go_simp; first | (with_reducible rfl) | (rw [if_pos (by omega)]; with_reducible rfl) | skip
    try simp only [Act.put, List.setIfInBounds_toArray, List.set_cons_zero, List.set_cons_succ]
    refine take_dstH (i := 3) (d := 25) (v := ?_) rfl rfl (by kernel_rfl) (by kernel_rfl) (by kernel_rfl) (fun _ _ _ h => h) (by rfl) hHeld ?_ ?_
    rotate_left
    · intro wZ hSw; have hfS := hq0.out wZ hSw; clear hSw; go_simp; first | (with_reducible rfl) | (rw [if_pos (by omega)]; with_reducible rfl) | skip
    try simp only [Act.put, List.setIfInBounds_toArray, List.set_cons_zero, List.set_cons_succ]
    refine take_dstH (i := 4) (d := 26) (v := ?_) rfl rfl (by kernel_rfl) (by kernel_rfl) (by kernel_rfl) (fun _ _ _ h => h) (by rfl) hHeld ?_ ?_
    rotate_left
    · intro wZ hSw; clear hSw; go_simp; first | (with_reducible rfl) | (rw [if_pos (by omega)]; with_reducible rfl) | skip
    try simp only [Act.put, List.setIfInBounds_toArray, List.set_cons_zero, List.set_cons_succ]
    refine take_dstH (i := 5) (d := 27) (v := ?_) rfl rfl (by kernel_rfl) (by kernel_rfl) (by kernel_rfl) (fun _ _ _ h => h) (by rfl) hHeld ?_ ?_
    rotate_left
    · intro wZ hSw; clear hSw; go_simp; first | (with_reducible rfl) | (rw [if_pos (by omega)]; with_reducible rfl) | skip
    try simp only [Act.put, List.setIfInBounds_toArray, List.set_cons_zero, List.set_cons_succ]
    refine wpAnyH_ready (rs := [6]) (by kernel_rfl) (by simp) ?_
    refine (AllReadyH.cons rfl (fun K hK => ?_) AllReadyH.nil)
    go_simp
    refine hK.out _ _ ?_ (fun hHeld => ?_)
    · exact HP6
    clear hK K
    try simp only [Act.put, List.setIfInBounds_toArray, List.set_cons_zero, List.set_cons_succ]
    refine take_dstH (i := 7) (d := 28) (v := ?_) rfl rfl (by kernel_rfl) (by kernel_rfl) (by kernel_rfl) (fun _ _ _ h => h) (by rfl) hHeld ?_ ?_
    rotate_left
    · intro wZ hSw; clear hSw; go_simp; first | (with_reducible rfl) | (rw [if_pos (by omega)]; with_reducible rfl) | skip
    try simp only [Act.put, List.setIfInBounds_toArray, List.set_cons_zero, List.set_cons_succ]
    refine take_dstH (i := 8) (d := 29) (v := ?_) rfl rfl (by kernel_rfl) (by kernel_rfl) (by kernel_rfl) (fun _ _ _ h => h) (by rfl) hHeld ?_ ?_
    rotate_left
    · intro wZ hSw; clear hSw; go_simp; first | (with_reducible rfl) | (rw [if_pos (by omega)]; with_reducible rfl) | skip
    try simp only [Act.put, List.setIfInBounds_toArray, List.set_cons_zero, List.set_cons_succ]
    refine wpAnyH_ready (rs := [9]) (by kernel_rfl) (by simp) ?_
    refine (AllReadyH.cons rfl (fun K hK => ?_) AllReadyH.nil)
    go_simp
    refine hK.out _ _ ?_ (fun hHeld => ?_)
    · exact HP9
    clear hK K
    try simp only [Act.put, List.setIfInBounds_toArray, List.set_cons_zero, List.set_cons_succ]
    refine wpAnyH_done (by kernel_rfl) ?_ _
    have HT3 : Hid (TkS w ((wc.setCell ⟨g, 52, none⟩ (.bool true)).setCell ⟨g, 53, none⟩ (.int .u64 (n : Int))).drew g w.heap.size { ({ L with heard := true } : Lk) with newest := n } n s x (.slice q k c)) := HT2.out
    clear hHeld HP6 HP9 HT0 HT1 HT2 g52 g53 f52 f53 hq0
    generalize hL2 : ({ ({ L with heard := true } : Lk) with newest := n } : Lk) = L2 at *
    generalize ((wc.setCell ⟨g, 52, none⟩ (.bool true)).setCell ⟨g, 53, none⟩ (.int .u64 (n : Int))).drew = w3 at *
    have HL2 := hide hL2
    clear hL2
    have c48 : w3.cell? ⟨g, 48, none⟩ = some (.bool L2.down) := HT3.out.cell 0
    have HK3 : Hid (IsKey L2.code L2.mark) := HT3.out.k
    go_upto_if 33 with fail
    clear c48
    go_cut [8] (fun _ wx => Hid (TkS w wx g w.heap.size { L2 with addr := if L2.down then frm else L2.addr } n s x (.slice q k c)))
    case first =>
      cases hd : L2.down
      · go_wp2
        go_meet
        case rel => rw [if_neg (show ¬ (L2.down = true) from by rw [hd]; decide)]; exact HT3.out
      · have c51 : w3.cell? ⟨g, 51, none⟩ = some (.int .i64 L2.addr) := HT3.out.cell 3
        have f51 := HT3.out.l.frozen 51
        go_wp2
        go_meet
        case rel => rw [if_pos hd]; exact HT3.out.set 51 (.int .i64 frm) (lkC_addr HK3.out frm) HK3.out
    case rest =>
      have HT4 := hcut
      clear hcut HT3
      generalize hL3 : ({ L2 with addr := if L2.down then frm else L2.addr } : Lk) = L3 at *
      have HL3 := hide hL3
      clear hL3 HK3
      have HK4 : Hid (IsKey L3.code L3.mark) := HT4.out.k
      have p1 : wc.cell? ⟨w.heap.size, 1, none⟩ = some (.int .i64 s) := HT4.out.p.cell 1
      have HLN : Hid (57 + (ecC true s now).toArray.size ≤ (lkC L3).length) := by show _ ≤ _; rw [lkC_length HK4.out]; simp
      have HSN := hide (lkC_echo HK4.out true s now)
      have HT5 := hide (HT4.out.row (K' := { L3 with is := true, stamp := s, told := now }) HK4.out)
      go_upto_region 6 with (first
        | (refine wpList_build_of rfl 61 #[(0, .const (.bool true)), (1, .tmp 40), (2, .tmp 41)] rfl [(0, .bool true), (1, .int .i64 s), (2, .int .i64 now)] (by simp [Act.eval, Act.put]) (ecC true s now).toArray (newest_built true s now) ?_)
        | (refine wpList_store_in rfl rfl 61 (.tmp 44) (.tmp 42) rfl g 57 (ecC true s now).toArray rfl rfl 63 (lkC L3) HT4.out.l infoEc HLN.out (one_ecK _ _ _) ?_; rw [HSN.out]))
      clear HT4 p1 HLN HSN HK4
      generalize hL4 : ({ L3 with is := true, stamp := s, told := now } : Lk) = L4 at *
      have HL4 := hide hL4
      clear hL4
      generalize wc.setRow g (lkC L4).toArray = w5 at *
      have HK5 : Hid (IsKey L4.code L4.mark) := HT5.out.k
      have p2 : w5.cell? ⟨w.heap.size, 2, none⟩ = some (.int .i64 x) := HT5.out.p.cell 2
      have HMM2 : Hid (L4.m = L.m) := by show _ = _; rw [← HL4.out, ← HL3.out, ← HL2.out]
      have HTK2 : Hid (∀ m, L4.m = m → M = m → L4 = KT) := by
        intro m e1 e2
        rw [HTK.out, e2, ← e1, ← HL4.out, ← HL3.out, ← HL2.out]
      have HTK3 : Hid (({ L4 with m := M } : Lk) = KT) := by
        show _ = _
        rw [HTK.out, ← HL4.out, ← HL3.out, ← HL2.out]
      clear HTK HL2 HL3 HL4
      by_cases hx : x = 65535
      · have e1 : (x == 65535) = true := by simpa using hx
        have HE : Hid (L4 = KT) := HTK2.out L.m HMM2.out (by rw [← HMM.out, metF, if_pos hx])
        clear hx
        go_wp2
        exact bodyPost_ret (results_none rfl _ _ _) rfl ⟨rfl, by rw [← HE.out]; exact HT5.out.l, HT5.out.b⟩
      · have e1 : (x == 65535) = false := by simpa using hx
        have e2 : wrap64 (now + 65535) = now + 65535 := by have := HN.out; unfold wrap64; omega
        have e3 : wrap64 (now + 65535 - x) = now + 65535 - x := by have := HN.out; have := HX.out; unfold wrap64; omega
        have e4 : Int.tmod (now + 65535 - x) 65535 = way := by
          have h1 := HN.out
          have h2 := HX.out
          have h3 := HW.out
          rw [Int.tmod_eq_emod_of_nonneg (by omega)]
          omega
        have HWA : Hid (0 ≤ way ∧ way < 65535) := by have := HW.out; show _ ∧ _; omega
        have e5 : wrap64 way = way := by have := HWA.out; unfold wrap64; omega
        by_cases hw : way ≤ 5000
        · have e6 : decide (way ≤ 5000) = true := by simpa using hw
          have HMO : Hid (M = L.m.one way) := by show _ = _; rw [← HMM.out, metF, if_neg hx, HW.out, if_pos hw]
          have HSA : Hid (Samp way) := ⟨HWA.out.1, by omega⟩
          have HHM := hide (hearM_one HMAY.out HSA.out)
          have HH : Hid (∀ (v : World) (p : Option Addr) (c : Nat), IPiece v p c [way] → Calls Tryd.prog 46 #[meV L4.m, .slice p 1 c] v fun e w' => e = .returned (.tuple #[meV M, .int .i64 0]) ∧ Below v.heap.size v w') := fun v p c h => by
            have h2 := hear_any L.m p c 1 [way] v h rfl
            rw [HHM.out.1, HHM.out.2, ← HMO.out, ← HMM2.out] at h2
            exact h2
          clear hx hw
          go_upto_region 9 with fail
          clear e1 e2 e3 e4 e5 e6 p2
          have HO1 : Hid (54 + (meC M).toArray.size ≤ (lkC L4).length) := by show _ ≤ _; rw [lkC_length HK5.out]; simp
          have HSN := hide (lkC_met HK5.out M)
          go_wp2_with (first
            | (refine wpList_exec (by rfl) _ (exec_load_mid 36 (.tmp 60) rfl g 54 rfl (meC L4.m) _ HT5.out.met Tryd.underlying36 rfl infoM) ?_)
            | (refine (HH.out _ _ _ (one_piece (by simp))).mono ?_; rintro e w7 ⟨rfl, hb7⟩; have HT7 := hide (HT5.out.kept (((Below.refl _ _).alloc (Nat.le_refl _) _).trans (hb7.mono (by simp)))); clear hb7)
            | (refine wpList_store_in rfl rfl 36 (.tmp 68) (.tmp 65) rfl g 54 (meC M).toArray rfl rfl 63 (lkC L4) HT7.out.l infoM HO1.out (one_meC _) ?_; rw [HSN.out]))
          have HT8 := hide (HT7.out.row (K' := { L4 with m := M }) HK5.out)
          exact bodyPost_end (results_none rfl _ _ _) rfl ⟨rfl, by rw [← HTK3.out]; exact HT8.out.l, HT8.out.b⟩
        · have e6 : decide (way ≤ 5000) = false := by simpa using hw
          have HE : Hid (L4 = KT) := HTK2.out L.m HMM2.out (by rw [← HMM.out, metF, if_neg hx, HW.out, if_neg hw])
          clear hx hw
          go_wp2
          exact bodyPost_end (results_none rfl _ _ _) rfl ⟨rfl, by rw [← HE.out]; exact HT5.out.l, HT5.out.b⟩

end Go.Proofs.YtbmjlofehbbkbaaDoor

/- Walks: Hear. -/
namespace Go.Proofs.YtbmjlofehbbkbaaDoor
open Go.RowKit

set_option maxHeartbeats 2000000 in
theorem hear_no (p q : Option Addr) (now frm : Int) (n c : Nat) (w : World) (h : NoLk w p) :
    Calls Tryd.prog 14 #[.pointer p, .int .i64 now, .int .i64 frm, .slice q n c] w fun e w' => e = .returned (.tuple #[.slice none 0 0, .bool false, .int .i64 1]) ∧ w' = w := by
  have HT := hide (lthere_no p w h)
  clear h
  go_enter Tryd.func14, Tryd.ntmps14
  go_wp2_with (refine HT.out.mono ?_; rintro r w1 ⟨rfl, rfl⟩)
  go_ret3
  exact ⟨rfl, rfl⟩

set_option maxHeartbeats 2000000 in
theorem hear_arg' (g : Nat) (L : Lk) (q : Option Addr) (now frm : Int) (n c : Nat) (w : World) (h : LkAt w g L) (ht : ¬ (IsTime now ∧ IsAddr frm)) :
    Calls Tryd.prog 14 #[.pointer (some ⟨g, 0, none⟩), .int .i64 now, .int .i64 frm, .slice q n c] w fun e w' => e = .returned (.tuple #[.slice none 0 0, .bool false, .int .i64 2]) ∧ w' = w := by
  have HT := hide (lthere_lk h)
  have HI := hide (fun v : World => isTime_any now v)
  have HJ := hide (fun v : World => isAddr_any frm v)
  clear h
  by_cases h1 : IsTime now
  · have h2 : ¬ IsAddr frm := fun e => ht ⟨h1, e⟩
    rw [decide_eq_true h1] at HI
    rw [decide_eq_false h2] at HJ
    clear h1 h2 ht
    go_enter Tryd.func14, Tryd.ntmps14
    go_wp2_with (first
      | (refine HT.out.mono ?_; rintro r w1 ⟨rfl, rfl⟩)
      | (refine (HI.out _).mono ?_; rintro r w2 ⟨rfl, rfl⟩)
      | (refine (HJ.out _).mono ?_; rintro r w3 ⟨rfl, rfl⟩))
    go_ret3
    exact ⟨rfl, rfl⟩
  · rw [decide_eq_false h1] at HI
    clear h1 ht HJ
    go_enter Tryd.func14, Tryd.ntmps14
    go_wp2_with (first
      | (refine HT.out.mono ?_; rintro r w1 ⟨rfl, rfl⟩)
      | (refine (HI.out _).mono ?_; rintro r w2 ⟨rfl, rfl⟩))
    go_ret3
    exact ⟨rfl, rfl⟩

abbrev agV (g : Nat) : Value := .func (.func 35) #[.pointer (some ⟨g, 0, none⟩)] #[]
theorem key_info {L : Lk} (h : IsKey L.code L.mark) : (Tryd.prog.info? 25).map (·.size) = some (kCells L.code L.mark).length := by rw [h.info]; simp

set_option maxHeartbeats 4000000 in
set_option maxRecDepth 100000 in
theorem hear_bad (g : Nat) (L : Lk) (q : Option Addr) (now frm : Int) (n c : Nat) (E : Int) (w : World) (h : LkAt w g L) (ht : IsTime now) (ha : IsAddr frm) (hE : E ≠ 0)
    (hR : Calls Tryd.prog 34 #[keyV L.code L.mark, .slice q n c, agV g] w fun e w' => e = .returned (.tuple #[.agg lpZ.toArray, .int .i64 E]) ∧ Below w.heap.size w w') :
    Calls Tryd.prog 14 #[.pointer (some ⟨g, 0, none⟩), .int .i64 now, .int .i64 frm, .slice q n c] w fun e w' => e = .returned (.tuple #[.slice none 0 0, .bool false, .int .i64 E]) ∧ Below w.heap.size w w' := by
  have HT := hide (lthere_lk h)
  have HI := hide (fun v : World => isTime_any now v)
  have HJ := hide (fun v : World => isAddr_any frm v)
  rw [decide_eq_true ht] at HI
  rw [decide_eq_true ha] at HJ
  have HR := hide hR
  have HK := hide h.key
  have HKI := hide (key_info h.ok.key)
  have e1 : (E != 0) = true := by simpa using hE
  have e2 : (E == 0) = false := by simpa using hE
  clear h ht ha hE hR
  go_enter Tryd.func14, Tryd.ntmps14
  go_wp2_with (first
    | (refine HT.out.mono ?_; rintro r w1 ⟨rfl, rfl⟩)
    | (refine (HI.out _).mono ?_; rintro r w2 ⟨rfl, rfl⟩)
    | (refine (HJ.out _).mono ?_; rintro r w3 ⟨rfl, rfl⟩)
    | (refine wpList_exec (by rfl) _ (exec_load_mid 25 (.tmp 28) rfl g 0 rfl (kCells L.code L.mark) _ HK.out Tryd.underlying25 rfl HKI.out) ?_)
    | (refine HR.out.mono ?_; rintro r w4 ⟨rfl, hb⟩; have HB := hide hb; clear hb))
  go_ret3
  exact ⟨rfl, HB.out.alloc HB.out.size _⟩

end Go.Proofs.YtbmjlofehbbkbaaDoor

/- Walks: Hear: a packet that is whole. -/
namespace Go.Proofs.YtbmjlofehbbkbaaDoor
open Go.RowKit

/-- what lies in memory while a packet is heard -/
structure HrS (w wx : World) (g gp gw : Nat) (K L : Lk) (n : Nat) (s x : Int) (t : Value) (k : Nat) (YV : List Value) : Prop where
  l : Arr wx g 63 (lkC K)
  p : Arr wx gp 82 (lpC n s x t)
  o : Arr wx gw 63 (lkC L)
  y : wx.ownsRow w.heap.size 5 1 t k YV
  b : w.grownBy wx (some g)
  ne : g ≠ gw
theorem HrS.take {w wx w' : World} {g gp gw : Nat} {K K' L : Lk} {n : Nat} {s x : Int} {t : Value} {k : Nat} {YV : List Value} (h : HrS w wx g gp gw K L n s x t k YV) (ha : Arr w' g 63 (lkC K')) (hg : wx.grownBy w' (some g)) : HrS w w' g gp gw K' L n s x t k YV :=
  ⟨ha, h.p.grown hg (arr_ne h.p h.l (by decide)), h.o.grown hg (fun e => h.ne e.symm), h.y.kept hg (.inr (own_ne_arr h.y h.l (by decide))), grown_trans h.b hg, h.ne⟩

set_option maxHeartbeats 8000000 in
set_option maxRecDepth 100000 in
theorem hear_of (g : Nat) (L LT : Lk) (q : Option Addr) (now frm : Int) (n c k m : Nat) (s x : Int) (YV : List Value) (r : Bool) (w : World) (h : LkAt w g L) (ht : IsTime now) (ha : IsAddr frm) (hkT : IsKey LT.code LT.mark)
    (hR : Calls Tryd.prog 34 #[keyV L.code L.mark, .slice q n c, agV g] w fun e w' => ∃ q' cq, e = .returned (.tuple #[.agg (lpC m s x (.slice q' k cq)).toArray, .int .i64 0]) ∧ w'.ownsRow w.heap.size 5 1 (.slice q' k cq) k YV ∧ Below w.heap.size w w')
    (hT : ∀ (v : World) (q' : Option Addr) (cq : Nat), LkAt v g L → Calls Tryd.prog 36 #[.pointer (some ⟨g, 0, none⟩), .agg (lpC m s x (.slice q' k cq)).toArray, .int .i64 now, .int .i64 frm] v fun e w' => e = .returned (.tuple #[]) ∧ Arr w' g 63 (lkC LT) ∧ v.grownBy w' (some g))
    (hE : ∀ v : World, (Op.equalIn 10000 63 (.agg (lkC LT).toArray) (.agg (lkC L).toArray)).run Tryd.prog v = .ok r v) :
    Calls Tryd.prog 14 #[.pointer (some ⟨g, 0, none⟩), .int .i64 now, .int .i64 frm, .slice q n c] w fun e w' => ∃ t, e = .returned (.tuple #[t, .bool (!r), .int .i64 0]) ∧ w'.ownsRow w.heap.size 5 1 t k YV ∧ Arr w' g 63 (lkC LT) ∧ w.grownBy w' (some g) := by
  have HTH := hide (lthere_lk h)
  have HI := hide (fun v : World => isTime_any now v)
  have HJ := hide (fun v : World => isAddr_any frm v)
  rw [decide_eq_true ht] at HI
  rw [decide_eq_true ha] at HJ
  have HR := hide hR
  have HT := hide hT
  have HE := hide hE
  have HLk := hide (fun (v : World) (hb : Below w.heap.size w v) => h.kept hb)
  have HK := hide h.key
  have HKI := hide (key_info h.ok.key)
  have HGL := hide h.lt
  have HI2 : Hid ((Tryd.prog.info? 63).map (·.size) = some (lkC L).length) := by show _ = _; rw [IsKey.infoLk h.ok.key]; simp
  have HI3 : Hid ((Tryd.prog.info? 63).map (·.size) = some (lkC LT).length) := by show _ = _; rw [IsKey.infoLk hkT]; simp
  have HIA := hide (IsKey.infoLk h.ok.key)
  have HS : Hid (zeroLk.toArray.size = (lkC L).toArray.size) := by show _ = _; rw [zeroLk_length]; simp [lkC_length h.ok.key]
  clear h ht ha hR hT hE hkT
  go_enter Tryd.func14, Tryd.ntmps14
  go_upto_region 5 with (first
    | (refine HTH.out.mono ?_; rintro r w1 ⟨rfl, rfl⟩)
    | (refine (HI.out _).mono ?_; rintro r w2 ⟨rfl, rfl⟩)
    | (refine (HJ.out _).mono ?_; rintro r w3 ⟨rfl, rfl⟩))
  go_wp2_with (refine wpList_exec (by rfl) _ (exec_load_mid 25 (.tmp 28) rfl g 0 rfl (kCells L.code L.mark) _ HK.out Tryd.underlying25 rfl HKI.out) ?_)
  refine HR.out.mono ?_
  rintro e w4 ⟨q', cq, rfl, ho, hb⟩
  have HB := hide hb
  have HO := hide ho
  clear hb ho
  go_upto_region 8 with fail
  have HA5 : Hid (LkAt (w4.alloc (Obj.cells #[Value.int .u64 (m : Int), Value.int .i64 s, Value.int .i64 x, Value.slice q' k cq] 82)) g L ∧ Arr (w4.alloc (Obj.cells #[Value.int .u64 (m : Int), Value.int .i64 s, Value.int .i64 x, Value.slice q' k cq] 82)) w4.heap.size 82 (lpC m s x (.slice q' k cq)) ∧ (w4.alloc (Obj.cells #[Value.int .u64 (m : Int), Value.int .i64 s, Value.int .i64 x, Value.slice q' k cq] 82)).ownsRow w3.heap.size 5 1 (.slice q' k cq) k YV ∧ Below w3.heap.size w3 (w4.alloc (Obj.cells #[Value.int .u64 (m : Int), Value.int .i64 s, Value.int .i64 x, Value.slice q' k cq] 82))) :=
    ⟨HLk.out _ (HB.out.alloc HB.out.size _), Arr.new w4 _ _, own_below HO.out ((Below.refl _ _).alloc (Nat.le_refl _) _), HB.out.alloc HB.out.size _⟩
  clear HTH HI HJ HR HB HO HK HKI
  generalize w4.alloc (Obj.cells #[Value.int .u64 (m : Int), Value.int .i64 s, Value.int .i64 x, Value.slice q' k cq] 82) = w5 at *
  generalize w4.heap.size = gp at *
  have hz := zeroLk_run
  go_upto_region 9 with (first
    | (refine wpList_exec (by rfl) _ (exec_load_all 63 (.tmp 40) rfl g rfl 63 (lkC L) _ HA5.out.1.a Tryd.underlying63 rfl HI2.out) ?_)
    | (refine wpList_store_row rfl 63 _ _ rfl w5.heap.size (lkC L).toArray rfl rfl 63 zeroLk.toArray (heap_at w5 _ _ rfl) HIA.out HS.out (one_lkC L) ?_))
  clear hz
  have HB6 : Hid (Below w5.heap.size w5 ((w5.alloc (Obj.cells zeroLk.toArray 63)).setRow w5.heap.size (lkC L).toArray)) := below_setRow ((Below.refl _ _).alloc (Nat.le_refl _) _) (Nat.le_refl _) (by simp) _
  have HA6 : Hid (HrS w3 ((w5.alloc (Obj.cells zeroLk.toArray 63)).setRow w5.heap.size (lkC L).toArray) g gp w5.heap.size L L m s x (.slice q' k cq) k YV) :=
    ⟨(HA5.out.1.kept HB6.out).a, HA5.out.2.1.kept HB6.out, (Arr.new w5 63 zeroLk).row _, own_below HA5.out.2.2.1 HB6.out, below_grown (HA5.out.2.2.2.trans (HB6.out.mono HA5.out.2.2.2.size)) _, Nat.ne_of_lt HA5.out.1.lt⟩
  have HOK : Hid L.ok := HA5.out.1.ok
  clear HA5 HLk HS HIA HB6
  generalize (w5.alloc (Obj.cells zeroLk.toArray 63)).setRow w5.heap.size (lkC L).toArray = w6 at *
  generalize w5.heap.size = gw at *
  go_wp2_with (refine wpList_exec (by rfl) _ (exec_load_all 82 (.tmp 11) rfl gp rfl 82 (lpC m s x (.slice q' k cq)) _ HA6.out.p Tryd.underlying82 rfl infoLp) ?_)
  refine (HT.out w6 q' cq ⟨HA6.out.l, HOK.out⟩).mono ?_
  rintro e w7 ⟨rfl, ha7, hg7⟩
  have HA7 := hide (HA6.out.take ha7 hg7)
  clear ha7 hg7 HA6 HT
  go_upto_region 10 with fail
  have hc3 : Hid (∀ v, Hid (v = w7.drew) → v.cell? ⟨gp, 3, none⟩ = some (.slice q' k cq)) := fun v hv => by rw [hv.out]; exact HA7.out.p.cell 3
  have hcl : Hid (∀ v, Hid (v = w7.drew) → Arr v g 63 (lkC LT)) := fun v hv => by rw [hv.out]; exact HA7.out.l
  have hco : Hid (∀ v, Hid (v = w7.drew) → Arr v gw 63 (lkC L)) := fun v hv => by rw [hv.out]; exact HA7.out.o
  refine wp_region_held_drew (S := fun v => Hid (v = w7.drew)) (by kernel_rfl) (hide rfl) (fun hHeld => ?_)
  refine take_dstH (i := 0) (d := 47) (v := ?_) rfl rfl (by kernel_rfl) (by kernel_rfl) (by kernel_rfl) (fun _ _ _ h => h) (by rfl) hHeld ?_ ?_
  rotate_left
  · intro wZ hSw; clear hSw; go_simp; first | (with_reducible rfl) | (rw [if_pos (by omega)]; with_reducible rfl) | skip
  try simp only [Act.put, List.setIfInBounds_toArray, List.set_cons_zero, List.set_cons_succ]
  refine take_dstH (i := 1) (d := 48) (v := ?_) rfl rfl (by kernel_rfl) (by kernel_rfl) (by kernel_rfl) (fun _ _ _ h => h) (by rfl) hHeld ?_ ?_
  rotate_left
  · intro wZ hSw; have hfS := hc3.out wZ hSw; clear hSw; go_simp; first | (with_reducible rfl) | (rw [if_pos (by omega)]; with_reducible rfl) | skip
  try simp only [Act.put, List.setIfInBounds_toArray, List.set_cons_zero, List.set_cons_succ]
  refine take_dstH (i := 2) (d := 49) (v := ?_) rfl rfl (by kernel_rfl) (by kernel_rfl) (by kernel_rfl) (fun _ _ _ h => h) (by rfl) hHeld ?_ ?_
  rotate_left
  · intro wZ hSw; clear hSw; go_simp; first | (with_reducible rfl) | (rw [if_pos (by omega)]; with_reducible rfl) | skip
  try simp only [Act.put, List.setIfInBounds_toArray, List.set_cons_zero, List.set_cons_succ]
  refine take_dstH (i := 3) (d := 50) (v := ?_) rfl rfl (by kernel_rfl) (by kernel_rfl) (by kernel_rfl) (fun _ _ _ h => h) (by rfl) hHeld ?_ ?_
  rotate_left
  · intro wZ hSw; clear hSw; go_simp; first | (with_reducible rfl) | (rw [if_pos (by omega)]; with_reducible rfl) | skip
  try simp only [Act.put, List.setIfInBounds_toArray, List.set_cons_zero, List.set_cons_succ]
  refine take_dstH (i := 4) (d := 51) (v := ?_) rfl rfl (by kernel_rfl) (by kernel_rfl) (by kernel_rfl) (fun _ _ _ h => h) (by rfl) hHeld ?_ ?_
  rotate_left
  · intro wZ hSw; refine exec_load_all 63 (.tmp 50) ?_ g ?_ 63 (lkC LT) _ (hcl.out wZ hSw) Tryd.underlying63 rfl HI3.out <;> rfl
  try simp only [Act.put, List.setIfInBounds_toArray, List.set_cons_zero, List.set_cons_succ]
  refine take_dstH (i := 5) (d := 52) (v := ?_) rfl rfl (by kernel_rfl) (by kernel_rfl) (by kernel_rfl) (fun _ _ _ h => h) (by rfl) hHeld ?_ ?_
  rotate_left
  · intro wZ hSw; refine exec_load_all 63 (.tmp 13) ?_ gw ?_ 63 (lkC L) _ (hco.out wZ hSw) Tryd.underlying63 rfl HI2.out <;> rfl
  try simp only [Act.put, List.setIfInBounds_toArray, List.set_cons_zero, List.set_cons_succ]
  refine take_dstH (i := 6) (d := 53) (v := ?_) rfl rfl (by kernel_rfl) (by kernel_rfl) (by kernel_rfl) (fun _ _ _ h => h) (by rfl) hHeld ?_ ?_
  rotate_left
  · intro wZ hSw; refine exec_neq_agg 63 63 (.tmp 51) (.tmp 52) ?_ (lkC LT).toArray (lkC L).toArray ?_ ?_ r (guardLk _ _ _ _ _) (HE.out wZ) <;> rfl
  try simp only [Act.put, List.setIfInBounds_toArray, List.set_cons_zero, List.set_cons_succ]
  refine take_dstH (i := 7) (d := 8) (v := ?_) rfl rfl (by kernel_rfl) (by kernel_rfl) (by kernel_rfl) (fun _ _ _ h => h) (by rfl) hHeld ?_ ?_
  rotate_left
  · intro wZ hSw; clear hSw; go_simp; first | (with_reducible rfl) | (rw [if_pos (by omega)]; with_reducible rfl) | skip
  try simp only [Act.put, List.setIfInBounds_toArray, List.set_cons_zero, List.set_cons_succ]
  refine take_dstH (i := 8) (d := 9) (v := ?_) rfl rfl (by kernel_rfl) (by kernel_rfl) (by kernel_rfl) (fun _ _ _ h => h) (by rfl) hHeld ?_ ?_
  rotate_left
  · intro wZ hSw; clear hSw; go_simp; first | (with_reducible rfl) | (rw [if_pos (by omega)]; with_reducible rfl) | skip
  try simp only [Act.put, List.setIfInBounds_toArray, List.set_cons_zero, List.set_cons_succ]
  refine take_dstH (i := 9) (d := 10) (v := ?_) rfl rfl (by kernel_rfl) (by kernel_rfl) (by kernel_rfl) (fun _ _ _ h => h) (by rfl) hHeld ?_ ?_
  rotate_left
  · intro wZ hSw; clear hSw; go_simp; first | (with_reducible rfl) | (rw [if_pos (by omega)]; with_reducible rfl) | skip
  try simp only [Act.put, List.setIfInBounds_toArray, List.set_cons_zero, List.set_cons_succ]
  refine wpAnyH_done (by kernel_rfl) ?_ _
  go_wp2_with fail
  go_ret3
  exact ⟨_, rfl, HA7.out.y.kept (below_grown (Below.refl _ _).drew none) (by by_cases hv : (Value.slice q' k cq).ownBlock = none; exact Or.inl hv; exact Or.inr hv), HA7.out.l, grown_trans HA7.out.b (below_grown (Below.refl _ _).drew _)⟩

end Go.Proofs.YtbmjlofehbbkbaaDoor

/- Walks: Send and Hear, whole: of whatever bytes. -/
namespace Go.Proofs.YtbmjlofehbbkbaaDoor
open Go.RowKit

/-- how a packet is opened -/
def opE (mark b : List Nat) : Int := if b.length < 24 ∨ 1224 < b.length then 4 else if paT b = tgF mark (paA b) then 0 else 60
abbrev opT (code b : List Nat) : List Nat := hiF code (rd8 b) (paH b)
theorem opT_bytes {code : List Nat} (hk : Blk code) {b : List Nat} (h : BytesN b) : BytesN (opT code b) := hiF_bytes hk _ (paH_bytes h)
theorem opT_length {code b : List Nat} (h : 24 ≤ b.length) : (opT code b).length = b.length - 24 := by rw [hiF_length, paH_length (k := b.length - 24) (by omega)]
theorem open_any' (code mark : List Nat) (p : Option Addr) (c n : Nat) (b : List Nat) (w : World) (hk : IsKey code mark) (hP : Piece w p c b) (hn : b.length = n) (hL : Laid w) :
    Calls Tryd.prog 9 #[keyV code mark, .slice p n c] w fun e w' => (if opE mark b = 0 then ∃ v, e = .returned (.tuple #[noV (wD (rd8 b)) (wN (rd8 b)), v, .int .i64 0]) ∧ w'.ownsRow w.heap.size 5 1 v (n - 24) (u8s (opT code b)) else e = .returned (.tuple #[noV false 0, .slice none 0 0, .int .i64 (opE mark b)])) ∧ Below w.heap.size w w' := by
  subst hn
  unfold opE
  by_cases h : b.length < 24 ∨ 1224 < b.length
  · rw [if_pos h]
    simp only [if_neg (show ¬ (4 : Int) = 0 by omega)]
    exact open_bad code mark p c b.length w h
  · rw [if_neg h]
    have h1 := open_ok code mark p c (b.length - 24) b w hk hP (by omega) (by omega) hL
    rw [show b.length - 24 + 24 = b.length by omega] at h1
    by_cases ht : paT b = tgF mark (paA b)
    · rw [if_pos ht]
      simp only
      simp only [decide_eq_true ht, if_true] at h1
      exact h1
    · rw [if_neg ht]
      simp only [if_neg (show ¬ (60 : Int) = 0 by omega)]
      simp only [decide_eq_false ht, Bool.false_eq_true, if_false] at h1
      exact h1

theorem rd_steps (T : List Nat) (hb : BytesN T) : ∃ (m1 m2 : Nat) (b1 b2 b3 ys : List Int) (x1 x2 x3 : Int), sFix 2 (T.map Int.ofNat) 0 = (m1, b1, x1) ∧ sFix 2 b1 x1 = (m2, b2, x2) ∧ sRest b2 x2 = (ys, b3, x3) ∧ m1 < 65536 ∧ m2 < 65536 ∧ (∀ y ∈ ys, 0 ≤ y ∧ y < 256) ∧
    ((T.length < 4 ∧ x3 ≠ 0) ∨ (4 ≤ T.length ∧ x3 = 0 ∧ (m1 : Int) = rd2 T 0 ∧ (m2 : Int) = rd2 T 2 ∧ ys = (T.drop 4).map Int.ofNat)) := by
  match T, hb with
  | [], _ => exact ⟨0, 0, [], [], [], [], 4, 4, 4, rfl, rfl, rfl, by omega, by omega, by simp, Or.inl ⟨by simp, by omega⟩⟩
  | [a], _ => exact ⟨0, 0, [(a : Int)], [(a : Int)], [(a : Int)], [], 4, 4, 4, by simp [sFix], by simp [sFix], by simp [sRest], by omega, by omega, by simp, Or.inl ⟨by simp, by omega⟩⟩
  | [a, b], h =>
    have ha := h a (by simp)
    have hb := h b (by simp)
    exact ⟨a * 256 + b, 0, [], [], [], [], 0, 4, 4, by simp [sFix, valF], by simp [sFix], by simp [sRest], by omega, by omega, by simp, Or.inl ⟨by simp, by omega⟩⟩
  | [a, b, c], h =>
    have ha := h a (by simp)
    have hb := h b (by simp)
    exact ⟨a * 256 + b, 0, [(c : Int)], [(c : Int)], [(c : Int)], [], 0, 4, 4, by simp [sFix, valF], by simp [sFix], by simp [sRest], by omega, by omega, by simp, Or.inl ⟨by simp, by omega⟩⟩
  | a :: b :: c :: d :: r, h =>
    have ha := h a (by simp)
    have hb := h b (by simp)
    have hc := h c (by simp)
    have hd := h d (by simp)
    have hr : ∀ y ∈ r.map Int.ofNat, 0 ≤ y ∧ y < 256 := fun y hy => by
      obtain ⟨z, hz, rfl⟩ := List.mem_map.1 hy
      have := h z (by simp [hz])
      exact ⟨Int.natCast_nonneg _, Int.ofNat_lt.2 this⟩
    refine ⟨a * 256 + b, c * 256 + d, (c : Int) :: (d : Int) :: r.map Int.ofNat, r.map Int.ofNat, [], r.map Int.ofNat, 0, 0, 0, ?_, ?_, by simp [sRest], by omega, by omega, hr, Or.inr ⟨by simp, rfl, ?_, ?_, rfl⟩⟩
    · rw [sFix, if_pos rfl, if_pos (by simp; omega)]
      simp [valF]
    · rw [sFix, if_pos rfl, if_pos (by simp; omega)]
      simp [valF]
    · simp [rd2]
    · simp [rd2]

/-- what Hear tells of bytes: an error -/
def heE (L : Lk) (b : List Nat) : Int := if opE L.mark b = 0 then if wD (rd8 b) = L.down then 90 else partsE (opT L.code b) else opE L.mark b
/-- .. and what it is behind them -/
def Lk.heard' (L : Lk) (b : List Nat) (now frm : Int) : Lk := L.took (wN (rd8 b)) (rd2 (opT L.code b) 0) (rd2 (opT L.code b) 2) now frm

theorem hear_any' (g : Nat) (L : Lk) (p : Option Addr) (c n : Nat) (b : List Nat) (now frm : Int) (w : World) (h : LkAt w g L) (ht : IsTime now) (ha : IsAddr frm) (hP : Piece w p c b) (hn : b.length = n) (hL : Laid w) :
    Calls Tryd.prog 14 #[.pointer (some ⟨g, 0, none⟩), .int .i64 now, .int .i64 frm, .slice p n c] w fun e w' =>
      (if heE L b = 0 then ∃ t, e = .returned (.tuple #[t, .bool (L.fresh (wN (rd8 b))), .int .i64 0]) ∧ w'.ownsRow w.heap.size 5 1 t ((opT L.code b).drop 4).length (u8s ((opT L.code b).drop 4)) ∧ LkAt w' g (L.heard' b now frm) ∧ w.grownBy w' (some g)
      else e = .returned (.tuple #[.slice none 0 0, .bool false, .int .i64 (heE L b)]) ∧ Below w.heap.size w w') := by
  have hL2 := hL.size
  have hLB : ∀ v, Below w.heap.size w v → Laid v := fun v hb => hL.keptB (B := w.heap.size) hL2 hb
  have hO := fun (v : World) (hb : Below w.heap.size w v) => open_any' L.code L.mark p c n b v h.ok.key (hP.kept hb) hn (hLB v hb)
  unfold heE
  by_cases h0 : opE L.mark b = 0
  · simp only [if_pos h0] at hO ⊢
    have h24 : 24 ≤ b.length ∧ b.length ≤ 1224 := by
      unfold opE at h0
      split at h0
      · omega
      · omega
    replace hO := fun (v : World) (hb : Below w.heap.size w v) => (hO v hb).mono fun e w' ⟨⟨u, h1, h2⟩, h3⟩ => (⟨u, h1, h2, h3⟩ : ∃ u, e = Ending.returned (.tuple #[noV (wD (rd8 b)) (wN (rd8 b)), u, .int .i64 0]) ∧ w'.ownsRow v.heap.size 5 1 u (n - 24) (u8s (opT L.code b)) ∧ Below v.heap.size v w')
    have hTl : (opT L.code b).length = n - 24 := by rw [opT_length h24.1, hn]
    have hTb : BytesN (opT L.code b) := opT_bytes h.ok.key.c hP.2.2.1
    have hA := fun (v : World) (hb : Below w.heap.size w v) => against_any g L (wD (rd8 b)) (wN (rd8 b)) v (h.kept hb)
    by_cases hd : wD (rd8 b) = L.down
    · rw [if_pos hd]
      simp only [if_neg (show ¬ (90 : Int) = 0 by omega)]
      have e90 : againstF L (wD (rd8 b)) = 90 := by rw [againstF, if_pos hd]
      rw [e90] at hA
      exact hear_bad g L p now frm n c 90 w h ht ha (by omega) (read_way L.code L.mark p c n (n - 24) g _ _ (opT L.code b) 90 w h.ok.key (by omega) hTl hTb hO hA)
    · rw [if_neg hd]
      have e0 : againstF L (wD (rd8 b)) = 0 := by rw [againstF, if_neg hd]
      rw [e0] at hA
      obtain ⟨m1, m2, b1, b2, b3, ys, x1, x2, x3, s1, s2, s3, hm1, hm2, hys, hc⟩ := rd_steps (opT L.code b) hTb
      have hR := read_of L.code L.mark p c n (n - 24) g (wD (rd8 b)) (wN (rd8 b)) (opT L.code b) w h.ok.key hTl hTb (by omega) m1 m2 b1 b2 b3 ys x1 x2 x3 s1 s2 s3 hm1 hm2 hys hO hA
      by_cases hE : x3 ≠ 0 ∨ m1 = 65535
      · have hpe : partsE (opT L.code b) = 4 := by
          unfold partsE
          rw [if_pos]
          rcases hc with hc | hc
          · exact Or.inl hc.1
          · right; rw [← hc.2.2.1]; rcases hE with h1 | h1
            · exact absurd hc.2.1 h1
            · omega
        rw [hpe]
        simp only [if_neg (show ¬ (4 : Int) = 0 by omega)]
        simp only [if_pos hE] at hR
        exact hear_bad g L p now frm n c 4 w h ht ha (by omega) hR
      · have hc' : 4 ≤ (opT L.code b).length ∧ x3 = 0 ∧ (m1 : Int) = rd2 (opT L.code b) 0 ∧ (m2 : Int) = rd2 (opT L.code b) 2 ∧ ys = ((opT L.code b).drop 4).map Int.ofNat := by
          rcases hc with hc | hc
          · exact absurd (Or.inl hc.2) hE
          · exact hc
        have hpe : partsE (opT L.code b) = 0 := by
          unfold partsE
          rw [if_neg]
          rw [← hc'.2.2.1]
          omega
        rw [hpe]
        simp only
        simp only [if_neg hE] at hR
        replace hR := hR.mono fun e w' ⟨⟨q', cq, h1, h2⟩, h3⟩ => (⟨q', cq, h1, h2, h3⟩ : ∃ q' cq, e = Ending.returned (.tuple #[.agg (lpC (wN (rd8 b)) (m1 : Int) (m2 : Int) (.slice q' ys.length cq)).toArray, .int .i64 0]) ∧ w'.ownsRow w.heap.size 5 1 (.slice q' ys.length cq) ys.length (ys.map (.int .u8)) ∧ Below w.heap.size w w')
        have i0 := rd2_in hTb 0
        have i2 := rd2_in hTb 2
        have hs : rd2 (opT L.code b) 0 ≤ 65534 := by rw [← hc'.2.2.1]; omega
        have hTK : (L.heard' b now frm).ok := Lk.took_ok h.ok (wN_lt _) i0.1 hs ht ha
        have hH := hear_of g L (L.heard' b now frm) p now frm n c ys.length (wN (rd8 b)) m1 m2 (ys.map (Value.int .u8)) (!L.fresh (wN (rd8 b))) w h ht ha hTK.key hR
          (fun v q' cq hv => by
            rw [hc'.2.2.1, hc'.2.2.2.1]
            cases hf : L.fresh (wN (rd8 b))
            · have e : L.heard' b now frm = L := by unfold Lk.heard' Lk.took; rw [if_neg (by rw [hf]; decide)]
              rw [e]
              exact (take_old g L _ _ _ now frm q' ys.length cq v hv hf).mono fun e w' ⟨h1, h2⟩ => ⟨h1, (hv.kept h2).a, below_grown h2 _⟩
            · exact take_start g L _ _ _ now frm q' ys.length cq v hv hf _ _ rfl i2.1 i2.2 ht rfl)
          (fun v => by
            have := run_eq_took h.ok (n := wN (rd8 b)) (stamp := rd2 (opT L.code b) 0) (x := rd2 (opT L.code b) 2) (now := now) (frm := frm) hTK v
            exact this)
        refine hH.mono ?_
        rintro e w' ⟨t, rfl, ho, hl, hg⟩
        refine ⟨t, by rw [Bool.not_not], ?_, ⟨hl, hTK⟩, hg⟩
        rw [hc'.2.2.2.2, List.length_map, ofNat_map] at ho
        exact ho
  · simp only [if_neg h0] at hO ⊢
    exact hear_bad g L p now frm n c _ w h ht ha h0 (read_bad L.code L.mark p c n _ _ w h.ok.key h0 hO)

/-- what Send tells: an error -/
def seE (L : Lk) (now : Int) (n : Nat) : Int := if IsTime now then if 1196 < n then 3 else if L.next = 9223372036854775808 then 91 else 0 else 2
theorem send_any (g : Nat) (L : Lk) (p : Option Addr) (c n : Nat) (text : List Nat) (now : Int) (w : World) (h : LkAt w g L) (hP : Piece w p c text) (hn : text.length = n) (hL : Laid w) (hg : 2 ≤ g) :
    Calls Tryd.prog 7 #[.pointer (some ⟨g, 0, none⟩), .int .i64 now, .slice p n c] w fun e w' =>
      (if seE L now n = 0 then ∃ t, e = .returned (.tuple #[t, .int .i64 0]) ∧ w'.ownsRow w.heap.size 5 1 t (n + 28) (u8s (sndP L now text)) ∧ LkAt w' g L.sent ∧ w.grownBy w' (some g)
      else e = .returned (.tuple #[.slice none 0 0, .int .i64 (seE L now n)]) ∧ w' = w) := by
  have hL2 := hL.size
  unfold seE
  by_cases ht : IsTime now
  · rw [if_pos ht]
    by_cases h1 : 1196 < n
    · rw [if_pos h1]
      simp only [if_neg (show ¬ (3 : Int) = 0 by omega)]
      exact send_long g L p now n c w h ht h1
    · rw [if_neg h1]
      by_cases h2 : L.next = 9223372036854775808
      · rw [if_pos h2]
        simp only [if_neg (show ¬ (91 : Int) = 0 by omega)]
        exact send_spent g L p now n c w h ht (by omega) h2
      · rw [if_neg h2]
        simp only
        have hx : L.next < 9223372036854775808 := by have := h.ok.next; omega
        have hi : 0 ≤ L.at now ∧ L.at now ≤ 65535 := atF_in L.is L.stamp L.told now
        refine send_of g L now (now % 65535).toNat (L.at now).toNat p c n text (sndP L now text) w h ht (by omega) (by omega) (by omega) (by omega) hP hn (by omega) hx (by rw [sndP_length, hn]) hg ?_
        intro v q cq hb hq
        exact seal_ok L.code L.mark L.down L.next q cq (n + 4) (sndT L now text) v h.ok.key hx hq (by rw [sndT_length, hn]) (by omega) (hL.keptB (B := w.heap.size) hL2 hb)
  · rw [if_neg ht]
    simp only [if_neg (show ¬ (2 : Int) = 0 by omega)]
    exact send_arg g L p now n c w h ht

end Go.Proofs.YtbmjlofehbbkbaaDoor
