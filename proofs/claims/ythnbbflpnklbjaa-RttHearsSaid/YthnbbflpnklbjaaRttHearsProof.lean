/-
  RttHears: what any meter is behind any samples is the document's, or refused, the samples stay, whether the meter may be is the document's, and the known rows come out (of more than 500 samples nothing is asked but the known rows): the law returns true, and what is handed in stays. No condition.
-/
import Derived.Test.YthnbbflpnklbjaaTH
namespace Go.Proofs.Ythnbbflpnklbjaa
namespace RttHearsProof
open Go.ChangeShapes Go.WideShapes Go.ChangeAt Go.WideMaps Go.WideElems Go.RowKit
set_option linter.unusedVariables false

/-- what lies in memory -/
structure StL (w wr : World) (m M : Me) (g6 g8 : Nat) (p : Option Addr) (c : Nat) (p3 : Option Addr) (c3 : Nat) (xs : List Int) : Prop where
  b : Arr wr w.heap.size 23 (meC m)
  x : Arr wr g6 23 (meC M)
  y : Arr wr g8 23 (meC M)
  l : IPiece wr p c xs
  o : IPiece wr p3 c3 xs
  w : Below w.heap.size w wr
theorem StL.kept {w wr w' : World} {m M : Me} {g6 g8 c c3 : Nat} {p p3 : Option Addr} {xs : List Int} (h : StL w wr m M g6 g8 p c p3 c3 xs) (hb : Below wr.heap.size wr w') : StL w w' m M g6 g8 p c p3 c3 xs :=
  ⟨h.b.kept hb, h.x.kept hb, h.y.kept hb, h.l.kept hb, h.o.kept hb, h.w.trans (hb.mono h.w.size)⟩
theorem StL.drew {w wr : World} {m M : Me} {g6 g8 c c3 : Nat} {p p3 : Option Addr} {xs : List Int} (h : StL w wr m M g6 g8 p c p3 c3 xs) : StL w wr.drew m M g6 g8 p c p3 c3 xs := h.kept (Below.refl _ _).drew

set_option maxHeartbeats 8000000 in
set_option maxRecDepth 100000 in
theorem walk_in (m M : Me) (E : Int) (r : Bool) (p : Option Addr) (c n : Nat) (xs : List Int) (w : World) (hx : IPiece w p c xs) (hn : xs.length = n)
    (h1 : ∀ (p : Option Addr) (c : Nat) (v : World), IPiece v p c xs → Calls Try.prog 9 #[meV m, .slice p n c] v fun e w' => e = .returned (.tuple #[meV M, .int .i64 E]) ∧ Below v.heap.size v w')
    (h2 : ∀ (p : Option Addr) (c : Nat) (v : World), IPiece v p c xs → Calls Try.prog 10 #[meV m, .slice p n c] v fun e w' => e = .returned (.tuple #[meV M, .int .i64 E]) ∧ Below v.heap.size v w')
    (h3 : ∀ v : World, Calls Try.prog 11 #[meV m] v fun e w' => e = .returned (.bool r) ∧ Below v.heap.size v w')
    (h4 : ∀ v : World, Calls Try.prog 12 #[meV m] v fun e w' => e = .returned (.bool r) ∧ Below v.heap.size v w') :
    Calls Try.prog 3 #[meV m, .slice p n c] w fun e w' => e = .returned (.bool true) ∧ Below w.heap.size w w' := by
  have H1 := hide h1
  have H2 := hide h2
  have H3 := hide h3
  have H4 := hide h4
  have HX := hide hx
  have HN := hide hn
  have HE := hide (fun v : World => me_eq_true M v)
  have A0 := hide (me_box w m)
  clear h1 h2 h3 h4 hx hn
  go_enter Try.func3, Try.ntmps3
  go_upto_region 1 with fail
  generalize w.alloc (Obj.cells #[Value.int .i64 m.a, Value.int .i64 m.b, Value.int .i64 m.c] 23) = w1 at *
  go_wp2_with fail
  refine (known_any w1).mono ?_
  rintro e w2 ⟨rfl, hb⟩
  have A2 : Hid (Arr w2 w.heap.size 23 (meC m) ∧ Below w.heap.size w w2 ∧ IPiece w2 p c xs) := ⟨A0.out.1.kept hb, A0.out.2.trans (hb.mono A0.out.2.size), HX.out.kept (A0.out.2.trans (hb.mono A0.out.2.size))⟩
  clear hb A0 HX
  by_cases hbig : 500 < n
  · have hd : decide ((500 : Int) < (n : Int)) = true := by simp; omega
    go_wp2
    go_ret
    exact ⟨rfl, A2.out.2.1⟩
  have hd : decide ((500 : Int) < (n : Int)) = false := by simp; omega
  have hn2 : n ≤ 500 := by omega
  go_wp2_with (at_builtin; refine wpList_append_ints rfl (.tmp 16) (.tmp 17) rfl w2.heap.size _ [] rfl 0 rfl (World.ownsRow_made w2 #[] 0 (Nat.le_refl _) (Nat.zero_le _) rfl) p n c xs HN.out rfl ?h1 A2.out.2.2.2.1 ?h3 ?h4 ?_)
  case h1 => exact A2.out.2.2.1.kept ((Below.refl _ _).alloc (Nat.le_refl _) _)
  case h3 => omega
  case h4 => simp
  intro v w3 ho hg
  have HO : Hid (w3.ownsRow w2.heap.size 3 1 v xs.length (i64s xs)) := by
    show World.ownsRow _ _ _ _ _ _ _
    rw [HN.out]
    simpa using ho
  obtain ⟨p3, c3, hv3, hP3, _⟩ := own_ipiece HO.out
  rw [HN.out] at hv3
  subst hv3
  have hb : Below w2.heap.size w2 w3 := ((Below.refl _ w2).alloc (Nat.le_refl _) _).trans (grown_below hg (by simp) (fun k e => by simp [Value.ownBlock] at e; omega))
  have A3 : Hid (Arr w3 w.heap.size 23 (meC m) ∧ Below w.heap.size w w3 ∧ IPiece w3 p c xs ∧ IPiece w3 p3 c3 xs) := ⟨A2.out.1.kept hb, A2.out.2.1.trans (hb.mono A2.out.2.1.size), A2.out.2.2.kept hb, hP3⟩
  clear ho hg hP3 hb A2 HO
  go_wp2_with (refine wpList_exec (by rfl) _ (exec_load_all 23 (.tmp 2) rfl w.heap.size rfl 23 (meC m) _ A3.out.1 Try.underlying23 rfl infoM) ?_)
  refine (H1.out _ _ w3 A3.out.2.2.2).mono ?_
  rintro e w4 ⟨rfl, hb⟩
  have hb' : Below w3.heap.size w3 (w4.alloc (Obj.cells #[Value.int .i64 M.a, Value.int .i64 M.b, Value.int .i64 M.c] 23)) := hb.alloc hb.size _
  have A4 : Hid (Arr (w4.alloc (Obj.cells #[Value.int .i64 M.a, Value.int .i64 M.b, Value.int .i64 M.c] 23)) w.heap.size 23 (meC m) ∧ Below w.heap.size w (w4.alloc (Obj.cells #[Value.int .i64 M.a, Value.int .i64 M.b, Value.int .i64 M.c] 23)) ∧ IPiece (w4.alloc (Obj.cells #[Value.int .i64 M.a, Value.int .i64 M.b, Value.int .i64 M.c] 23)) p c xs ∧ IPiece (w4.alloc (Obj.cells #[Value.int .i64 M.a, Value.int .i64 M.b, Value.int .i64 M.c] 23)) p3 c3 xs ∧ Arr (w4.alloc (Obj.cells #[Value.int .i64 M.a, Value.int .i64 M.b, Value.int .i64 M.c] 23)) w4.heap.size 23 (meC M)) := ⟨A3.out.1.kept hb', A3.out.2.1.trans (hb'.mono A3.out.2.1.size), A3.out.2.2.1.kept hb', A3.out.2.2.2.kept hb', Arr.new w4 _ _⟩
  clear hb hb' A3 H1
  go_upto_region 7 with fail
  generalize w4.alloc (Obj.cells #[Value.int .i64 M.a, Value.int .i64 M.b, Value.int .i64 M.c] 23) = w5 at *
  generalize w4.heap.size = g6 at *
  go_wp2_with (refine wpList_exec (by rfl) _ (exec_load_all 23 (.tmp 2) rfl w.heap.size rfl 23 (meC m) _ A4.out.1 Try.underlying23 rfl infoM) ?_)
  refine (H2.out _ _ w5 A4.out.2.2.1).mono ?_
  rintro e w6 ⟨rfl, hb⟩
  have hb' : Below w5.heap.size w5 (w6.alloc (Obj.cells #[Value.int .i64 M.a, Value.int .i64 M.b, Value.int .i64 M.c] 23)) := hb.alloc hb.size _
  have A6 : Hid (StL w (w6.alloc (Obj.cells #[Value.int .i64 M.a, Value.int .i64 M.b, Value.int .i64 M.c] 23)) m M g6 w6.heap.size p c p3 c3 xs) := ⟨A4.out.1.kept hb', A4.out.2.2.2.2.kept hb', Arr.new w6 _ _, A4.out.2.2.1.kept hb', A4.out.2.2.2.1.kept hb', A4.out.2.1.trans (hb'.mono A4.out.2.1.size)⟩
  clear hb hb' A4 H2
  go_upto_region 8 with fail
  generalize w6.alloc (Obj.cells #[Value.int .i64 M.a, Value.int .i64 M.b, Value.int .i64 M.c] 23) = w7 at *
  generalize w6.heap.size = g8 at *
  go_wp2_with fail
  clear hd hbig
  go_loopg [10] (n + 1) (fun f s10 wr => ∃ (k : Nat), s10 = .int .i64 (k : Int) ∧ k ≤ n ∧ n - k < f ∧ Hid (StL w wr m M g6 g8 p c p3 c3 xs))
  case atStart => exact ⟨0, rfl, by omega, by omega, A6⟩
  case round =>
    obtain ⟨k, rfl, hk, hf, HT⟩ := hrel
    clear A6
    by_cases hkn : k < n
    · obtain ⟨g, o, rfl, hc⟩ := HT.out.l.cell (by rw [HN.out]; omega)
      obtain ⟨g', o', rfl, hc'⟩ := HT.out.o.cell (by rw [HN.out]; omega)
      have HC : Hid (∀ v, Hid (StL w v m M g6 g8 (some ⟨g, o, none⟩) c (some ⟨g', o', none⟩) c3 xs) → v.cell? ⟨g, o + k, none⟩ = some (.int .i64 (xs.getD k 0)) ∧ v.cell? ⟨g', o' + k, none⟩ = some (.int .i64 (xs.getD k 0))) := fun v h => by
        have hkl : k < xs.length := by rw [HN.out]; exact hkn
        obtain ⟨_, _, e1, h1⟩ := h.out.l.cell (by omega)
        obtain ⟨_, _, e2, h2⟩ := h.out.o.cell (by omega)
        cases e1
        cases e2
        exact ⟨h1 k hkl, h2 k hkl⟩
      clear hc hc'
      generalize xs.getD k 0 = x at *
      go_upto_region 11 with fail
      refine wp_region_held_drew (S := fun v => Hid (StL w v m M g6 g8 (some ⟨g, o, none⟩) c (some ⟨g', o', none⟩) c3 xs)) (by kernel_rfl) (hide HT.out.drew) (fun hHeld => ?_)
      refine take_dstH (i := 0) (d := 37) (v := ?_) rfl rfl (by kernel_rfl) (by kernel_rfl) (by kernel_rfl) (fun _ _ _ h => h) (by rfl) hHeld ?_ ?_
      rotate_left
      · intro wZ hSw; clear hSw; go_simp; first | (with_reducible rfl) | (rw [if_pos (by omega)]; with_reducible rfl) | skip
      try simp only [Act.put, List.setIfInBounds_toArray, List.set_cons_zero, List.set_cons_succ]
      refine take_dstH (i := 1) (d := 38) (v := ?_) rfl rfl (by kernel_rfl) (by kernel_rfl) (by kernel_rfl) (fun _ _ _ h => h) (by rfl) hHeld ?_ ?_
      rotate_left
      · intro wZ hSw; clear hSw; go_simp; first | (with_reducible rfl) | (rw [if_pos (by omega)]; with_reducible rfl) | skip
      try simp only [Act.put, List.setIfInBounds_toArray, List.set_cons_zero, List.set_cons_succ]
      refine take_dstH (i := 2) (d := 39) (v := ?_) rfl rfl (by kernel_rfl) (by kernel_rfl) (by kernel_rfl) (fun _ _ _ h => h) (by rfl) hHeld ?_ ?_
      rotate_left
      · intro wZ hSw; clear hSw; go_simp; first | (with_reducible rfl) | (rw [if_pos (by omega)]; with_reducible rfl) | skip
      try simp only [Act.put, List.setIfInBounds_toArray, List.set_cons_zero, List.set_cons_succ]
      refine take_dstH (i := 3) (d := 40) (v := ?_) rfl rfl (by kernel_rfl) (by kernel_rfl) (by kernel_rfl) (fun _ _ _ h => h) (by rfl) hHeld ?_ ?_
      rotate_left
      · intro wZ hSw; have hfS := (fun (v : World) hv => (HC.out v hv).2) wZ hSw; clear hSw; go_simp; first | (with_reducible rfl) | (rw [if_pos (by omega)]; with_reducible rfl) | skip
      try simp only [Act.put, List.setIfInBounds_toArray, List.set_cons_zero, List.set_cons_succ]
      refine take_dstH (i := 4) (d := 41) (v := ?_) rfl rfl (by kernel_rfl) (by kernel_rfl) (by kernel_rfl) (fun _ _ _ h => h) (by rfl) hHeld ?_ ?_
      rotate_left
      · intro wZ hSw; clear hSw; go_simp; first | (with_reducible rfl) | (rw [if_pos (by omega)]; with_reducible rfl) | skip
      try simp only [Act.put, List.setIfInBounds_toArray, List.set_cons_zero, List.set_cons_succ]
      refine take_dstH (i := 5) (d := 42) (v := ?_) rfl rfl (by kernel_rfl) (by kernel_rfl) (by kernel_rfl) (fun _ _ _ h => h) (by rfl) hHeld ?_ ?_
      rotate_left
      · intro wZ hSw; clear hSw; go_simp; first | (with_reducible rfl) | (rw [if_pos (by omega)]; with_reducible rfl) | skip
      try simp only [Act.put, List.setIfInBounds_toArray, List.set_cons_zero, List.set_cons_succ]
      refine take_dstH (i := 6) (d := 43) (v := ?_) rfl rfl (by kernel_rfl) (by kernel_rfl) (by kernel_rfl) (fun _ _ _ h => h) (by rfl) hHeld ?_ ?_
      rotate_left
      · intro wZ hSw; clear hSw; go_simp; first | (with_reducible rfl) | (rw [if_pos (by omega)]; with_reducible rfl) | skip
      try simp only [Act.put, List.setIfInBounds_toArray, List.set_cons_zero, List.set_cons_succ]
      refine take_dstH (i := 7) (d := 44) (v := ?_) rfl rfl (by kernel_rfl) (by kernel_rfl) (by kernel_rfl) (fun _ _ _ h => h) (by rfl) hHeld ?_ ?_
      rotate_left
      · intro wZ hSw; have hfS := (fun (v : World) hv => (HC.out v hv).1) wZ hSw; clear hSw; go_simp; first | (with_reducible rfl) | (rw [if_pos (by omega)]; with_reducible rfl) | skip
      try simp only [Act.put, List.setIfInBounds_toArray, List.set_cons_zero, List.set_cons_succ]
      refine take_dstH (i := 8) (d := 45) (v := ?_) rfl rfl (by kernel_rfl) (by kernel_rfl) (by kernel_rfl) (fun _ _ _ h => h) (by rfl) hHeld ?_ ?_
      rotate_left
      · intro wZ hSw; clear hSw; go_simp; first | (with_reducible rfl) | (rw [if_pos (by omega)]; with_reducible rfl) | skip
      try simp only [Act.put, List.setIfInBounds_toArray, List.set_cons_zero, List.set_cons_succ]
      refine wpAnyH_done (by kernel_rfl) ?_ _
      go_wp2_with fail
      go_roundg (n - k)
      case measure => omega
      case rel => exact ⟨k + 1, by simp, by omega, by omega, hHeld⟩
    · have hkn' : k = n := by omega
      subst hkn'
      go_upto_region 13 with fail
      refine wp_region_held_drew (S := fun v => Hid (StL w v m M g6 g8 p c p3 c3 xs)) (by kernel_rfl) (hide HT.out.drew) (fun hHeld => ?_)
      refine take_dstH (i := 0) (d := 46) (v := ?_) rfl rfl (by kernel_rfl) (by kernel_rfl) (by kernel_rfl) (fun _ _ _ h => h) (by rfl) hHeld ?_ ?_
      rotate_left
      · intro wZ hSw; refine exec_load_all 23 (.tmp 6) ?_ g6 ?_ 23 (meC M) _ (Hid.out hSw).x Try.underlying23 rfl infoM <;> rfl
      try simp only [Act.put, List.setIfInBounds_toArray, List.set_cons_zero, List.set_cons_succ]
      refine take_dstH (i := 1) (d := 47) (v := ?_) rfl rfl (by kernel_rfl) (by kernel_rfl) (by kernel_rfl) (fun _ _ _ h => h) (by rfl) hHeld ?_ ?_
      rotate_left
      · intro wZ hSw; refine exec_load_all 23 (.tmp 8) ?_ g8 ?_ 23 (meC M) _ (Hid.out hSw).y Try.underlying23 rfl infoM <;> rfl
      try simp only [Act.put, List.setIfInBounds_toArray, List.set_cons_zero, List.set_cons_succ]
      refine take_dstH (i := 2) (d := 48) (v := ?_) rfl rfl (by kernel_rfl) (by kernel_rfl) (by kernel_rfl) (fun _ _ _ h => h) (by rfl) hHeld ?_ ?_
      rotate_left
      · intro wZ hSw; refine exec_eql_agg 23 23 (.tmp 46) (.tmp 47) ?_ (meC M).toArray (meC M).toArray ?_ ?_ true (guardM _ _ _ _ _) (HE.out wZ) <;> rfl
      try simp only [Act.put, List.setIfInBounds_toArray, List.set_cons_zero, List.set_cons_succ]
      refine take_dstH (i := 3) (d := 49) (v := ?_) rfl rfl (by kernel_rfl) (by kernel_rfl) (by kernel_rfl) (fun _ _ _ h => h) (by rfl) hHeld ?_ ?_
      rotate_left
      · intro wZ hSw; clear hSw; go_simp; first | (with_reducible rfl) | (rw [if_pos (by omega)]; with_reducible rfl) | skip
      try simp only [Act.put, List.setIfInBounds_toArray, List.set_cons_zero, List.set_cons_succ]
      refine take_dstH (i := 4) (d := 50) (v := ?_) rfl rfl (by kernel_rfl) (by kernel_rfl) (by kernel_rfl) (fun _ _ _ h => h) (by rfl) hHeld ?_ ?_
      rotate_left
      · intro wZ hSw; clear hSw; go_simp; first | (with_reducible rfl) | (rw [if_pos (by omega)]; with_reducible rfl) | skip
      try simp only [Act.put, List.setIfInBounds_toArray, List.set_cons_zero, List.set_cons_succ]
      refine take_dstH (i := 5) (d := 51) (v := ?_) rfl rfl (by kernel_rfl) (by kernel_rfl) (by kernel_rfl) (fun _ _ _ h => h) (by rfl) hHeld ?_ ?_
      rotate_left
      · intro wZ hSw; clear hSw; go_simp; first | (with_reducible rfl) | (rw [if_pos (by omega)]; with_reducible rfl) | skip
      try simp only [Act.put, List.setIfInBounds_toArray, List.set_cons_zero, List.set_cons_succ]
      refine take_dstH (i := 6) (d := 52) (v := ?_) rfl rfl (by kernel_rfl) (by kernel_rfl) (by kernel_rfl) (fun _ _ _ h => h) (by rfl) hHeld ?_ ?_
      rotate_left
      · intro wZ hSw; clear hSw; go_simp; first | (with_reducible rfl) | (rw [if_pos (by omega)]; with_reducible rfl) | skip
      try simp only [Act.put, List.setIfInBounds_toArray, List.set_cons_zero, List.set_cons_succ]
      refine take_dstH (i := 7) (d := 53) (v := ?_) rfl rfl (by kernel_rfl) (by kernel_rfl) (by kernel_rfl) (fun _ _ _ h => h) (by rfl) hHeld ?_ ?_
      rotate_left
      · intro wZ hSw; clear hSw; go_simp; first | (with_reducible rfl) | (rw [if_pos (by omega)]; with_reducible rfl) | skip
      try simp only [Act.put, List.setIfInBounds_toArray, List.set_cons_zero, List.set_cons_succ]
      refine take_dstH (i := 8) (d := 54) (v := ?_) rfl rfl (by kernel_rfl) (by kernel_rfl) (by kernel_rfl) (fun _ _ _ h => h) (by rfl) hHeld ?_ ?_
      rotate_left
      · intro wZ hSw; clear hSw; go_simp; first | (with_reducible rfl) | (rw [if_pos (by omega)]; with_reducible rfl) | skip
      try simp only [Act.put, List.setIfInBounds_toArray, List.set_cons_zero, List.set_cons_succ]
      refine take_dstH (i := 9) (d := 55) (v := ?_) rfl rfl (by kernel_rfl) (by kernel_rfl) (by kernel_rfl) (fun _ _ _ h => h) (by rfl) hHeld ?_ ?_
      rotate_left
      · intro wZ hSw; refine exec_load_all 23 (.tmp 2) ?_ w.heap.size ?_ 23 (meC m) _ (Hid.out hSw).b Try.underlying23 rfl infoM <;> rfl
      try simp only [Act.put, List.setIfInBounds_toArray, List.set_cons_zero, List.set_cons_succ]
      refine take_dstH (i := 11) (d := 57) (v := ?_) rfl rfl (by kernel_rfl) (by kernel_rfl) (by kernel_rfl) (fun _ _ _ h => h) (by rfl) hHeld ?_ ?_
      rotate_left
      · intro wZ hSw; refine exec_load_all 23 (.tmp 2) ?_ w.heap.size ?_ 23 (meC m) _ (Hid.out hSw).b Try.underlying23 rfl infoM <;> rfl
      try simp only [Act.put, List.setIfInBounds_toArray, List.set_cons_zero, List.set_cons_succ]
      refine wpAnyH_ready (rs := [10]) (by kernel_rfl) (by simp) ?_
      refine (AllReadyH.cons rfl (fun K hK => ?_) AllReadyH.nil)
      go_simp
      refine (H3.out _).mono ?_; rintro e wa ⟨rfl, hba⟩; have HA : Hid (StL w wa m M g6 g8 p c p3 c3 xs) := (Hid.out hHeld).kept hba; clear hba
      go_wp2_with fail
      refine hK.out _ _ ?_ (fun hHeld => ?_)
      · exact HA
      clear hK K
      try simp only [Act.put, List.setIfInBounds_toArray, List.set_cons_zero, List.set_cons_succ]
      refine wpAnyH_ready (rs := [12]) (by kernel_rfl) (by simp) ?_
      refine (AllReadyH.cons rfl (fun K hK => ?_) AllReadyH.nil)
      go_simp
      refine (H4.out _).mono ?_; rintro e wb ⟨rfl, hba⟩; have HA : Hid (StL w wb m M g6 g8 p c p3 c3 xs) := (Hid.out hHeld).kept hba; clear hba
      go_wp2_with fail
      refine hK.out _ _ ?_ (fun hHeld => ?_)
      · exact HA
      clear hK K
      try simp only [Act.put, List.setIfInBounds_toArray, List.set_cons_zero, List.set_cons_succ]
      refine take_dstH (i := 13) (d := 59) (v := ?_) rfl rfl (by kernel_rfl) (by kernel_rfl) (by kernel_rfl) (fun _ _ _ h => h) (by rfl) hHeld ?_ ?_
      rotate_left
      · intro wZ hSw; clear hSw; go_simp; first | (with_reducible rfl) | (rw [if_pos (by omega)]; with_reducible rfl) | skip
      try simp only [Act.put, List.setIfInBounds_toArray, List.set_cons_zero, List.set_cons_succ]
      refine take_dstH (i := 14) (d := 60) (v := ?_) rfl rfl (by kernel_rfl) (by kernel_rfl) (by kernel_rfl) (fun _ _ _ h => h) (by rfl) hHeld ?_ ?_
      rotate_left
      · intro wZ hSw; clear hSw; go_simp; first | (with_reducible rfl) | (rw [if_pos (by omega)]; with_reducible rfl) | skip
      try simp only [Act.put, List.setIfInBounds_toArray, List.set_cons_zero, List.set_cons_succ]
      refine take_dstH (i := 15) (d := 4) (v := ?_) rfl rfl (by kernel_rfl) (by kernel_rfl) (by kernel_rfl) (fun _ _ _ h => h) (by rfl) hHeld ?_ ?_
      rotate_left
      · intro wZ hSw; clear hSw; go_simp; first | (with_reducible rfl) | (rw [if_pos (by omega)]; with_reducible rfl) | skip
      try simp only [Act.put, List.setIfInBounds_toArray, List.set_cons_zero, List.set_cons_succ]
      refine wpAnyH_done (by kernel_rfl) ?_ _
      go_wp2
      go_ret
      exact ⟨rfl, hHeld.out.w⟩

theorem walk (m : Me) (p : Option Addr) (c : Nat) (xs : List Int) (w : World) (hx : IPiece w p c xs) :
    Calls Try.prog 3 #[meV m, .slice p xs.length c] w fun e w' => e = .returned (.bool true) ∧ Below w.heap.size w w' :=
  walk_in m _ _ _ p c _ xs w hx rfl (fun p c v h => hear_any m p c _ xs v h rfl) (fun p c v h => rhear_any m p c _ xs v h rfl) (fun v => may_any m v) (fun v => rmay_any m v)

theorem own : ownKnob Try.prog.godebug = none := by kernel_rfl
theorem laidOut : laidOutB Try.prog = true := by kernel_rfl
set_option maxRecDepth 100000 in
theorem lifted (os : Os) (started : os.Started) (H : Type) (enc : TypeId × Value → H) :
    ReturnsInHanded {} Try.checked os 3 .any (Rows.rttHearsSpec.pre6 enc Try.prog Try.f3 Rows.rttHearsRow.domain false) (Rows.rttHearsSpec.post enc Try.prog Try.f3 false true false false) := by
  refine returnsInHanded_of_change (C := Try.checked) own started (by kernel_rfl) Try.func3
    (ChangeSpec.witness6 (enc := enc) (C := Try.checked) false ⟨#[], #[.agg #[.int .i64 0, .int .i64 0, .int .i64 0], .slice none 0 0], []⟩ 8 (by kernel_rfl) (by kernel_rfl) (by kernel_rfl) (by kernel_rfl)) ?_
  intro W base args ds gs before hval0 hW hcnd _
  have hval : ∀ (j : Nat) t v, Try.f3.params[j]? = some t → args[j]? = some v → Value.okWide Try.prog W .any base t v := hval0
  have hW' := hW
  obtain ⟨p, q, hA0, hV, rfl, hfz, hnd⟩ := hW
  have hA : DataW.TrodAll enc Try.prog W 0 (fun _ => true) true Try.f3.params.toList args.toList ds p := hA0
  rw [Try.params3] at hA hval
  obtain ⟨v0, vs0, d0, ds0, p0, q0, hargs, rfl, rfl, h0, r0⟩ := trodAll_cons hA
  obtain ⟨v1, vs1, d1, ds1, p1, q1, rfl, rfl, rfl, h1, r1⟩ := trodAll_cons r0
  obtain ⟨rfl, rfl, rfl⟩ := trodAll_nil r1
  obtain rfl : args = #[v0, v1] := by cases args; simp_all
  obtain ⟨rfl, rfl⟩ := trodVars_none hV
  have k0 := h0
  obtain ⟨x0, rfl, z0⟩ := open_meter (hval 0 23 v0 rfl rfl) h0
  obtain ⟨a1, len1, cap1, rfl⟩ := okWide_slice Try.underlying24 (hval 1 24 v1 rfl rfl)
  have k1 := h1
  have lt1 : ∀ x ∈ p1, x.block < W.heap.size := by obtain ⟨m, hm⟩ := k1; exact DataW.trod_lt m _ _ _ hm
  obtain ⟨fuel1, hf1⟩ := h1
  obtain ⟨a1', cap1', x1, hcs1, w1⟩ := ints_of hf1
  simp [Value.cells] at hcs1
  obtain ⟨rfl, rfl, rfl⟩ := hcs1
  clear hf1
  clear hA0 hval0
  refine (walk x0 a1 cap1 x1 W w1).mono fun e W' ⟨he, bel⟩ => ?_
  subst he
  exact ⟨_, rfl, _, _, _, [], _, [], hW', trodAll_mk1 (shut_bool Try.underlying4 _), (trodAll_cons_mk (Below.trod laidOut (by kernel_rfl) (of_decide_eq_true (by kernel_rfl)) k0 bel (fun x hx => (z0 x hx).elim)) (trodAll_cons_mk (Below.trod laidOut (by kernel_rfl) (of_decide_eq_true (by kernel_rfl)) k1 bel lt1) trodAll_mk0)), rfl, bel.frame _, fun h => by cases h⟩

theorem over : Rows.rttHearsRow.holds Try.pinned (OpenSpec.ofChange Rows.rttHearsSpec) :=
  OpenClaim.holds_of_wide 3 Try.f3 rfl rfl rfl rfl rfl rfl rfl ⟨rfl, rfl, rfl, rfl, rfl⟩ rfl rfl rfl rfl rfl (by kernel_rfl) Try.func3 (by kernel_rfl)
    (of_decide_eq_true (by kernel_rfl)) (by unfold Func.isWrapper; first | (rw [if_pos (by decide +kernel)]; kernel_rfl) | (rw [if_neg (by decide +kernel)]; exact ⟨rfl, rfl⟩))
    (fun os started H enc _ => lifted os started H enc)

end RttHearsProof

/-- What any meter is behind any samples is the document's, or refused; the samples stay. -/
theorem rttHears_holds : Rows.RttHearsSaid := RttHearsProof.over

#print axioms rttHears_holds
end Go.Proofs.Ythnbbflpnklbjaa
