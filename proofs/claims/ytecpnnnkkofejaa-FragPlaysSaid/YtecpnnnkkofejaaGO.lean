/-
  Walks of the program: New, Id, Held, Copy; of no joiner; the form of a piece, a piece that is read.
-/
import Derived.Test.YtecpnnnkkofejaaGN
namespace Go.Proofs.Ytecpnnnkkofejaa
open Go.RowKit Go.Maps

set_option maxHeartbeats 1000000 in
set_option maxRecDepth 100000 in
theorem new_any (w : World) : Calls Try.prog 18 #[] w fun e w' => ∃ g, e = .returned (.pointer (some ⟨g, 0, none⟩)) ∧ w.heap.size ≤ g ∧ PP w' g Js.none ∧ Below w.heap.size w w' := by
  have A1 : Hid (PP (w.alloc (Obj.cells #[.int .u64 0, .bool false, .int .i64 0, .map none] 55)) w.heap.size Js.none ∧ Below w.heap.size w (w.alloc (Obj.cells #[.int .u64 0, .bool false, .int .i64 0, .map none] 55))) :=
    ⟨⟨⟨none, [], ⟨Arr.new w _ _, List.Pairwise.nil, rfl, fun k hk => by cases hk⟩, rfl⟩, fun _ => rfl⟩, (Below.refl _ _).alloc (Nat.le_refl _) _⟩
  go_enter Try.func18, Try.ntmps18
  go_wp2
  go_ret
  exact ⟨_, rfl, Nat.le_refl _, A1.out.1, A1.out.2⟩

set_option maxHeartbeats 1000000 in
set_option maxRecDepth 100000 in
theorem id_any (w : World) (g : Nat) (s : Js) (h : PP w g s) : Calls Try.prog 23 #[.pointer (some ⟨g, 0, none⟩)] w fun e w' => e = .returned (.int .u64 (s.i : Int)) ∧ w' = w := by
  have j0 : w.cell? ⟨g, 0, none⟩ = some (.int .u64 (s.i : Int)) := by obtain ⟨⟨q, ks, h1, _⟩, _⟩ := h; exact h1.j.cell 0
  clear h
  go_enter Try.func23, Try.ntmps23
  go_wp2
  go_ret
  exact ⟨rfl, rfl⟩
set_option maxHeartbeats 1000000 in
set_option maxRecDepth 100000 in
theorem id_nil (w : World) : Calls Try.prog 23 #[.pointer none] w fun e w' => e = .returned (.int .u64 0) ∧ w' = w := by
  go_enter Try.func23, Try.ntmps23
  go_wp2
  go_ret
  exact ⟨rfl, rfl⟩
theorem hld_any (w : World) (g n : Nat) (s : Js) (h : PP w g s) (hf : s.fits n) : Calls Try.prog 22 #[.pointer (some ⟨g, 0, none⟩)] w fun e w' => e = .returned (.tuple #[.int .i64 (s.l.length : Int), .int .i64 (sizeL s.l : Int)]) ∧ Below w.heap.size w w' := by
  obtain ⟨⟨q, ks, h1, h2⟩, _⟩ := h
  exact pheld_any w g s.i _ _ s.done _ q ks h1 (len_map h2) ((sum_map ks).trans (by rw [h2])) (by have := hf.1; omega)
set_option maxHeartbeats 1000000 in
set_option maxRecDepth 100000 in
theorem copy_any (w : World) (g : Nat) (s : Js) (h : PP w g s) : Calls Try.prog 19 #[.pointer (some ⟨g, 0, none⟩)] w fun e w' => ∃ g', e = .returned (.pointer (some ⟨g', 0, none⟩)) ∧ w.heap.size ≤ g' ∧ PP w' g' s ∧ Below w.heap.size w w' := by
  obtain ⟨⟨q, ks, h1, h2⟩, h3⟩ := h
  have H := hide h1
  have H2 := hide h2
  have H3 := hide h3
  clear h1 h2 h3
  have Z : Hid (Arr (w.alloc (Obj.cells #[.int .u64 0, .bool false, .int .i64 0, .map none] 55)) w.heap.size 55 [.int .u64 0, .bool false, .int .i64 0, .map none] ∧ Below w.heap.size w (w.alloc (Obj.cells #[.int .u64 0, .bool false, .int .i64 0, .map none] 55))) := ⟨Arr.new w _ _, (Below.refl _ _).alloc (Nat.le_refl _) _⟩
  go_enter Try.func19, Try.ntmps19
  go_wp2_with (first
    | (refine wpList_exec (by rfl) _ (exec_load_all 55 (.tmp 7) rfl g rfl 55 _ _ H.out.j Try.underlying55 rfl infoFJ) ?_)
    | (refine wpList_store_row rfl 55 _ _ rfl w.heap.size _ rfl rfl 55 _ Z.out.1 infoFJ rfl (one_fj _ _ _ _) ?_))
  go_ret
  refine ⟨w.heap.size, rfl, Nat.le_refl _, ⟨⟨q, ks, ?_, H2.out⟩, H3.out⟩, below_setRow Z.out.2 (Nat.le_refl _) Z.out.1.lt _⟩
  have hb : Below w.heap.size w ((w.alloc (Obj.cells #[.int .u64 0, .bool false, .int .i64 0, .map none] 55)).setRow w.heap.size #[.int .u64 (s.i : Int), .bool s.done, .int .i64 (s.must : Int), .map q]) := below_setRow Z.out.2 (Nat.le_refl _) Z.out.1.lt _
  have hk := H.out.kept hb
  exact ⟨Z.out.1.row _, hk.d, hk.m, hk.e⟩
set_option maxHeartbeats 1000000 in
set_option maxRecDepth 100000 in
theorem copy_nil (w : World) : Calls Try.prog 19 #[.pointer none] w fun e w' => e = .returned (.pointer none) ∧ w' = w := by
  go_enter Try.func19, Try.ntmps19
  go_wp2
  go_ret
  exact ⟨rfl, rfl⟩
set_option maxHeartbeats 1000000 in
set_option maxRecDepth 100000 in
theorem put_nil (w : World) (x : Pc) (p : Option Addr) (c : Nat) : Calls Try.prog 20 #[.pointer none, pcV x p c] w fun e w' => e = .returned (.tuple #[.slice none 0 0, .bool false, .int .i64 1]) ∧ Below w.heap.size w w' := by
  have A1 := hide (pc_box w x p c).2
  go_enter Try.func20, Try.ntmps20
  go_wp2
  go_ret3
  exact ⟨rfl, A1.out⟩

end Go.Proofs.Ytecpnnnkkofejaa
