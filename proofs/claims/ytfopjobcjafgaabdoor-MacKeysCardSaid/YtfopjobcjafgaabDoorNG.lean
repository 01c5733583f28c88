/-
  Walks: Derive where a number may not be; the reference's Derive.
-/
import Derived.Test.YtfopjobcjafgaabDoorNF
namespace Go.Proofs.YtfopjobcjafgaabDoor
open Go.RowKit

/-- append onto a constant's bytes: a new row -/
theorem append_const (w : World) (g : Nat) (t ys : List Nat) (ht : t.length = 4) (fr : Nat × Nat) (hg : w.heap[g]? = some (.cells (u8s t).toArray 5 fr)) (p : Option Addr) (m c : Nat) (hp : Piece w p c ys) (hm : ys.length = m) (h1 : 1 ≤ m) (h100 : m ≤ 1000) (ty : TypeId) :
    ∃ v' w', (Builtin.append_ #[22, 22] ty #[.slice (some ⟨g, 0, none⟩) 4 4, .slice p m c]).run Tryd.prog w = .ok v' w' ∧ w'.ownsRow w.heap.size 5 1 v' (4 + m) (u8s (t ++ ys)) ∧ Below w.heap.size w w' := by
  obtain ⟨i0, hi, hz0, hz1, hz2⟩ := info_parts infoU8
  cases p with
  | none => have := hp.2.1 rfl; have := hp.2.2.2.1; omega
  | some ad =>
    have hnews : ∀ j u, (u8s ys)[j]? = some u → w.cell? (ad.add j) = some u := fun j u hj => by
      have hjn : j < ys.length := by have := (List.getElem?_eq_some_iff.1 hj).1; simpa [u8s] using this
      rcases hp.1 with h0 | ⟨b, off, h0, hcell⟩
      · subst h0; simp at hjn
      · cases h0
        rw [Addr.add_mid, hcell j hjn]
        rw [u8s_at hjn] at hj
        exact hj
    have holds : ∀ j u, (u8s t)[j]? = some u → w.cell? ((⟨g, 0, none⟩ : Addr).add j) = some u := fun j u hj => by
      rw [Addr.add_mid, Nat.zero_add, cell_of_row w g j _ _ _ hg]
      simpa using hj
    have hr := run_append_grow (P := Tryd.prog) w 22 ty 5 i0 (.int .u8 0) Tryd.underlying22 hi hz0 ⟨g, 0, none⟩ 4 4 (u8s t) (by rw [hz1]; simp [u8s, ht]) holds ad m c (u8s ys) (by rw [hz1]; simp [u8s, hm]) hnews (by omega) (by omega) (growslice_fits (by omega) (by rw [hz2]; omega))
    refine ⟨_, _, hr, ⟨by simp [u8s, ht, hm], .inr ⟨w.heap.size, _, _, rfl, Nat.le_refl _, heap_alloc_new w.drew _, grownCap_ge w (4 + m) 4 5, grownCap_le_maxLen w (4 + m) 4 5 (by unfold maxLen; omega), ?_, ?_⟩⟩, ((Below.refl _ _).drew).alloc (Nat.le_refl _) _⟩
    · have := grownCap_ge w (4 + m) 4 5
      simp only [Array.size_append, size_zeroCells, Value.cells, List.size_toArray]
      simp [u8s, ht, hm]
      omega
    · simp only [Array.toList_append, Value.cells, Nat.mul_one]
      rw [u8s_append]
      exact List.take_left' (by simp [u8s, ht, hm])

set_option maxHeartbeats 4000000 in
set_option maxRecDepth 100000 in
theorem derive_out (v : Value) (m e : Int) (w : World) (h : ¬ (1 ≤ m ∧ m ≤ 8 ∧ 1 ≤ e ∧ e ≤ 1048576)) :
    Calls Tryd.prog 11 #[v, .int .i64 m, .int .i64 e] w fun r w' => r = .returned (.tuple #[.agg zeroK.toArray, .int .i64 2]) ∧ Below w.heap.size w w' := by
  have h' : m < 1 ∨ (¬ m < 1 ∧ 8 < m) ∨ (¬ m < 1 ∧ ¬ 8 < m ∧ e < 1) ∨ (¬ m < 1 ∧ ¬ 8 < m ∧ ¬ e < 1 ∧ 1048576 < e) := by omega
  clear h
  have IZ : Hid ((Tryd.prog.info? 32).map (·.size) = some zeroK.toArray.size) := by show _ = _; rw [infoK]; rfl
  have HZ1 : Hid (zeroK.toArray.all (·.oneCell') = true) := one_kCells _ _
  have HBZ := hide builtK0
  go_enter Tryd.func11, Tryd.ntmps11
  go_upto_region 1 with fail
  rw [← zeroK_lit]
  have B1 : Hid (Below w.heap.size w (w.alloc (Obj.cells zeroK.toArray 32))) := (Below.refl _ _).alloc (Nat.le_refl _) _
  have R1 := hide (Arr.new w 32 zeroK)
  have LZ := hide (show zeroK.length = 48 from rfl)
  generalize w.alloc (Obj.cells zeroK.toArray 32) = w1 at *
  generalize hZ : zeroK = Z at *
  have HZQ := hide hZ
  clear hZ
  rcases h' with h1 | ⟨h1, h2⟩ | ⟨h1, h2, h3⟩ | ⟨h1, h2, h3, h4⟩
  all_goals
    go_upto_region 2 with fail
    refine wp_region_list ?_
    refine wpList_build_zero rfl 32 rfl Z.toArray HBZ.out ?_
    go_wp2_with (refine wpList_store_row rfl 32 _ _ rfl w.heap.size _ rfl rfl 32 _ R1.out IZ.out rfl HZ1.out ?_)
    exact bodyPost_ret (v := .tuple #[.agg Z.toArray, .int .i64 2]) (results_key Tryd.results11 _ _ w.heap.size Z rfl (R1.out.row _) LZ.out) rfl ⟨by rw [HZQ.out], below_setRow B1.out (Nat.le_refl _) R1.out.lt _⟩

set_option maxHeartbeats 4000000 in
set_option maxRecDepth 100000 in
theorem refderive_out (v : Value) (m e : Int) (w : World) (h : ¬ (1 ≤ m ∧ m ≤ 8 ∧ 1 ≤ e ∧ e ≤ 1048576)) :
    Calls Tryd.prog 12 #[v, .int .i64 m, .int .i64 e] w fun r w' => r = .returned (.tuple #[.agg zeroK.toArray, .int .i64 2]) ∧ Below w.heap.size w w' := by
  have h' : m < 1 ∨ (¬ m < 1 ∧ 8 < m) ∨ (¬ m < 1 ∧ ¬ 8 < m ∧ e < 1) ∨ (¬ m < 1 ∧ ¬ 8 < m ∧ ¬ e < 1 ∧ 1048576 < e) := by omega
  clear h
  have IZ : Hid ((Tryd.prog.info? 32).map (·.size) = some zeroK.toArray.size) := by show _ = _; rw [infoK]; rfl
  have HZ1 : Hid (zeroK.toArray.all (·.oneCell') = true) := one_kCells _ _
  have HBZ := hide builtK0
  go_enter Tryd.func12, Tryd.ntmps12
  go_upto_region 1 with fail
  rw [← zeroK_lit]
  have B1 : Hid (Below w.heap.size w (w.alloc (Obj.cells zeroK.toArray 32))) := (Below.refl _ _).alloc (Nat.le_refl _) _
  have R1 := hide (Arr.new w 32 zeroK)
  have LZ := hide (show zeroK.length = 48 from rfl)
  generalize w.alloc (Obj.cells zeroK.toArray 32) = w1 at *
  generalize hZ : zeroK = Z at *
  have HZQ := hide hZ
  clear hZ
  rcases h' with h1 | ⟨h1, h2⟩ | ⟨h1, h2, h3⟩ | ⟨h1, h2, h3, h4⟩
  all_goals
    go_upto_region 2 with fail
    refine wp_region_list ?_
    refine wpList_build_zero rfl 32 rfl Z.toArray HBZ.out ?_
    go_wp2_with (refine wpList_store_row rfl 32 _ _ rfl w.heap.size _ rfl rfl 32 _ R1.out IZ.out rfl HZ1.out ?_)
    exact bodyPost_ret (v := .tuple #[.agg Z.toArray, .int .i64 2]) (results_key Tryd.results12 _ _ w.heap.size Z rfl (R1.out.row _) LZ.out) rfl ⟨by rw [HZQ.out], below_setRow B1.out (Nat.le_refl _) R1.out.lt _⟩

end Go.Proofs.YtfopjobcjafgaabDoor
