/-
  Walks: a byte alone, a byte that goes on, what begins a form.
-/
import Derived.Test.YtijjifdgmffenaaDoorUC
namespace Go.Proofs.YtijjifdgmffenaaDoor
open Go.RowKit

/-- a decoder's cells -/
abbrev dcC (d : Dc) : List Value := [.int .i64 (d.h : Int), .int .i64 (d.l : Int), .int .i32 (d.v : Int)]
abbrev dcV (d : Dc) : Value := .agg (dcC d).toArray
theorem infoDc : (Tryd.prog.info? 41).map (·.size) = some 3 := by kernel_rfl
theorem one_dcC (d : Dc) : (dcC d).toArray.all (·.oneCell') = true := by
  apply all_oneCell_toArray
  intro v hv
  simp only [dcC, List.mem_cons, List.not_mem_nil, or_false] at hv
  rcases hv with rfl | rfl | rfl <;> rfl
abbrev dcZ : List Value := [.int .i64 0, .int .i64 0, .int .i32 0]

theorem and_mask : ∀ b, b < 256 → b &&& 63 = b % 64 ∧ b &&& 31 = b % 32 ∧ b &&& 15 = b % 16 ∧ b &&& 192 = b / 64 * 64 := by decide +kernel
theorem clr_nums (b : Nat) (hb : b < 256) : bits .andNot .u8 (b : Int) 192 = ((b % 64 : Nat) : Int) ∧ bits .andNot .u8 (b : Int) 224 = ((b % 32 : Nat) : Int) ∧ bits .andNot .u8 (b : Int) 240 = ((b % 16 : Nat) : Int) ∧ bits .andNot .u8 (b : Int) 63 = ((b / 64 * 64 : Nat) : Int) := by
  obtain ⟨ma, mb, mc, md⟩ := and_mask b hb
  have n1 := u8_andNot_nat b 192 hb (by omega)
  have n2 := u8_andNot_nat b 224 hb (by omega)
  have n3 := u8_andNot_nat b 240 hb (by omega)
  have n4 := u8_andNot_nat b 63 hb (by omega)
  rw [show 255 - 192 = 63 from rfl, ma] at n1
  rw [show 255 - 224 = 31 from rfl, mb] at n2
  rw [show 255 - 240 = 15 from rfl, mc] at n3
  rw [show 255 - 63 = 192 from rfl, md] at n4
  exact ⟨n1, n2, n3, n4⟩

set_option maxHeartbeats 4000000 in
theorem begun_any (b : Nat) (w : World) (hb : b < 256) : Calls Tryd.prog 31 #[.int .u8 (b : Int)] w fun e w' => e = .returned (dcV (begunF b)) ∧ Below w.heap.size w w' := by
  have NW := hide (Arr.new w 41 dcZ)
  have NB : Hid (Below w.heap.size w (w.alloc (Obj.cells dcZ.toArray 41))) := (Below.refl _ _).alloc (Nat.le_refl _) _
  obtain ⟨n1, n2, n3, _⟩ := clr_nums b hb
  by_cases h1 : b < 128
  · have d1 : decide ((b : Int) < 128) = true := decide_eq_true (by omega)
    have HE : Hid (begunF b = ⟨1, 0, b⟩) := by show _ = _; unfold begunF; rw [if_pos h1]
    clear n1 n2 n3 h1
    go_enter Tryd.func31, Tryd.ntmps31
    go_wp2_with (refine wpList_store_row rfl 41 _ _ rfl w.heap.size (dcC ⟨1, 0, b⟩).toArray rfl rfl 41 dcZ.toArray NW.out infoDc rfl (one_dcC _) ?_)
    rw [HE.out]
    exact bodyPost_ret (v := dcV ⟨1, 0, b⟩) (results_cell_row Tryd.results31 _ _ w.heap.size 41 _ (0, 0) _ rfl (NW.out.row _) Tryd.underlying41 rfl infoDc) rfl ⟨rfl, below_setRow NB.out (Nat.le_refl _) NW.out.lt _⟩
  · have d1 : decide ((b : Int) < 128) = false := decide_eq_false (by omega)
    by_cases h2 : b < 224
    · have d2 : decide ((b : Int) < 224) = true := decide_eq_true (by omega)
      obtain ⟨x, hx⟩ : ∃ x, x = b % 64 := ⟨_, rfl⟩
      rw [← hx] at n1
      have hw : wrap32 (x : Int) = (x : Int) := by unfold wrap32; omega
      have HE : Hid (begunF b = ⟨1, 1, x⟩) := by show _ = _; unfold begunF; rw [if_neg h1, if_pos h2, hx]
      clear n2 n3 h1 h2 hx
      go_enter Tryd.func31, Tryd.ntmps31
      go_wp2_with (refine wpList_store_row rfl 41 _ _ rfl w.heap.size (dcC ⟨1, 1, x⟩).toArray rfl rfl 41 dcZ.toArray NW.out infoDc rfl (one_dcC _) ?_)
      rw [HE.out]
      exact bodyPost_ret (v := dcV ⟨1, 1, x⟩) (results_cell_row Tryd.results31 _ _ w.heap.size 41 _ (0, 0) _ rfl (NW.out.row _) Tryd.underlying41 rfl infoDc) rfl ⟨rfl, below_setRow NB.out (Nat.le_refl _) NW.out.lt _⟩
    · have d2 : decide ((b : Int) < 224) = false := decide_eq_false (by omega)
      by_cases h3 : b < 240
      · have d3 : decide ((b : Int) < 240) = true := decide_eq_true (by omega)
        obtain ⟨x, hx⟩ : ∃ x, x = b % 32 := ⟨_, rfl⟩
        rw [← hx] at n2
        have hw : wrap32 (x : Int) = (x : Int) := by unfold wrap32; omega
        have HE : Hid (begunF b = ⟨1, 2, x⟩) := by show _ = _; unfold begunF; rw [if_neg h1, if_neg h2, if_pos h3, hx]
        clear n1 n3 h1 h2 h3 hx
        go_enter Tryd.func31, Tryd.ntmps31
        go_wp2_with (refine wpList_store_row rfl 41 _ _ rfl w.heap.size (dcC ⟨1, 2, x⟩).toArray rfl rfl 41 dcZ.toArray NW.out infoDc rfl (one_dcC _) ?_)
        rw [HE.out]
        exact bodyPost_ret (v := dcV ⟨1, 2, x⟩) (results_cell_row Tryd.results31 _ _ w.heap.size 41 _ (0, 0) _ rfl (NW.out.row _) Tryd.underlying41 rfl infoDc) rfl ⟨rfl, below_setRow NB.out (Nat.le_refl _) NW.out.lt _⟩
      · have d3 : decide ((b : Int) < 240) = false := decide_eq_false (by omega)
        obtain ⟨x, hx⟩ : ∃ x, x = b % 16 := ⟨_, rfl⟩
        rw [← hx] at n3
        have hw : wrap32 (x : Int) = (x : Int) := by unfold wrap32; omega
        have HE : Hid (begunF b = ⟨1, 3, x⟩) := by show _ = _; unfold begunF; rw [if_neg h1, if_neg h2, if_neg h3, hx]
        clear n1 n2 h1 h2 h3 hx
        go_enter Tryd.func31, Tryd.ntmps31
        go_wp2_with (refine wpList_store_row rfl 41 _ _ rfl w.heap.size (dcC ⟨1, 3, x⟩).toArray rfl rfl 41 dcZ.toArray NW.out infoDc rfl (one_dcC _) ?_)
        rw [HE.out]
        exact bodyPost_ret (v := dcV ⟨1, 3, x⟩) (results_cell_row Tryd.results31 _ _ w.heap.size 41 _ (0, 0) _ rfl (NW.out.row _) Tryd.underlying41 rfl infoDc) rfl ⟨rfl, below_setRow NB.out (Nat.le_refl _) NW.out.lt _⟩

set_option maxHeartbeats 1000000 in
theorem isPart_any (b : Nat) (w : World) (hb : b < 256) : Calls Tryd.prog 32 #[.int .u8 (b : Int)] w fun e w' => e = .returned (.bool (isPartF b)) ∧ w' = w := by
  obtain ⟨_, _, _, n4⟩ := clr_nums b hb
  obtain ⟨x, hx⟩ : ∃ x, x = b / 64 * 64 := ⟨_, rfl⟩
  rw [← hx] at n4
  have e : isPartF b = decide (x = 128) := by
    unfold isPartF
    by_cases h : 128 ≤ b ∧ b < 192
    · rw [decide_eq_true h, decide_eq_true (by omega)]
    · rw [decide_eq_false h, decide_eq_false (by omega)]
  rw [e]
  clear hx e hb
  by_cases h : x = 128
  · subst h
    go_enter Tryd.func32, Tryd.ntmps32
    go_wp2
    go_ret
    exact ⟨rfl, rfl⟩
  · have e1 : ((x : Int) == 128) = false := by simp; omega
    rw [decide_eq_false h]
    clear h
    go_enter Tryd.func32, Tryd.ntmps32
    go_wp2
    go_ret
    exact ⟨rfl, rfl⟩

end Go.Proofs.YtijjifdgmffenaaDoor
