/-
  Walks: the words from which a digest begins and those of a block's turns: the reference's Start, Turn, Turns and the program's Start, Turn.
-/
import Derived.Test.YtfopjobcjafgaabDoorSC
namespace Go.Proofs.YtfopjobcjafgaabDoor
open Go.RowKit

def u32s (l : List Nat) : List Value := l.map fun d => Value.int .u32 ((d : Nat) : Int)
theorem u32s_length (l : List Nat) : (u32s l).length = l.length := by simp [u32s]
theorem u32s_at {l : List Nat} {i : Nat} (h : i < l.length) : (u32s l)[i]? = some (.int .u32 ((l.getD i 0 : Nat) : Int)) := by simp [u32s, List.getD, h]
theorem u32s_set (l : List Nat) (i x : Nat) : (u32s l).set i (.int .u32 ((x : Nat) : Int)) = u32s (l.set i x) := by simp [u32s, List.map_set]

/-- the program's two tables, as its text lays them -/
def Laid (w : World) : Prop := w.rangeAt 0 0 (u32s startT) ∧ w.rangeAt 1 0 (u32s turnT)

theorem Laid.start {w : World} (h : Laid w) {k : Nat} (hk : k < 8) : w.cell? ⟨0, k, none⟩ = some (.int .u32 ((startT.getD k 0 : Nat) : Int)) := by
  have := h.1 k _ (u32s_at (l := startT) (by exact hk))
  simpa using this
theorem Laid.turn {w : World} (h : Laid w) {k : Nat} (hk : k < 64) : w.cell? ⟨1, k, none⟩ = some (.int .u32 ((turnT.getD k 0 : Nat) : Int)) := by
  have := h.2 k _ (u32s_at (l := turnT) (by exact hk))
  simpa using this
theorem Laid.size {w : World} (h : Laid w) : 2 ≤ w.heap.size := by
  have := block_lt_of_cell (h.turn (k := 0) (by omega))
  exact this
theorem range_kept {w w' : World} {b o : Nat} {cs : List Value} (h : w.rangeAt b o cs) (hb : Below w.heap.size w w') : w'.rangeAt b o cs := fun j v hv => by
  have := h j v hv
  exact (hb.cell (block_lt_of_cell this)).trans this
theorem Laid.kept {w w' : World} (h : Laid w) (hb : Below w.heap.size w w') : Laid w' := ⟨range_kept h.1 hb, range_kept h.2 hb⟩
theorem Laid.keptB {B : Nat} {w w' : World} (h : Laid w) (hB : 2 ≤ B) (hb : Below B w w') : Laid w' :=
  ⟨fun j v hv => (hb.cell (p := ⟨0, 0 + j, none⟩) (show 0 < B by omega)).trans (h.1 j v hv), fun j v hv => (hb.cell (p := ⟨1, 0 + j, none⟩) (show 1 < B by omega)).trans (h.2 j v hv)⟩

/-- the word of a table, noughts beside it -/
def wordAt (T : List Nat) (k : Int) : Nat := if 0 ≤ k ∧ k < T.length then T.getD k.toNat 0 else 0

theorem start_lt : ∀ k, k < 8 → startT.getD k 0 < 4294967296 := by decide +kernel
theorem turn_lt : ∀ k, k < 64 → turnT.getD k 0 < 4294967296 := by decide +kernel
theorem startT_length : startT.length = 8 := rfl
theorem turnT_length : turnT.length = 64 := rfl
theorem rootF_le (e n : Nat) : ∀ b r, rootF e n b r < r + 2 ^ b := by
  intro b
  induction b with
  | zero => intro r; simp [rootF]
  | succ b ih =>
    intro r
    rw [rootF, Nat.pow_succ]
    split
    · have := ih (r + 2 ^ b); omega
    · have := ih r; omega

set_option maxHeartbeats 1000000 in
theorem refStart_in (k : Nat) (hk : k < 8) (w : World) :
    Calls Tryd.prog 27 #[.int .i64 k] w fun e w' => e = .returned (.int .u32 ((startT.getD k 0 : Nat) : Int)) ∧ Below w.heap.size w w' := by
  have hp := prime_is k (by omega)
  have HS := hide (start_is k hk)
  have hlt := rootF_le 2 (primeT.getD k 0) 40 0
  have h64 : rootF 2 (primeT.getD k 0) 40 0 < 1099511627776 := by simpa using hlt
  have HP := hide (prime_any k (by omega) w)
  have HR := hide (root_two (primeT.getD k 0) (by omega) w)
  clear hp hlt
  generalize primeT.getD k 0 = p at *
  generalize rootF 2 p 40 0 = r at *
  go_enter Tryd.func27, Tryd.ntmps27
  go_wp2_with fail
  refine HP.out.mono ?_
  rintro e w1 ⟨rfl, hw⟩
  subst hw
  go_wp2_with fail
  refine HR.out.mono ?_
  rintro e w2 ⟨rfl, hb⟩
  go_wp2
  go_ret
  exact ⟨by rw [← HS.out]; first | rfl | simp, hb⟩

set_option maxHeartbeats 1000000 in
theorem refTurn_in (k : Nat) (hk : k < 64) (w : World) :
    Calls Tryd.prog 37 #[.int .i64 k] w fun e w' => e = .returned (.int .u32 ((turnT.getD k 0 : Nat) : Int)) ∧ Below w.heap.size w w' := by
  have hp := prime_is k (by omega)
  have HS := hide (turn_is k hk)
  have hlt := rootF_le 3 (primeT.getD k 0) 40 0
  have h64 : rootF 3 (primeT.getD k 0) 40 0 < 1099511627776 := by simpa using hlt
  have HP := hide (prime_any k (by omega) w)
  have HR := hide (root_three (primeT.getD k 0) (by omega) w)
  clear hp hlt
  generalize primeT.getD k 0 = p at *
  generalize rootF 3 p 40 0 = r at *
  go_enter Tryd.func37, Tryd.ntmps37
  go_wp2_with fail
  refine HP.out.mono ?_
  rintro e w1 ⟨rfl, hw⟩
  subst hw
  go_wp2_with fail
  refine HR.out.mono ?_
  rintro e w2 ⟨rfl, hb⟩
  go_wp2
  go_ret
  exact ⟨by rw [← HS.out]; first | rfl | simp, hb⟩

theorem wordAt_in {T : List Nat} {k : Nat} (h : k < T.length) : wordAt T (k : Int) = T.getD k 0 := by
  rw [wordAt, if_pos ⟨by omega, by omega⟩]; simp
theorem wordAt_out {T : List Nat} {k : Int} (h : ¬ (0 ≤ k ∧ k < T.length)) : wordAt T k = 0 := by rw [wordAt, if_neg h]

set_option maxHeartbeats 1000000 in
theorem refStart_any (k : Int) (w : World) :
    Calls Tryd.prog 27 #[.int .i64 k] w fun e w' => e = .returned (.int .u32 ((wordAt startT k : Nat) : Int)) ∧ Below w.heap.size w w' := by
  by_cases h0 : 0 ≤ k
  · by_cases h8 : k < 8
    · obtain ⟨n, rfl⟩ := Int.eq_ofNat_of_zero_le h0
      refine (refStart_in n (by omega) w).mono ?_
      rintro e w' ⟨rfl, hb⟩
      exact ⟨by rw [wordAt_in (by rw [startT_length]; omega)], hb⟩
    · have h7 : ¬ k ≤ 7 := by omega
      have HW := hide (wordAt_out (T := startT) (k := k) (by rw [startT_length]; omega))
      have hk0 : decide (k < 0) = false := by simp; omega
      go_enter Tryd.func27, Tryd.ntmps27
      go_wp2
      go_ret
      exact ⟨by rw [HW.out]; rfl, Below.refl _ _⟩
  · have HW := hide (wordAt_out (T := startT) (k := k) (by omega))
    have hk0 : k < 0 := by omega
    go_enter Tryd.func27, Tryd.ntmps27
    go_wp2
    go_ret
    exact ⟨by rw [HW.out]; rfl, Below.refl _ _⟩

set_option maxHeartbeats 1000000 in
theorem refTurn_any (k : Int) (w : World) :
    Calls Tryd.prog 37 #[.int .i64 k] w fun e w' => e = .returned (.int .u32 ((wordAt turnT k : Nat) : Int)) ∧ Below w.heap.size w w' := by
  by_cases h0 : 0 ≤ k
  · by_cases h8 : k < 64
    · obtain ⟨n, rfl⟩ := Int.eq_ofNat_of_zero_le h0
      refine (refTurn_in n (by omega) w).mono ?_
      rintro e w' ⟨rfl, hb⟩
      exact ⟨by rw [wordAt_in (by rw [turnT_length]; omega)], hb⟩
    · have h7 : ¬ k ≤ 63 := by omega
      have HW := hide (wordAt_out (T := turnT) (k := k) (by rw [turnT_length]; omega))
      have hk0 : decide (k < 0) = false := by simp; omega
      go_enter Tryd.func37, Tryd.ntmps37
      go_wp2
      go_ret
      exact ⟨by rw [HW.out]; rfl, Below.refl _ _⟩
  · have HW := hide (wordAt_out (T := turnT) (k := k) (by omega))
    have hk0 : k < 0 := by omega
    go_enter Tryd.func37, Tryd.ntmps37
    go_wp2
    go_ret
    exact ⟨by rw [HW.out]; rfl, Below.refl _ _⟩

end Go.Proofs.YtfopjobcjafgaabDoor
