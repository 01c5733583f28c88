/-
  A number's form as bytes that may be handed on: both sides' Num tell the same.
-/
import Derived.Test.YtfopjobcjafgaabDoorNC
import Derived.Test.YtfopjobcjafgaabDoorMG
namespace Go.Proofs.YtfopjobcjafgaabDoor
open Go.RowKit

/-- a number's form -/
def formF (n : Nat) : List Nat := (Num.numF n).map Int.toNat

theorem formF_cells (n : Nat) : (Num.numF n).map (Value.int .u8) = u8s (formF n) := by
  rw [formF, u8s, List.map_map]
  apply List.map_congr_left
  intro x hx
  have := Num.numF_bytes n x hx
  simp only [Function.comp]
  rw [Int.toNat_of_nonneg this.1]
theorem formF_length (n : Nat) : (formF n).length = (Num.numF n).length := by simp [formF]
theorem formF_bytes (n : Nat) : BytesN (formF n) := fun y hy => by
  obtain ⟨x, hx, rfl⟩ := List.mem_map.1 hy
  have := Num.numF_bytes n x hx
  omega
theorem numH_length (f : Nat) : ∀ m, (Num.numH f m).length ≤ f := by
  induction f with
  | zero => intro m; simp [Num.numH]
  | succ f ih =>
    intro m
    rw [Num.numH]
    split
    · simp
    · simp; exact ih _
theorem formF_short (n : Nat) : (formF n).length ≤ 11 := by
  rw [formF_length, Num.numF]
  have := numH_length 10 (n / 128)
  simp
  omega

theorem num_form (n : Nat) (hn : n < 18446744073709551616) (w : World) :
    Calls Tryd.prog 20 #[.int .u64 n] w fun e w' => ∃ p c, e = .returned (.slice p (formF n).length c) ∧ w'.ownsRow w.heap.size 5 1 (.slice p (formF n).length c) (formF n).length (u8s (formF n)) ∧ Piece w' p c (formF n) ∧ Below w.heap.size w w' := by
  refine (Num.num_any n hn w).mono ?_
  rintro e w' ⟨v, rfl, ho, hb⟩
  rw [← formF_length, formF_cells] at ho
  obtain ⟨p, c, rfl, hp, _⟩ := own_piece ho (formF_bytes n)
  exact ⟨p, c, rfl, ho, hp, hb⟩

theorem refnum_form (n : Nat) (hn : n < 18446744073709551616) (w : World) :
    Calls Tryd.prog 21 #[.int .u64 n] w fun e w' => ∃ p c, e = .returned (.slice p (formF n).length c) ∧ w'.ownsRow w.heap.size 5 1 (.slice p (formF n).length c) (formF n).length (u8s (formF n)) ∧ Piece w' p c (formF n) ∧ Below w.heap.size w w' := by
  refine (Num.refnum_any n hn w).mono ?_
  rintro e w' ⟨v, rfl, ho, hb⟩
  rw [← formF_length, formF_cells] at ho
  obtain ⟨p, c, rfl, hp, _⟩ := own_piece ho (formF_bytes n)
  exact ⟨p, c, rfl, ho, hp, hb⟩

end Go.Proofs.YtfopjobcjafgaabDoor
