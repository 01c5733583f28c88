/-
  Walks: the program's Start and Turn.
-/
import Derived.Test.YtfopjobcjafgaaaDoorSD
namespace Go.Proofs.YtfopjobcjafgaaaDoor
open Go.RowKit

set_option maxHeartbeats 1000000 in
theorem shaStart_any (k : Int) (w : World) (hL : Laid w) :
    Calls Tryd.prog 9 #[.int .i64 k] w fun e w' => e = .returned (.int .u32 ((wordAt startT k : Nat) : Int)) ∧ w' = w := by
  by_cases h0 : 0 ≤ k
  · have hk0 : decide (k < 0) = false := by simp; omega
    by_cases h8 : k < 8
    · obtain ⟨n, rfl⟩ := Int.eq_ofNat_of_zero_le h0
      have hc := hL.start (k := n) (by omega)
      have HW := hide (wordAt_in (T := startT) (k := n) (by rw [startT_length]; omega))
      clear hL
      go_enter Tryd.func9, Tryd.ntmps9
      go_wp2
      go_ret
      exact ⟨by rw [HW.out]; rfl, rfl⟩
    · have HW := hide (wordAt_out (T := startT) (k := k) (by rw [startT_length]; omega))
      have h7 : 8 ≤ k := by omega
      clear hL
      go_enter Tryd.func9, Tryd.ntmps9
      go_wp2
      go_ret
      exact ⟨by rw [HW.out]; rfl, rfl⟩
  · have HW := hide (wordAt_out (T := startT) (k := k) (by omega))
    have hk0 : k < 0 := by omega
    clear hL
    go_enter Tryd.func9, Tryd.ntmps9
    go_wp2
    go_ret
    exact ⟨by rw [HW.out]; rfl, rfl⟩

set_option maxHeartbeats 1000000 in
theorem shaTurn_any (k : Int) (w : World) (hL : Laid w) :
    Calls Tryd.prog 11 #[.int .i64 k] w fun e w' => e = .returned (.int .u32 ((wordAt turnT k : Nat) : Int)) ∧ w' = w := by
  by_cases h0 : 0 ≤ k
  · have hk0 : decide (k < 0) = false := by simp; omega
    by_cases h8 : k < 64
    · obtain ⟨n, rfl⟩ := Int.eq_ofNat_of_zero_le h0
      have hc := hL.turn (k := n) (by omega)
      have HW := hide (wordAt_in (T := turnT) (k := n) (by rw [turnT_length]; omega))
      clear hL
      go_enter Tryd.func11, Tryd.ntmps11
      go_wp2
      go_ret
      exact ⟨by rw [HW.out]; rfl, rfl⟩
    · have HW := hide (wordAt_out (T := turnT) (k := k) (by rw [turnT_length]; omega))
      have h7 : 64 ≤ k := by omega
      clear hL
      go_enter Tryd.func11, Tryd.ntmps11
      go_wp2
      go_ret
      exact ⟨by rw [HW.out]; rfl, rfl⟩
  · have HW := hide (wordAt_out (T := turnT) (k := k) (by omega))
    have hk0 : k < 0 := by omega
    clear hL
    go_enter Tryd.func11, Tryd.ntmps11
    go_wp2
    go_ret
    exact ⟨by rw [HW.out]; rfl, rfl⟩

end Go.Proofs.YtfopjobcjafgaaaDoor
