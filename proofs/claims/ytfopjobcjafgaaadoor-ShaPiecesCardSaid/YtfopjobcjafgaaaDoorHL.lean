/-
  A walk: Len: how many bytes a hash has.
-/
import Derived.Test.YtfopjobcjafgaaaDoorHB
namespace Go.Proofs.YtfopjobcjafgaaaDoor
open Go.RowKit

/-- how many bytes a hash has -/
theorem len_is (v : Value) (l : List Nat) (w : World) (hI : IsH w v l) :
    Calls Tryd.prog 23 #[v] w fun e w' => e = .returned (.int .i64 (l.length : Int)) ∧ w' = w := by
  rcases hI with ⟨g, rfl, ws, rest, hA, hR⟩ | ⟨rfl, rfl | ⟨g, rfl, hA⟩⟩
  · have hc := hash_size hR.h8 hR.2.1 hA
    clear hA hR
    go_enter Tryd.func23, Tryd.ntmps23
    go_wp2
    go_ret
    exact ⟨rfl, rfl⟩
  · go_enter Tryd.func23, Tryd.ntmps23
    go_wp2
    go_ret
    exact ⟨rfl, rfl⟩
  · have hc : w.cell? ⟨g, 72, none⟩ = some (.int .i64 0) := hash_size (n := 0) (by simp) (by simp) hA
    clear hA
    go_enter Tryd.func23, Tryd.ntmps23
    go_wp2
    go_ret
    exact ⟨rfl, rfl⟩

theorem len_nil (w : World) : Calls Tryd.prog 23 #[.pointer none] w fun e w' => e = .returned (.int .i64 0) ∧ w' = w := len_is _ [] w (Or.inr ⟨rfl, Or.inl rfl⟩)

end Go.Proofs.YtfopjobcjafgaaaDoor
