/-
  Small laws for the walks over blocks of 16 bytes.
-/
import Derived.Test.YtflakgigekfgcaaBA
import Derived.Test.YtflakgigekfgcaaEA
namespace Go.Proofs.Ytflakgigekfgcaa
open Go.RowKit

theorem cells8 : Try.prog.cellsOf 5 = 1 := by kernel_rfl
theorem cells16 : Try.prog.cellsOf 22 = 16 := by kernel_rfl
theorem wf_u8 {x : Nat} (h : x < 256) : (Lit.int .u8 (Int.ofNat x)).wf = true := by
  have h1 : IntKind.u8.min = 0 := rfl
  have h2 : IntKind.u8.max = 255 := rfl
  have h3 : (Int.ofNat x) = (x : Int) := rfl
  rw [Lit.wf, h1, h2, h3, decide_eq_true (by omega), decide_eq_true (by omega)]
  rfl
theorem ofNat_inj (a b : List Nat) : a.map Int.ofNat = b.map Int.ofNat ↔ a = b := by
  constructor
  · intro h
    exact List.map_inj_right (fun x y hxy => by cases hxy; rfl) |>.1 h
  · intro h; rw [h]

/-- two blocks -/
theorem run_eq_block (a b : List Nat) (ha : a.length = 16) (hb : b.length = 16) (wa : ∀ x ∈ a, x < 256) (wb : ∀ x ∈ b, x < 256) (w : World) :
    (Op.equalIn 10000 22 (.agg (u8s a).toArray) (.agg (u8s b).toArray)).run Try.prog w = .ok (decide (a = b)) w := by
  have h := run_eq_ints Try.underlying22 Try.underlying5 cells8 cells16 (a.map Int.ofNat) (b.map Int.ofNat) (by simpa using ha) (by simpa using hb)
    (fun z hz => by obtain ⟨x, hx, rfl⟩ := List.mem_map.1 hz; exact wf_u8 (wa x hx)) (fun z hz => by obtain ⟨x, hx, rfl⟩ := List.mem_map.1 hz; exact wf_u8 (wb x hx)) w
  rw [List.map_map, List.map_map] at h
  rw [decide_eq_decide.2 (ofNat_inj a b).symm]
  exact h
theorem guard16 (x y : Operand) (u v : Array Value) (w : World) : (eqGuard .eql 22 x y (.agg u) (.agg v)).run Try.prog w = .ok () w := by kernel_rfl
theorem guard16n (x y : Operand) (u v : Array Value) (w : World) : (eqGuard .neq 22 x y (.agg u) (.agg v)).run Try.prog w = .ok () w := by kernel_rfl

theorem info16 : (Try.prog.info? 22).map (·.size) = some 16 := by kernel_rfl
theorem info256 : (Try.prog.info? 52).map (·.size) = some 256 := by kernel_rfl
theorem info176 : (Try.prog.info? 54).map (·.size) = some 176 := by kernel_rfl
theorem info4 : (Try.prog.info? 62).map (·.size) = some 4 := by kernel_rfl

end Go.Proofs.Ytflakgigekfgcaa
