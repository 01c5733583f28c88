/-
  A walk: the known rows.
-/
import Derived.Test.YthnbbflpnklbjaaTD
namespace Go.Proofs.Ythnbbflpnklbjaa
open Go.RowKit

theorem hear_one (m : Me) (s : Int) (g : Nat) (w : World) (hc : w.cell? ⟨g, 0, none⟩ = some (.int .i64 s)) :
    Calls Try.prog 9 #[meV m, .slice (some ⟨g, 0, none⟩) 1 1] w fun e w' => e = .returned (.tuple #[meV (hearM m [s]), .int .i64 (hearE m [s])]) ∧ Below w.heap.size w w' :=
  hear_any m _ 1 1 [s] w ⟨Or.inr ⟨g, 0, rfl, fun i hi => by
    have h0 : i = 0 := by simpa using hi
    subst h0
    exact hc⟩, fun e => (by cases e), by simp, by unfold maxLen; omega⟩ rfl

theorem me_eq_true (m : Me) (w : World) : (Op.equalIn 10000 23 (meV m) (meV m)).run Try.prog w = .ok true w := (run_eq_me m m w).trans (by simp)

def m1 : Me := ⟨1, 800, 200⟩
def m2 : Me := ⟨2, 880, 230⟩
theorem m1_is : hearM Me.none [100] = m1 := by rfl
theorem m1_ok : hearE Me.none [100] = 0 := by rfl
theorem m2_is : hearM m1 [180] = m2 := by rfl
theorem m2_ok : hearE m1 [180] = 0 := by rfl
theorem wait1 : waitF m1 = 300 := by rfl
theorem wait0 : waitF Me.none = 1000 := by rfl

set_option maxHeartbeats 4000000 in
set_option maxRecDepth 100000 in
theorem known_any (w : World) :
    Calls Try.prog 8 #[] w fun e w' => e = .returned (.bool true) ∧ Below w.heap.size w w' := by
  have H1 : Hid (∀ (g : Nat) (v : World), v.cell? ⟨g, 0, none⟩ = some (.int .i64 100) → Calls Try.prog 9 #[meV Me.none, .slice (some ⟨g, 0, none⟩) 1 1] v fun e w' => e = .returned (.tuple #[meV m1, .int .i64 0]) ∧ Below v.heap.size v w') := fun g v hc => by
    have h := hear_one Me.none 100 g v hc
    rwa [m1_is, m1_ok] at h
  have H2 : Hid (∀ (g : Nat) (v : World), v.cell? ⟨g, 0, none⟩ = some (.int .i64 180) → Calls Try.prog 9 #[meV m1, .slice (some ⟨g, 0, none⟩) 1 1] v fun e w' => e = .returned (.tuple #[meV m2, .int .i64 0]) ∧ Below v.heap.size v w') := fun g v hc => by
    have h := hear_one m1 180 g v hc
    rwa [m2_is, m2_ok] at h
  have H3 : Hid (∀ v : World, Calls Try.prog 15 #[meV m1] v fun e w' => e = .returned (.int .i64 300) ∧ Below v.heap.size v w') := fun v => by
    have h := wait_any m1 v
    rwa [wait1] at h
  have H4 : Hid (∀ v : World, Calls Try.prog 15 #[meV Me.none] v fun e w' => e = .returned (.int .i64 1000) ∧ Below v.heap.size v w') := fun v => by
    have h := wait_any Me.none v
    rwa [wait0] at h
  have E1 := hide (fun v : World => me_eq_true m1 v)
  have E2 := hide (fun v : World => me_eq_true m2 v)
  have A1 : Hid (Below w.heap.size w (w.alloc (Obj.cells #[Value.int .i64 100] 3))) := (Below.refl _ _).alloc (Nat.le_refl _) _
  go_enter Try.func8, Try.ntmps8
  go_wp2_with fail
  refine (H1.out _ _ (by simp)).mono ?_
  rintro e w2 ⟨rfl, hb⟩
  have A2 : Hid (Arr (w2.alloc (Obj.cells #[Value.int .i64 m1.a, Value.int .i64 m1.b, Value.int .i64 m1.c] 23)) w2.heap.size 23 (meC m1) ∧ Below w.heap.size w (w2.alloc (Obj.cells #[Value.int .i64 m1.a, Value.int .i64 m1.b, Value.int .i64 m1.c] 23))) := ⟨Arr.new w2 _ _, (A1.out.trans (hb.mono A1.out.size)).alloc (Nat.le_trans A1.out.size hb.size) _⟩
  clear hb A1
  go_upto_region 2 with fail
  generalize w2.alloc (Obj.cells #[Value.int .i64 m1.a, Value.int .i64 m1.b, Value.int .i64 m1.c] 23) = w3 at *
  generalize w2.heap.size = g1 at *
  have A3 : Hid (Arr (w3.alloc (Obj.cells #[Value.int .i64 180] 3)) g1 23 (meC m1) ∧ Below w.heap.size w (w3.alloc (Obj.cells #[Value.int .i64 180] 3))) := ⟨A2.out.1.alloc _, A2.out.2.alloc A2.out.2.size _⟩
  go_wp2_with (refine wpList_exec (by rfl) _ (exec_load_all 23 (.tmp 1) rfl g1 rfl 23 (meC m1) _ A2.out.1 Try.underlying23 rfl infoM) ?_)
  refine (H2.out _ _ (by simp)).mono ?_
  rintro e w4 ⟨rfl, hb⟩
  have A4 : Hid (Arr (w4.alloc (Obj.cells #[Value.int .i64 m2.a, Value.int .i64 m2.b, Value.int .i64 m2.c] 23)) g1 23 (meC m1) ∧ Arr (w4.alloc (Obj.cells #[Value.int .i64 m2.a, Value.int .i64 m2.b, Value.int .i64 m2.c] 23)) w4.heap.size 23 (meC m2) ∧ Below w.heap.size w (w4.alloc (Obj.cells #[Value.int .i64 m2.a, Value.int .i64 m2.b, Value.int .i64 m2.c] 23))) := ⟨(A3.out.1.kept hb).alloc _, Arr.new w4 _ _, (A3.out.2.trans (hb.mono A3.out.2.size)).alloc (Nat.le_trans A3.out.2.size hb.size) _⟩
  clear hb A2 A3
  go_upto_region 3 with fail
  generalize w4.alloc (Obj.cells #[Value.int .i64 m2.a, Value.int .i64 m2.b, Value.int .i64 m2.c] 23) = w5 at *
  generalize w4.heap.size = g2 at *
  go_wp2_with (first
    | (refine wpList_exec (by rfl) _ (exec_load_all 23 (.tmp 1) rfl g1 rfl 23 (meC m1) _ A4.out.1 Try.underlying23 rfl infoM) ?_)
    | (refine wpList_exec (by rfl) _ (exec_load_all 23 (.tmp 3) rfl g2 rfl 23 (meC m2) _ A4.out.2.1 Try.underlying23 rfl infoM) ?_)
    | (refine wpList_exec (by rfl) _ (exec_eql_agg 23 23 (.tmp 24) (.tmp 25) rfl (meC m1).toArray (meC m1).toArray rfl rfl true (guardM _ _ _ _ _) (E1.out _)) ?_)
    | (refine wpList_exec (by rfl) _ (exec_eql_agg 23 23 (.tmp 29) (.tmp 30) rfl (meC m2).toArray (meC m2).toArray rfl rfl true (guardM _ _ _ _ _) (E2.out _)) ?_))
  refine (H3.out _).mono ?_
  rintro e w6 ⟨rfl, hb⟩
  have A6 : Hid (Below w.heap.size w w6) := A4.out.2.2.trans (hb.mono A4.out.2.2.size)
  clear hb A4
  go_wp2_with fail
  refine (H4.out _).mono ?_
  rintro e w7 ⟨rfl, hb⟩
  have A7 : Hid (Below w.heap.size w w7) := A6.out.trans (hb.mono A6.out.size)
  clear hb A6
  go_wp2
  go_ret
  exact ⟨rfl, A7.out⟩

end Go.Proofs.Ythnbbflpnklbjaa
