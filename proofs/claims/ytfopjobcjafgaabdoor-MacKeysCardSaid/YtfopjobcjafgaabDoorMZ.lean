/-
  A law: 'append(s, make([]byte, k)...)': a row of the call's own with k noughts behind it.
-/
import Derived.Test.YtfopjobcjafgaabDoorMK
import Derived.Lib.AppendZeros
import Derived.Lib.AppendZerosOnto
namespace Go.Proofs.YtfopjobcjafgaabDoor
open Go.RowKit

theorem zeroCells_u8 (k : Nat) : (Builtin.zeroCells #[Value.int .u8 0] k).toList = u8s (List.replicate k 0) := by
  apply List.ext_getElem
  · simp [Builtin.zeroCells, u8s]
  · intro j h1 h2
    simp [Builtin.zeroCells, u8s, Nat.mod_one]

theorem u8s_append (a b : List Nat) : u8s (a ++ b) = u8s a ++ u8s b := by simp [u8s]

theorem run_append_zeros (w : World) (B : Nat) (v : Value) (n : Nat) (xs : List Nat) (hn : xs.length = n) (hown : w.ownsRow B 5 1 v n (u8s xs)) (k : Nat) (hk : n + k ≤ 1000) (hB : B ≤ w.heap.size) (ty : TypeId) :
    ∃ v' w', (Builtin.append_ #[22, 3] ty #[v, .int .i64 (k : Int)]).run Tryd.prog w = .ok v' w' ∧ w'.ownsRow B 5 1 v' (n + k) (u8s (xs ++ List.replicate k 0)) ∧ w.grownBy w' v.ownBlock := by
  obtain ⟨i0, hi, hz0, hz1, hz2⟩ := info_parts infoU8
  have hlen : (u8s (xs ++ List.replicate k 0)).length = (n + k) * 1 := by simp [u8s, hn]
  have hwk : IntKind.i64.wrap (k : Int) = k := by rw [IntKind.wrap_i64]; omega
  have hneg : ¬ ((k : Int) < 0) := by omega
  have h00 : IntKind.i64.wrap 0 = 0 := by rw [IntKind.wrap_i64]; omega
  have h48i : ¬ (281474976710656 < (k : Int) * (i0.bytes : Int)) := by rw [hz2]; omega
  rcases hown.2 with ⟨rfl, h0⟩ | ⟨g, cap, cur, rfl, hbg, hg, hnc, hcm, hcs, htake⟩
  · have hx : xs = [] := List.eq_nil_of_length_eq_zero (by omega)
    subst hx
    subst h0
    by_cases hk0 : k = 0
    · subst hk0
      refine ⟨.slice none 0 0, w, ?_, World.ownsRow_nil w B 5 1, grown_refl _ _⟩
      simp [Builtin.append_, run_underlying Tryd.underlying22, run_underlying Tryd.underlying3, sizeOf, typeInfo, hi, asInt, asIntOf, h00]
    · have hr := Lib.run_append_nil_zeros (P := Tryd.prog) w 22 3 ty 5 i0 (.int .u8 0) .i64 .i64 Tryd.underlying22 Tryd.underlying3 hi hz0 k (by omega) (by omega) (by omega) (by rw [hz2]; omega)
      refine ⟨_, _, hr, ⟨by simpa using hlen, .inr ⟨w.heap.size, _, _, by rw [Nat.zero_add], hB, heap_alloc_new w.drew _, ?_, ?_, ?_, ?_⟩⟩, ⟨rfl, rfl, rfl, by simp, fun j hj _ => heap_alloc_old w.drew _ hj⟩⟩
      · have := grownCap_ge w k 0 5; omega
      · exact grownCap_le_maxLen w k 0 5 (by unfold maxLen; omega)
      · have := grownCap_ge w k 0 5
        simp only [Array.size_append, size_zeroCells, Value.cells]
        simp
        omega
      · simp only [Array.toList_append, Value.cells, zeroCells_u8, List.nil_append, Nat.zero_add, Nat.mul_one]
        exact List.take_left' (by simp [u8s])
  · by_cases hroom : n + k ≤ cap
    · have hcs' : cur.size = cap := by omega
      have hst := run_storeCells_at Tryd.prog g n 5 (u8s (List.replicate k 0)) 0 cur w hg (by simp [u8s]; omega) (one_u8s _)
      rw [Nat.add_zero] at hst
      refine ⟨.slice (some ⟨g, 0, none⟩) (n + k) cap, w.setRow g (cur.toList.take n ++ u8s (List.replicate k 0) ++ cur.toList.drop (n + (u8s (List.replicate k 0)).length)).toArray, ?_, ⟨hlen, .inr ⟨g, cap, _, rfl, hbg, setRow_heap w g cur _ 5 _ hg, hroom, hcm, ?_, ?_⟩⟩, grown_row w g _⟩
      · by_cases hk0 : k = 0
        · subst hk0
          have hst' : (storeCells (⟨g, n, none⟩ : Addr) [] 0).run Tryd.prog w = .ok () (w.setRow g (cur.toList.take n ++ u8s (List.replicate 0 0) ++ cur.toList.drop (n + (u8s (List.replicate 0 0)).length)).toArray) := hst
          simp [Builtin.append_, run_underlying Tryd.underlying22, run_underlying Tryd.underlying3, sizeOf, typeInfo, hi, hz1, asInt, asIntOf, h00, hnc, Addr.add_lit, hst']
        · have hzc : (Builtin.zeroCells (Value.int .u8 0).cells k).toList = u8s (List.replicate k 0) := zeroCells_u8 k
          simp [Builtin.append_, run_underlying Tryd.underlying22, run_underlying Tryd.underlying3, sizeOf, typeInfo, zeroValue, hi, hz0, hz1, asInt, asIntOf, hwk, hz2, hneg, hk0, hroom, Addr.add_lit, hzc, hst]
          omega
      · simp [u8s]; omega
      · rw [show cur.toList.take n = u8s xs from by simpa using htake, ← u8s_append]
        exact List.take_left' (by rw [hlen])
    · have holds : ∀ j u, (u8s xs)[j]? = some u → w.cell? ((⟨g, 0, none⟩ : Addr).add j) = some u := hown.cells (g := g) rfl
      have hk0 : 0 < k := by omega
      have hold : (Builtin.firstCells i0.size n (.slice (some ⟨g, 0, none⟩) n cap)).run Tryd.prog w.drew = .ok (u8s xs).toArray w.drew := run_firstCells_some (P := Tryd.prog) w.drew i0.size n ⟨g, 0, none⟩ n cap (u8s xs) (by rw [hz1]; simp [u8s, hn]) holds
      have hr := Lib.run_append_grow_zeros (P := Tryd.prog) w 22 3 ty 5 i0 (.int .u8 0) .i64 .i64 Tryd.underlying22 Tryd.underlying3 hi hz0 (some ⟨g, 0, none⟩) n cap (u8s xs) hold k hk0 (by omega) (by omega) (by omega) (by rw [hz2]; omega) (growslice_fits (by omega) (by rw [hz2]; omega))
      refine ⟨_, _, hr, ⟨hlen, .inr ⟨w.heap.size, _, _, rfl, hB, heap_alloc_new w.drew _, grownCap_ge w (n + k) cap 5, grownCap_le_maxLen w (n + k) cap 5 (by unfold maxLen; omega), ?_, ?_⟩⟩, ⟨rfl, rfl, rfl, by simp, fun j hj _ => heap_alloc_old w.drew _ hj⟩⟩
      · have := grownCap_ge w (n + k) cap 5
        simp only [Array.size_append, size_zeroCells, Value.cells, List.size_toArray]
        simp [u8s, hn]
        omega
      · simp only [Array.toList_append, Value.cells, zeroCells_u8, Nat.mul_one]
        rw [u8s_append]
        exact List.take_left' (by simp [u8s, hn])

/-- .. as one operation -/
theorem wp_append_zeros_dst {w : World} {o : Oper} {a : Act} {K : Act → World → Prop} {Q : Exit → Act → World → Prop} {dd : Nat} (hdd : o.dst = some dd) (s x : Operand)
    (ho : o.op = .call { callee := .builtin .append, args := #[s, x], argTypes := #[22, 3] })
    (B : Nat) (v : Value) (xs : List Nat) (hs : a.eval s = v) (n : Nat) (hn : xs.length = n) (hown : w.ownsRow B 5 1 v n (u8s xs)) (k : Nat) (hx : a.eval x = .int .i64 (k : Int)) (hk : n + k ≤ 1000) (hB : B ≤ w.heap.size)
    (h : ∀ v' w', w'.ownsRow B 5 1 v' (n + k) (u8s (xs ++ List.replicate k 0)) → w.grownBy w' v.ownBlock → K (a.put (some dd) v') w') : o.wp Tryd.prog a w K Q := by
  obtain ⟨v', w', hr, h1, h2⟩ := run_append_zeros w B v n xs hn hown k hk hB o.type
  exact Lib.wp_append_run w s x 22 3 ho v _ hs hx v' w' hr (by rw [hdd]; exact h v' w' h1 h2)

end Go.Proofs.YtfopjobcjafgaabDoor
