/-
  A walk: the blocks of a stream, gone over by a function.
-/
import Derived.Test.YtflakgigekfgcaaCB
namespace Go.Proofs.Ytflakgigekfgcaa
open Go.RowKit Go.Shelf
attribute [local go_sem] Oper.semAt_some

/-- what a round keeps: these blocks lie as they lay -/
def Keeps (ks : List Nat) (W W' : World) : Prop := ∀ k ∈ ks, W'.heap[k]? = W.heap[k]?
theorem Keeps.trans {ks : List Nat} {A B C : World} (h : Keeps ks A B) (k : Keeps ks B C) : Keeps ks A C := fun i hi => (k i hi).trans (h i hi)
theorem Keeps.put {ks : List Nat} {w : World} (hk : ∀ k ∈ ks, k < w.heap.size) (W : World) (l : Nat) (o o' : Obj) (hl : w.heap.size ≤ l) (_ : W.heap[l]? = some o) (_ : o.isCells = false) (_ : o.isWalk = false) : Keeps ks W (W.putObj l o') := fun k hm =>
  World.putObj_heap_other (fun e => by have := hk k hm; omega)
theorem Keeps.arr {ks : List Nat} {W W' : World} (h : Keeps ks W W') {g : Nat} (hg : g ∈ ks) {t : TypeId} {vs : List Value} (ha : Arr W g t vs) : Arr W' g t vs := (h g hg).trans ha
theorem Keeps.of_below {ks : List Nat} {W W' : World} (h : Below W.heap.size W W') (hk : ∀ k ∈ ks, k < W.heap.size) : Keeps ks W W' := fun k hm => h.block k (hk k hm)

/-- what the iterator reads between two rounds -/
structure ItM (wr : World) (ge gb gn gk : Nat) (e : Int) (nn : Nat) (key : List Nat) : Prop where
  e : Arr wr ge 3 [.int .i64 e]
  b : Arr wr gb 50 [.func (.func 28) #[] #[.pointer (some ⟨gn, 0, none⟩), .pointer (some ⟨gk, 0, none⟩)]]
  n : Arr wr gn 23 [.int .u64 (nn : Int)]
  k : Arr wr gk 22 (u8s key)
theorem ItM.kept {W W' : World} {ge gb gn gk : Nat} {e : Int} {nn : Nat} {key : List Nat} (r : ItM W ge gb gn gk e nn key) (h : Keeps [ge, gb, gn, gk] W W') : ItM W' ge gb gn gk e nn key :=
  ⟨h.arr (by simp) r.e, h.arr (by simp) r.b, h.arr (by simp) r.n, h.arr (by simp) r.k⟩
theorem ItM.below {W W' : World} {ge gb gn gk : Nat} {e : Int} {nn : Nat} {key : List Nat} (r : ItM W ge gb gn gk e nn key) (h : Below W.heap.size W W') : ItM W' ge gb gn gk e nn key :=
  ⟨r.e.kept h, r.b.kept h, r.n.kept h, r.k.kept h⟩
theorem ItM.lt {W : World} {ge gb gn gk : Nat} {e : Int} {nn : Nat} {key : List Nat} (r : ItM W ge gb gn gk e nn key) : ∀ k ∈ [ge, gb, gn, gk], k < W.heap.size := by
  intro k hk
  simp at hk
  rcases hk with rfl | rfl | rfl | rfl
  · exact r.e.lt
  · exact r.b.lt
  · exact r.n.lt
  · exact r.k.lt

/-- the numbers of so many blocks -/
def numsF (s k : Nat) : List Nat := (List.range k).map (s + ·)
theorem numsF_succ (s k : Nat) : numsF s (k + 1) = numsF s k ++ [s + k] := by simp [numsF, List.range_succ]
theorem numsF_length (s k : Nat) : (numsF s k).length = k := by simp [numsF]

set_option maxHeartbeats 4000000 in
set_option maxRecDepth 100000 in
theorem iter_in (n : Nat) (hn : 1 ≤ n) (l gs ge gb gn gk s nn : Nat) (e : Int) (key : List Nat) (B : Nat → List Nat) (N : Nat) (hNe : N = (e - (s : Int)).toNat) (_hs : s < 4611686018427387904) (he : e < 4611686018427387904)
    (hB : ∀ (i : Nat) (v : World), i < 4611686018427387904 → Hid (ItM v ge gb gn gk e nn key) → Calls Try.prog 28 #[.int .i64 (i : Int), .pointer (some ⟨gn, 0, none⟩), .pointer (some ⟨gk, 0, none⟩)] v fun r w' => r = .returned (.agg (u8s (B i)).toArray) ∧ Below v.heap.size v w')
    (J Jx : List Nat → World → Prop) (hJ : ∀ pre A A', J pre A → A.grownBy A' none → J pre A')
    (hY : ∀ pre x W, J pre W → pre.length < N → YieldAt Fence.wide (n - 1) Try.prog l #[.int .i64 ((x : Nat) : Int), .agg (u8s (B x)).toArray] W fun r W' =>
      (r = .returned (.bool true) ∧ J (pre ++ [x]) W' ∧ Keeps [ge, gb, gn, gk] W W') ∨ (r = .returned (.bool false) ∧ Jx (pre ++ [x]) W'))
    (W : World) (hS : Arr W gs 3 [.int .i64 (s : Int)]) (hM : ItM W ge gb gn gk e nn key) (h0 : J [] W) :
    CallsIn Fence.wide n Try.prog 33 #[.func (.yield l) #[] #[], .pointer (some ⟨gs, 0, none⟩), .pointer (some ⟨ge, 0, none⟩), .pointer (some ⟨gb, 0, none⟩)] W fun r W' => (∃ v, r = .returned v) ∧
      ((∃ ys, ys = numsF s N ∧ J ys W') ∨ (∃ pre, (∃ k, k ≤ N ∧ pre = numsF s k) ∧ Jx pre W')) := by
  have HM := hide hM
  have HB := hide hB
  have HJ := hide hJ
  have HY := hide hY
  have cs := hS.cell 0
  have HNE := hide hNe
  clear hM hB hJ hY hS hNe
  refine callsIn_of_wp Try.func33 rfl trivial ?_ rfl
  simp only [Try.ntmps33, List.size_toArray, List.length_cons, List.length_nil, Nat.reduceAdd, Nat.reduceSub, Array.replicate_succ, Array.replicate_zero, List.push_toArray, List.append_toArray, List.nil_append, List.cons_append]
  gi_wp2
  gi_loopw [5] (fun v wr => ∃ k i : Nat, k ≤ N ∧ i = s + k ∧ v = .int .i64 (i : Int) ∧ Hid (J (numsF s k) wr ∧ ItM wr ge gb gn gk e nn key)) (fun v _ => (e - intOf v).toNat)
  case atStart => exact ⟨0, s, by omega, rfl, rfl, h0, HM.out⟩
  case round =>
    obtain ⟨k, i, hk, hi, rfl, HR⟩ := hrel
    have ce := HR.out.2.e.cell 0
    have cb := HR.out.2.b.cell 0
    have hNN := HNE.out
    by_cases hlt : k < N
    · have hie : (i : Int) < e := by omega
      have HI := hide hi
      clear hNN hi
      gi_wp2_with (refine ⟨trivial, ?_⟩; gi_at_call 28; refine (callsIn_wide.2 (HB.out i wr (by omega) HR.out.2)).mono ?_; rintro r w1 ⟨rfl, hb1⟩; have HR1 : Hid (J (numsF s k) w1 ∧ ItM w1 ge gb gn gk e nn key) := ⟨HJ.out _ _ _ HR.out.1 (below_grown hb1 none), HR.out.2.below hb1⟩; obtain ⟨fn, tmps, assign, body, hy, hR⟩ := HY.out _ i w1 HR1.out.1 (by rw [numsF_length]; exact hlt); clear hb1)
      refine hR.mono ?_
      rintro r W3 (⟨rfl, hJ3, hk3⟩ | ⟨rfl, hJx3⟩)
      · gi_wp2
        go_roundw
        case rel => exact ⟨k + 1, i + 1, by omega, by have := HI.out; omega, by go_num, by rw [numsF_succ, ← HI.out]; exact hJ3, HR1.out.2.kept hk3⟩
        case measure => simp [intOf]; omega
      · gi_wp2
        refine bodyPost_ret (results_none rfl _ _ _) rfl ?_
        exact ⟨⟨_, rfl⟩, .inr ⟨_, ⟨k + 1, by omega, rfl⟩, by rw [numsF_succ, ← HI.out]; exact hJx3⟩⟩
    · have hkN : k = N := by omega
      have hie : ¬ (i : Int) < e := by omega
      subst hkN
      clear hNN
      gi_wp2
      go_end0
      first | exact ⟨⟨_, rfl⟩, .inl ⟨_, rfl, HR.out.1⟩⟩ | exact ⟨⟨_, rfl⟩, .inl HR.out.1⟩

end Go.Proofs.Ytflakgigekfgcaa
