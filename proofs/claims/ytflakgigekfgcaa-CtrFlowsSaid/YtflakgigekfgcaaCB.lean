/-
  Walks: the maker of a stream's blocks, and a block of it.
-/
import Derived.Test.YtflakgigekfgcaaCA
namespace Go.Proofs.Ytflakgigekfgcaa
open Go.RowKit

/-- what lies in memory while a counted block is made -/
structure StMk (w wr : World) (gn gk nn : Nat) (key c : List Nat) : Prop where
  n : Arr wr gn 23 [.int .u64 (nn : Int)]
  k : Arr wr gk 22 (u8s key)
  o : Arr wr w.heap.size 22 (u8s z16)
  b : Arr wr (w.heap.size + 1) 22 (u8s c)
  bl : Below w.heap.size w wr
  ln : gn < w.heap.size
  lk : gk < w.heap.size
theorem StMk.set {w wr : World} {gn gk nn : Nat} {key c : List Nat} (r : StMk w wr gn gk nn key c) (i x : Nat) : StMk w (wr.setCell ⟨w.heap.size + 1, i, none⟩ (.int .u8 ((x : Nat) : Int))) gn gk nn key (c.set i x) := by
  have e1 := r.ln
  have e2 := r.lk
  refine ⟨r.n.other _ _ (show gn ≠ w.heap.size + 1 by omega), r.k.other _ _ (show gk ≠ w.heap.size + 1 by omega), r.o.other _ _ (show w.heap.size ≠ w.heap.size + 1 by omega), ?_, r.bl.setCell (show w.heap.size ≤ w.heap.size + 1 by omega) _, e1, e2⟩
  have := r.b.set i (.int .u8 ((x : Nat) : Int))
  rw [u8s_set] at this
  exact this

theorem byte_at (n s : Nat) : ((n : Int) / 2 ^ s % 256) = ((n / 2 ^ s % 256 : Nat) : Int) := by
  rw [Int.natCast_emod, Int.natCast_ediv, Int.natCast_pow]
  rfl

set_option maxHeartbeats 4000000 in
set_option maxRecDepth 100000 in
theorem block_of (key T : List Nat) (gn gk0 nn i : Nat) (C : Nat → List Nat) (w : World) (hk : Blk key) (_hnn : nn < 18446744073709551616) (hi : i < 9223372036854775808)
    (hN : Arr w gn 23 [.int .u64 (nn : Int)]) (hK : Arr w gk0 22 (u8s key))
    (hC0 : C 0 = z16) (hCB : ∀ k, Blk (C k)) (hCS : ∀ k, k < 8 → ((C k).set k (nn / 2 ^ (8 * (7 - k)) % 256)).set (8 + k) (i / 2 ^ (8 * (7 - k)) % 256) = C (k + 1))
    (hT : Blk T) (hH : ∀ v, Calls Try.prog 29 #[.agg (u8s key).toArray, .agg (u8s (C 8)).toArray] v fun e w' => e = .returned (.agg (u8s T).toArray) ∧ Below v.heap.size v w') :
    Calls Try.prog 28 #[.int .i64 (i : Int), .pointer (some ⟨gn, 0, none⟩), .pointer (some ⟨gk0, 0, none⟩)] w fun e w' => e = .returned (.agg (u8s T).toArray) ∧ Below w.heap.size w w' := by
  have HK := hide hk
  have HT := hide hT
  have HC0 := hide hC0
  have HCB := hide hCB
  have HCS := hide hCS
  have HH := hide hH
  have HN := hide hN
  have HKK := hide hK
  have ln := hN.lt
  have lk := hK.lt
  have H0 : Hid (StMk w ((w.alloc (Obj.cells (u8s z16).toArray 22)).alloc (Obj.cells (u8s z16).toArray 22)) gn gk0 nn key z16) :=
    ⟨(hN.alloc _).alloc _, (hK.alloc _).alloc _, (Arr.new w _ (u8s z16)).alloc _, Arr.newAt (w.alloc _) _ (u8s z16) _ (by simp), ((Below.refl _ _).alloc (Nat.le_refl _) _).alloc (by simp) _, ln, lk⟩
  clear hk hT hC0 hCB hCS hH hN hK
  go_enter Try.func28, Try.ntmps28
  go_wp2
  go_loopg [6, 7, 8] 9 (fun f s6 s7 s8 wr => ∃ (k : Nat), s8 = .int .i64 k ∧ k ≤ 8 ∧ 8 - k < f ∧ Hid (StMk w wr gn gk0 nn key (C k)))
  case atStart => exact ⟨0, rfl, by omega, by omega, by rw [HC0.out]; exact H0⟩
  case round =>
    clear H0
    obtain ⟨k, rfl, hk, hf, HR⟩ := hrel
    by_cases hlt : k < 8
    · have hk8 : (k : Int) < 8 := by omega
      have cn := HR.out.n.cell 0
      have ca := (HR.out.b.cell k).trans (u8s_at (by rw [(HCB.out k).len]; omega))
      have cb := (HR.out.b.cell (8 + k)).trans (u8s_at (by rw [(HCB.out k).len]; omega))
      have fa := HR.out.b.frozen k
      have fb := HR.out.b.frozen (8 + k)
      generalize (C k).getD k 0 = x0 at *
      generalize (C k).getD (8 + k) 0 = y0 at *
      go_wp2
      go_roundg (8 - k)
      case measure => omega
      case rel =>
        refine ⟨k + 1, by go_num, by omega, by omega, ?_⟩
        have h := (HR.out.set k (nn / 2 ^ (8 * (7 - k)) % 256)).set (8 + k) (i / 2 ^ (8 * (7 - k)) % 256)
        rw [HCS.out k hlt, ← byte_at, ← byte_at] at h
        exact h
    · have e : k = 8 := by omega
      subst e
      have B8 := hide (HCB.out 8)
      clear HC0 HCB HCS
      generalize C 8 = D at *
      go_wp2_with (first
        | (refine wpList_load_row rfl 22 _ rfl gk0 rfl 22 _ (0, 0) _ HR.out.k Try.underlying22 rfl (szb HK.out) ?_)
        | (refine wpList_load_row rfl 22 _ rfl (w.heap.size + 1) rfl 22 _ (0, 0) _ HR.out.b Try.underlying22 rfl (szb B8.out) ?_))
      refine (HH.out _).mono ?_
      rintro e w1 ⟨rfl, hb1⟩
      have H1 := hide (HR.out.o.kept hb1)
      have Z1 := hide (HR.out.bl.trans (hb1.mono HR.out.bl.size))
      clear hb1 HR
      go_wp2_with (refine wpList_store_row rfl 22 _ _ rfl w.heap.size (u8s T).toArray rfl rfl 22 _ H1.out (szb HT.out) (old16 HT.out.len) (one_u8s _) ?_)
      exact bodyPost_ret (v := .agg (u8s T).toArray) (results_cell_row Try.results28 _ _ w.heap.size 22 _ (0, 0) _ rfl (H1.out.row _) Try.underlying22 rfl (szb HT.out)) rfl ⟨rfl, below_setRow Z1.out (Nat.le_refl _) H1.out.lt _⟩

theorem block_any (key : List Nat) (gn gk nn i : Nat) (w : World) (hk : Blk key) (hnn : nn < 18446744073709551616) (hi : i < 9223372036854775808)
    (hN : Arr w gn 23 [.int .u64 (nn : Int)]) (hK : Arr w gk 22 (u8s key)) :
    Calls Try.prog 28 #[.int .i64 (i : Int), .pointer (some ⟨gn, 0, none⟩), .pointer (some ⟨gk, 0, none⟩)] w fun e w' => e = .returned (.agg (u8s (hbF key nn i)).toArray) ∧ Below w.heap.size w w' :=
  block_of key (hbF key nn i) gn gk nn i (cbP nn i) w hk hnn hi hN hK (cbP_zero nn i) (cbP_blk nn i) (cbP_step nn i) (hbF_blk hk nn i)
    (fun v => Hide_of key (cbP nn i 8) _ v hk (cbP_blk nn i 8) (by rw [cbP_full]; rfl))

set_option maxHeartbeats 2000000 in
theorem maker_any (key : List Nat) (nn : Nat) (w : World) :
    Calls Try.prog 20 #[.agg (u8s key).toArray, .int .u64 (nn : Int)] w fun e w' => e = .returned (.func (.func 28) #[] #[.pointer (some ⟨w.heap.size + 1, 0, none⟩), .pointer (some ⟨w.heap.size, 0, none⟩)]) ∧ w' = (w.alloc (Obj.cells (u8s key).toArray 22)).alloc (Obj.cells #[.int .u64 (nn : Int)] 23) := by
  go_enter Try.func20, Try.ntmps20
  go_wp2
  go_ret
  exact ⟨rfl, rfl⟩

set_option maxHeartbeats 2000000 in
theorem blocks_any (fv : Fn) (ra lb : Array Value) (s e : Int) (w : World) :
    Calls Try.prog 27 #[.func fv ra lb, .int .i64 s, .int .i64 e] w fun r w' => r = .returned (.func (.func 33) #[] #[.pointer (some ⟨w.heap.size + 1, 0, none⟩), .pointer (some ⟨w.heap.size + 1 + 1, 0, none⟩), .pointer (some ⟨w.heap.size, 0, none⟩)]) ∧ w' = ((w.alloc (Obj.cells #[.func fv ra lb] 50)).alloc (Obj.cells #[.int .i64 s] 3)).alloc (Obj.cells #[.int .i64 e] 3) := by
  go_enter Try.func27, Try.ntmps27
  go_wp2
  go_ret
  exact ⟨rfl, rfl⟩

set_option maxHeartbeats 1000000 in
theorem tooFar_any (f n : Int) (hn : -9223372036853727231 ≤ n) (hn2 : n < 9223372036854775808) (w : World) :
    Calls Try.prog 18 #[.int .i64 f, .int .i64 n] w fun e w' => e = .returned (.bool (decide (1048576 - n < f))) ∧ w' = w := by
  go_enter Try.func18, Try.ntmps18
  go_wp2
  go_ret
  exact ⟨rfl, rfl⟩

end Go.Proofs.Ytflakgigekfgcaa
