/-
  Several texts, joined: CA, CT, CB, CC, CD, CE.
-/
import Derived.Test.YtbmjlofehbbkbaaDoorJJ
import Derived.Test.YtbmjlofehbbkbaaDoorJA

/- Plain numbers for layer 5: a counted block, what a stream's round brings, a stream's bytes, a text turned. -/
namespace Go.Proofs.YtbmjlofehbbkbaaDoor
open Go.RowKit

/-- the nonce in eight bytes and the block's number in eight bytes, the highest first -/
def cbF (nn i : Nat) : List Nat := (List.range 16).map fun j => if j < 8 then nn / 2 ^ (8 * (7 - j)) % 256 else i / 2 ^ (8 * (15 - j)) % 256
/-- .. so many bytes of each -/
def cbP (nn i k : Nat) : List Nat := (List.range 16).map fun j => if j < 8 then (if j < k then nn / 2 ^ (8 * (7 - j)) % 256 else 0) else (if j < 8 + k then i / 2 ^ (8 * (15 - j)) % 256 else 0)

theorem range_at (n : Nat) (g : Nat → Nat) (i : Nat) : ((List.range n).map g).getD i 0 = if i < n then g i else 0 := by
  by_cases h : i < n
  · simp [List.getD, h]
  · simp [List.getD, h]
theorem cbF_blk (nn i : Nat) : Blk (cbF nn i) := range16_blk fun j _ => by split <;> exact Nat.mod_lt _ (by omega)
theorem cbP_length (nn i k : Nat) : (cbP nn i k).length = 16 := by simp [cbP]
theorem cbP_blk (nn i k : Nat) : Blk (cbP nn i k) := range16_blk fun j _ => by
  split <;> split <;> first | exact Nat.mod_lt _ (by omega) | omega
theorem cbP_zero (nn i : Nat) : cbP nn i 0 = z16 := by
  apply List.ext_getElem
  · simp [cbP, z16]
  · intro j h1 h2
    have hj : j < 16 := by simpa [cbP] using h1
    refine Eq.trans ?_ (show 0 = z16[j]'h2 from by simp only [z16, List.getElem_replicate])
    simp only [cbP, List.getElem_map, List.getElem_range]
    by_cases h8 : j < 8
    · simp [h8]
    · simp [h8]
theorem cbP_full (nn i : Nat) : cbP nn i 8 = cbF nn i := by
  apply List.ext_getElem
  · simp [cbP, cbF]
  · intro j h1 h2
    have hj : j < 16 := by simpa [cbP] using h1
    simp only [cbP, cbF, List.getElem_map, List.getElem_range]
    by_cases h8 : j < 8
    · simp [h8]
    · simp [h8, show j < 8 + 8 by omega]
theorem cbP_step (nn i k : Nat) (hk : k < 8) : ((cbP nn i k).set k (nn / 2 ^ (8 * (7 - k)) % 256)).set (8 + k) (i / 2 ^ (8 * (7 - k)) % 256) = cbP nn i (k + 1) := by
  apply List.ext_getElem
  · simp [cbP]
  · intro j h1 h2
    have hj : j < 16 := by simpa [cbP] using h2
    simp only [cbP, List.getElem_set, List.getElem_map, List.getElem_range]
    by_cases e1 : 8 + k = j
    · subst e1
      rw [if_pos rfl, if_neg (show ¬ 8 + k < 8 by omega), if_pos (show 8 + k < 8 + (k + 1) by omega), show 15 - (8 + k) = 7 - k by omega]
    · rw [if_neg e1]
      by_cases e2 : k = j
      · subst e2
        rw [if_pos rfl, if_pos hk, if_pos (show k < k + 1 by omega)]
      · rw [if_neg e2]
        by_cases h8 : j < 8
        · simp only [h8, if_true]
          by_cases h3 : j < k
          · rw [if_pos h3, if_pos (show j < k + 1 by omega)]
          · rw [if_neg h3, if_neg (show ¬ j < k + 1 by omega)]
        · simp only [h8, if_false]
          by_cases h3 : j < 8 + k
          · rw [if_pos h3, if_pos (show j < 8 + (k + 1) by omega)]
          · rw [if_neg h3, if_neg (show ¬ j < 8 + (k + 1) by omega)]

/-- the block i of a stream -/
def hbF (key : List Nat) (nn i : Nat) : List Nat := hdF (rdF swT key) (cbF nn i) 10
theorem hbF_blk {key : List Nat} (hk : Blk key) (nn i : Nat) : Blk (hbF key nn i) := hdF_blk (rd_blk sw_lt hk) (cbF_blk nn i) 10

/-- n bytes of a stream, from a place on -/
def stF (B : Nat → List Nat) (f n : Nat) : List Nat := (List.range n).map fun j => (B ((f + j) / 16)).getD ((f + j) % 16) 0
theorem stF_length (B : Nat → List Nat) (f n : Nat) : (stF B f n).length = n := by simp [stF]
theorem stF_at (B : Nat → List Nat) (f n j : Nat) : (stF B f n).getD j 0 = if j < n then (B ((f + j) / 16)).getD ((f + j) % 16) 0 else 0 := range_at _ _ _
theorem stF_bytes {B : Nat → List Nat} (hB : ∀ i, Blk (B i)) (f n : Nat) : BytesN (stF B f n) := by
  intro x hx
  obtain ⟨j, _, rfl⟩ := List.mem_map.1 hx
  exact (hB _).lt _
theorem stF_add (B : Nat → List Nat) (f n m : Nat) : stF B f (n + m) = stF B f n ++ stF B (f + n) m := by
  rw [stF, stF, stF, List.range_add, List.map_append, List.map_map]
  congr 1
  apply List.map_congr_left
  intro j _
  simp only [Function.comp]
  rw [show f + (n + j) = f + n + j by omega]

/-- what a round brings: the row behind it, and from where the next block is taken -/
def rnF (n : Nat) (B : Nat → List Nat) (st : List Nat × Nat) (x : Nat) : List Nat × Nat := (st.1 ++ ((B x).take (min 16 (st.2 + n - st.1.length))).drop st.2, 0)
def outS (n : Nat) (B : Nat → List Nat) (s0 : Nat) (xs : List Nat) : List Nat × Nat := xs.foldl (rnF n B) ([], s0)
theorem outS_snoc (n : Nat) (B : Nat → List Nat) (s0 : Nat) (xs : List Nat) (x : Nat) : outS n B s0 (xs ++ [x]) = rnF n B (outS n B s0 xs) x := by simp [outS, List.foldl_append]

theorem snoc_ind {α : Type} {p : List α → Prop} (h0 : p []) (h1 : ∀ xs x, p xs → p (xs ++ [x])) : ∀ xs, p xs := fun xs => by
  have h : ∀ ys : List α, p ys.reverse := fun ys => by
    induction ys with
    | nil => exact h0
    | cons y ys ih => rw [List.reverse_cons]; exact h1 _ _ ih
  have := h xs.reverse
  rwa [List.reverse_reverse] at this

theorem outS_len {n s0 : Nat} {B : Nat → List Nat} (hB : ∀ i, (B i).length = 16) (hs : s0 < 16) (xs : List Nat) :
    (outS n B s0 xs).1.length = min n (16 * xs.length - s0) ∧ (outS n B s0 xs).2 = (if xs.length = 0 then s0 else 0) := by
  refine snoc_ind (p := fun xs => (outS n B s0 xs).1.length = min n (16 * xs.length - s0) ∧ (outS n B s0 xs).2 = (if xs.length = 0 then s0 else 0)) ?_ ?_ xs
  · simp [outS]
  · rintro xs x ⟨h1, h2⟩
    rw [outS_snoc]
    refine ⟨?_, by simp [rnF]⟩
    simp only [rnF, List.length_append, List.length_drop, List.length_take, hB, h1, h2, List.length_cons, List.length_nil]
    split
    · rename_i h0
      rw [h0]
      omega
    · omega

theorem outS_ok {n s0 : Nat} {B : Nat → List Nat} (hB : ∀ i, (B i).length = 16) (hs : s0 < 16) (xs : List Nat) :
    (outS n B s0 xs).1.length ≤ n ∧ (outS n B s0 xs).2 < 16 ∧ (outS n B s0 xs).2 ≤ min 16 ((outS n B s0 xs).2 + n - (outS n B s0 xs).1.length) := by
  obtain ⟨h1, h2⟩ := outS_len (n := n) hB hs xs
  rw [h1, h2]
  split <;> omega

theorem drop_take_is (b : List Nat) (hb : b.length = 16) (s m : Nat) (h1 : s ≤ m) (h2 : m ≤ 16) : (b.take m).drop s = (List.range (m - s)).map fun j => b.getD (s + j) 0 := by
  apply List.ext_getElem
  · simp; omega
  · intro j h3 h4
    have hj : j < m - s := by simpa using h4
    simp [List.getD, show s + j < b.length by omega]

theorem stF_piece (B : Nat → List Nat) (hB : ∀ i, (B i).length = 16) (f m : Nat) (hm : f % 16 + m ≤ 16) : ((B (f / 16)).take (f % 16 + m)).drop (f % 16) = stF B f m := by
  rw [drop_take_is _ (hB _) _ _ (by omega) hm, Nat.add_sub_cancel_left, stF]
  apply List.map_congr_left
  intro j hj
  have hj' : j < m := by simpa using hj
  rw [show (f + j) / 16 = f / 16 by omega, show (f + j) % 16 = f % 16 + j by omega]

theorem outS_is {B : Nat → List Nat} (hB : ∀ i, (B i).length = 16) (f n : Nat) : ∀ k, (outS n B (f % 16) ((List.range k).map (f / 16 + ·))).1 = stF B f (min n (16 * k - f % 16)) := by
  intro k
  induction k with
  | zero => simp [outS, stF]
  | succ k ih =>
    have hs : f % 16 < 16 := Nat.mod_lt _ (by omega)
    obtain ⟨h1, h2⟩ := outS_len (n := n) hB hs ((List.range k).map (f / 16 + ·))
    simp only [List.length_map, List.length_range] at h1 h2
    rw [List.range_succ, List.map_append, List.map_singleton, outS_snoc]
    simp only [rnF, h1, h2]
    rw [ih]
    by_cases h0 : k = 0
    · subst h0
      simp only [Nat.mul_zero, Nat.zero_sub, Nat.min_zero, if_true, Nat.add_zero, Nat.sub_zero, Nat.zero_add, Nat.mul_one]
      have e0 : stF B f 0 = [] := rfl
      rw [e0, List.nil_append]
      have e1 : min 16 (f % 16 + n) = f % 16 + min n (16 - f % 16) := by omega
      rw [e1]
      exact stF_piece B hB f _ (by omega)
    · rw [if_neg h0, List.drop_zero]
      have e1 : min n (16 * (k + 1) - f % 16) = min n (16 * k - f % 16) + min 16 (0 + n - min n (16 * k - f % 16)) := by omega
      rw [e1, stF_add]
      congr 1
      by_cases hz : n ≤ 16 * k - f % 16
      · have e2 : min 16 (0 + n - min n (16 * k - f % 16)) = 0 := by omega
        rw [e2, List.take_zero]; rfl
      · have e3 : min n (16 * k - f % 16) = 16 * k - f % 16 := by omega
        rw [e3]
        have e4 : (f + (16 * k - f % 16)) % 16 = 0 := by omega
        have e5 : (f + (16 * k - f % 16)) / 16 = f / 16 + k := by omega
        have := stF_piece B hB (f + (16 * k - f % 16)) (min 16 (0 + n - (16 * k - f % 16))) (by omega)
        rw [e4, e5, Nat.zero_add, List.drop_zero] at this
        exact this

/-- .. and behind the last one -/
theorem outS_all {B : Nat → List Nat} (hB : ∀ i, (B i).length = 16) (f n : Nat) : (outS n B (f % 16) ((List.range ((f + n + 15) / 16 - f / 16)).map (f / 16 + ·))).1 = stF B f n := by
  rw [outS_is hB]
  congr 1
  omega

/-- a text turned, from a place on -/
def trF (B : Nat → List Nat) (f : Nat) (xs : List Nat) : List Nat := (List.range xs.length).map fun j => xs.getD j 0 ^^^ (B ((f + j) / 16)).getD ((f + j) % 16) 0
theorem trF_length (B : Nat → List Nat) (f : Nat) (xs : List Nat) : (trF B f xs).length = xs.length := by simp [trF]
theorem trF_at (B : Nat → List Nat) (f : Nat) (xs : List Nat) {j : Nat} (hj : j < xs.length) : (trF B f xs).getD j 0 = xs.getD j 0 ^^^ (B ((f + j) / 16)).getD ((f + j) % 16) 0 := by rw [trF, range_at, if_pos hj]
theorem getD_byte {xs : List Nat} (h : BytesN xs) (j : Nat) : xs.getD j 0 < 256 := by
  by_cases hj : j < xs.length
  · have := h xs[j] (List.getElem_mem hj)
    simpa [List.getD, hj] using this
  · simp [List.getD, hj]
theorem trF_bytes {B : Nat → List Nat} (hB : ∀ i, Blk (B i)) (f : Nat) {xs : List Nat} (hx : BytesN xs) : BytesN (trF B f xs) := by
  intro x h
  obtain ⟨j, _, rfl⟩ := List.mem_map.1 h
  exact xor_lt8 (getD_byte hx j) ((hB _).lt _)

end Go.Proofs.YtbmjlofehbbkbaaDoor

/- Plain facts on a text turned twice; a row of the call's own as bytes that may be handed on; bytes held against each other. -/
namespace Go.Proofs.YtbmjlofehbbkbaaDoor
open Go.RowKit

theorem trF_twice (B : Nat → List Nat) (f : Nat) (xs : List Nat) : trF B f (trF B f xs) = xs := by
  apply List.ext_getElem
  · simp [trF_length]
  · intro i h1 h2
    have h3 : i < (trF B f xs).length := by simpa [trF_length] using h2
    have e1 := trF_at B f (trF B f xs) h3
    have e2 := trF_at B f xs h2
    rw [e2] at e1
    have e3 : (trF B f (trF B f xs)).getD i 0 = (trF B f (trF B f xs))[i] := by simp [List.getD, h1]
    have e4 : xs.getD i 0 = xs[i] := by simp [List.getD, h2]
    rw [← e3, e1, e4, Nat.xor_assoc, Nat.xor_self, Nat.xor_zero]

theorem toList_inj {a b : ByteArray} (h : a.toList = b.toList) : a = b := by
  rw [ByteArray.toList_eq, ByteArray.toList_eq] at h
  obtain ⟨⟨x⟩⟩ := a
  obtain ⟨⟨y⟩⟩ := b
  cases h
  rfl

/-- a struct that is built of parts -/
theorem wpList_build_of {P : Program} {ops : Array Oper} {rest : List Oper} {o : Oper} {a : Act} {w : World} {Q : Exit → Act → World → Prop} (hg : o.guard = none) (t : TypeId) (parts : Array (Nat × Operand)) (ho : o.op = .build t parts) (L : List (Nat × Value)) (hL : (parts.map fun (i, x) => (i, a.eval x)).toList = L) (C : Array Value) (hb : P.built t L = some C)
    (h : wpList P ops Q rest (a.put o.dst (.agg C)) w) : wpList P ops Q (o :: rest) a w :=
  wpList_build hg t parts ho (by rw [hL, hb]; rfl) (by rw [hL, hb]; exact h)

end Go.Proofs.YtbmjlofehbbkbaaDoor

/- Walks: the maker of a stream's blocks, and a block of it. -/
namespace Go.Proofs.YtbmjlofehbbkbaaDoor
open Go.RowKit

/-- what lies in memory while a counted block is made -/
structure StMk (w wr : World) (gn gk nn : Nat) (key c : List Nat) : Prop where
  n : Arr wr gn 26 [.int .u64 (nn : Int)]
  k : Arr wr gk 22 (u8s key)
  o : Arr wr w.heap.size 22 (u8s z16)
  b : Arr wr (w.heap.size + 1) 22 (u8s c)
  bl : Below w.heap.size w wr
  ln : gn < w.heap.size
  lk : gk < w.heap.size
theorem StMk.set {w wr : World} {gn gk nn : Nat} {key c : List Nat} (r : StMk w wr gn gk nn key c) (i x : Nat) : StMk w (wr.setCell ⟨w.heap.size + 1, i, none⟩ (.int .u8 ((x : Nat) : Int))) gn gk nn key (c.set i x) := by
  have e1 := r.ln
  have e2 := r.lk
  refine ⟨r.n.other _ _ (show gn ≠ w.heap.size + 1 by omega), r.k.other _ _ (show gk ≠ w.heap.size + 1 by omega), r.o.other _ _ (show w.heap.size ≠ w.heap.size + 1 by omega), ?_, r.bl.setCell (show w.heap.size ≤ w.heap.size + 1 by omega) _, e1, e2⟩
  have := r.b.set i (.int .u8 ((x : Nat) : Int))
  rw [u8s_set] at this
  exact this

theorem byte_at (n s : Nat) : ((n : Int) / 2 ^ s % 256) = ((n / 2 ^ s % 256 : Nat) : Int) := by
  rw [Int.natCast_emod, Int.natCast_ediv, Int.natCast_pow]
  rfl

set_option maxHeartbeats 4000000 in
set_option maxRecDepth 100000 in
theorem block_of (key T : List Nat) (gn gk0 nn i : Nat) (C : Nat → List Nat) (w : World) (hk : Blk key) (_hnn : nn < 18446744073709551616) (hi : i < 9223372036854775808)
    (hN : Arr w gn 26 [.int .u64 (nn : Int)]) (hK : Arr w gk0 22 (u8s key))
    (hC0 : C 0 = z16) (hCB : ∀ k, Blk (C k)) (hCS : ∀ k, k < 8 → ((C k).set k (nn / 2 ^ (8 * (7 - k)) % 256)).set (8 + k) (i / 2 ^ (8 * (7 - k)) % 256) = C (k + 1))
    (hT : Blk T) (hH : ∀ v, Calls Tryd.prog 56 #[.agg (u8s key).toArray, .agg (u8s (C 8)).toArray] v fun e w' => e = .returned (.agg (u8s T).toArray) ∧ Below v.heap.size v w') :
    Calls Tryd.prog 55 #[.int .i64 (i : Int), .pointer (some ⟨gn, 0, none⟩), .pointer (some ⟨gk0, 0, none⟩)] w fun e w' => e = .returned (.agg (u8s T).toArray) ∧ Below w.heap.size w w' := by
  have HK := hide hk
  have HT := hide hT
  have HC0 := hide hC0
  have HCB := hide hCB
  have HCS := hide hCS
  have HH := hide hH
  have HN := hide hN
  have HKK := hide hK
  have ln := hN.lt
  have lk := hK.lt
  have H0 : Hid (StMk w ((w.alloc (Obj.cells (u8s z16).toArray 22)).alloc (Obj.cells (u8s z16).toArray 22)) gn gk0 nn key z16) :=
    ⟨(hN.alloc _).alloc _, (hK.alloc _).alloc _, (Arr.new w _ (u8s z16)).alloc _, Arr.newAt (w.alloc _) _ (u8s z16) _ (by simp), ((Below.refl _ _).alloc (Nat.le_refl _) _).alloc (by simp) _, ln, lk⟩
  clear hk hT hC0 hCB hCS hH hN hK
  go_enter Tryd.func55, Tryd.ntmps55
  go_wp2
  go_loopg [6, 7, 8] 9 (fun f s6 s7 s8 wr => ∃ (k : Nat), s8 = .int .i64 k ∧ k ≤ 8 ∧ 8 - k < f ∧ Hid (StMk w wr gn gk0 nn key (C k)))
  case atStart => exact ⟨0, rfl, by omega, by omega, by rw [HC0.out]; exact H0⟩
  case round =>
    clear H0
    obtain ⟨k, rfl, hk, hf, HR⟩ := hrel
    by_cases hlt : k < 8
    · have hk8 : (k : Int) < 8 := by omega
      have cn := HR.out.n.cell 0
      have ca := (HR.out.b.cell k).trans (u8s_at (by rw [(HCB.out k).len]; omega))
      have cb := (HR.out.b.cell (8 + k)).trans (u8s_at (by rw [(HCB.out k).len]; omega))
      have fa := HR.out.b.frozen k
      have fb := HR.out.b.frozen (8 + k)
      generalize (C k).getD k 0 = x0 at *
      generalize (C k).getD (8 + k) 0 = y0 at *
      go_wp2
      go_roundg (8 - k)
      case measure => omega
      case rel =>
        refine ⟨k + 1, by go_num, by omega, by omega, ?_⟩
        have h := (HR.out.set k (nn / 2 ^ (8 * (7 - k)) % 256)).set (8 + k) (i / 2 ^ (8 * (7 - k)) % 256)
        rw [HCS.out k hlt, ← byte_at, ← byte_at] at h
        exact h
    · have e : k = 8 := by omega
      subst e
      have B8 := hide (HCB.out 8)
      clear HC0 HCB HCS
      generalize C 8 = D at *
      go_wp2_with (first
        | (refine wpList_load_row rfl 22 _ rfl gk0 rfl 22 _ (0, 0) _ HR.out.k Tryd.underlying22 rfl (szb HK.out) ?_)
        | (refine wpList_load_row rfl 22 _ rfl (w.heap.size + 1) rfl 22 _ (0, 0) _ HR.out.b Tryd.underlying22 rfl (szb B8.out) ?_))
      refine (HH.out _).mono ?_
      rintro e w1 ⟨rfl, hb1⟩
      have H1 := hide (HR.out.o.kept hb1)
      have Z1 := hide (HR.out.bl.trans (hb1.mono HR.out.bl.size))
      clear hb1 HR
      go_wp2_with (refine wpList_store_row rfl 22 _ _ rfl w.heap.size (u8s T).toArray rfl rfl 22 _ H1.out (szb HT.out) (old16 HT.out.len) (one_u8s _) ?_)
      exact bodyPost_ret (v := .agg (u8s T).toArray) (results_cell_row Tryd.results55 _ _ w.heap.size 22 _ (0, 0) _ rfl (H1.out.row _) Tryd.underlying22 rfl (szb HT.out)) rfl ⟨rfl, below_setRow Z1.out (Nat.le_refl _) H1.out.lt _⟩

theorem block_any (key : List Nat) (gn gk nn i : Nat) (w : World) (hk : Blk key) (hnn : nn < 18446744073709551616) (hi : i < 9223372036854775808)
    (hN : Arr w gn 26 [.int .u64 (nn : Int)]) (hK : Arr w gk 22 (u8s key)) :
    Calls Tryd.prog 55 #[.int .i64 (i : Int), .pointer (some ⟨gn, 0, none⟩), .pointer (some ⟨gk, 0, none⟩)] w fun e w' => e = .returned (.agg (u8s (hbF key nn i)).toArray) ∧ Below w.heap.size w w' :=
  block_of key (hbF key nn i) gn gk nn i (cbP nn i) w hk hnn hi hN hK (cbP_zero nn i) (cbP_blk nn i) (cbP_step nn i) (hbF_blk hk nn i)
    (fun v => Hide_of key (cbP nn i 8) _ v hk (cbP_blk nn i 8) (by rw [cbP_full]; rfl))

set_option maxHeartbeats 2000000 in
theorem maker_any (key : List Nat) (nn : Nat) (w : World) :
    Calls Tryd.prog 41 #[.agg (u8s key).toArray, .int .u64 (nn : Int)] w fun e w' => e = .returned (.func (.func 55) #[] #[.pointer (some ⟨w.heap.size + 1, 0, none⟩), .pointer (some ⟨w.heap.size, 0, none⟩)]) ∧ w' = (w.alloc (Obj.cells (u8s key).toArray 22)).alloc (Obj.cells #[.int .u64 (nn : Int)] 26) := by
  go_enter Tryd.func41, Tryd.ntmps41
  go_wp2
  go_ret
  exact ⟨rfl, rfl⟩

set_option maxHeartbeats 2000000 in
theorem blocks_any (fv : Fn) (ra lb : Array Value) (s e : Int) (w : World) :
    Calls Tryd.prog 69 #[.func fv ra lb, .int .i64 s, .int .i64 e] w fun r w' => r = .returned (.func (.func 82) #[] #[.pointer (some ⟨w.heap.size + 1, 0, none⟩), .pointer (some ⟨w.heap.size + 1 + 1, 0, none⟩), .pointer (some ⟨w.heap.size, 0, none⟩)]) ∧ w' = ((w.alloc (Obj.cells #[.func fv ra lb] 93)).alloc (Obj.cells #[.int .i64 s] 3)).alloc (Obj.cells #[.int .i64 e] 3) := by
  go_enter Tryd.func69, Tryd.ntmps69
  go_wp2
  go_ret
  exact ⟨rfl, rfl⟩


end Go.Proofs.YtbmjlofehbbkbaaDoor

/- A walk: the blocks of a stream, gone over by a function. -/
namespace Go.Proofs.YtbmjlofehbbkbaaDoor
open Go.RowKit Go.Shelf
attribute [local go_sem] Oper.semAt_some

/-- what a round keeps: these blocks lie as they lay -/
def Keeps (ks : List Nat) (W W' : World) : Prop := ∀ k ∈ ks, W'.heap[k]? = W.heap[k]?
theorem Keeps.trans {ks : List Nat} {A B C : World} (h : Keeps ks A B) (k : Keeps ks B C) : Keeps ks A C := fun i hi => (k i hi).trans (h i hi)
theorem Keeps.put {ks : List Nat} {w : World} (hk : ∀ k ∈ ks, k < w.heap.size) (W : World) (l : Nat) (o o' : Obj) (hl : w.heap.size ≤ l) (_ : W.heap[l]? = some o) (_ : o.isCells = false) (_ : o.isWalk = false) : Keeps ks W (W.putObj l o') := fun k hm =>
  World.putObj_heap_other (fun e => by have := hk k hm; omega)
theorem Keeps.arr {ks : List Nat} {W W' : World} (h : Keeps ks W W') {g : Nat} (hg : g ∈ ks) {t : TypeId} {vs : List Value} (ha : Arr W g t vs) : Arr W' g t vs := (h g hg).trans ha
theorem Keeps.of_below {ks : List Nat} {W W' : World} (h : Below W.heap.size W W') (hk : ∀ k ∈ ks, k < W.heap.size) : Keeps ks W W' := fun k hm => h.block k (hk k hm)

/-- what the iterator reads between two rounds -/
structure ItM (wr : World) (ge gb gn gk : Nat) (e : Int) (nn : Nat) (key : List Nat) : Prop where
  e : Arr wr ge 3 [.int .i64 e]
  b : Arr wr gb 93 [.func (.func 55) #[] #[.pointer (some ⟨gn, 0, none⟩), .pointer (some ⟨gk, 0, none⟩)]]
  n : Arr wr gn 26 [.int .u64 (nn : Int)]
  k : Arr wr gk 22 (u8s key)
theorem ItM.kept {W W' : World} {ge gb gn gk : Nat} {e : Int} {nn : Nat} {key : List Nat} (r : ItM W ge gb gn gk e nn key) (h : Keeps [ge, gb, gn, gk] W W') : ItM W' ge gb gn gk e nn key :=
  ⟨h.arr (by simp) r.e, h.arr (by simp) r.b, h.arr (by simp) r.n, h.arr (by simp) r.k⟩
theorem ItM.below {W W' : World} {ge gb gn gk : Nat} {e : Int} {nn : Nat} {key : List Nat} (r : ItM W ge gb gn gk e nn key) (h : Below W.heap.size W W') : ItM W' ge gb gn gk e nn key :=
  ⟨r.e.kept h, r.b.kept h, r.n.kept h, r.k.kept h⟩
theorem ItM.lt {W : World} {ge gb gn gk : Nat} {e : Int} {nn : Nat} {key : List Nat} (r : ItM W ge gb gn gk e nn key) : ∀ k ∈ [ge, gb, gn, gk], k < W.heap.size := by
  intro k hk
  simp at hk
  rcases hk with rfl | rfl | rfl | rfl
  · exact r.e.lt
  · exact r.b.lt
  · exact r.n.lt
  · exact r.k.lt

/-- the numbers of so many blocks -/
def numsF (s k : Nat) : List Nat := (List.range k).map (s + ·)
theorem numsF_succ (s k : Nat) : numsF s (k + 1) = numsF s k ++ [s + k] := by simp [numsF, List.range_succ]
theorem numsF_length (s k : Nat) : (numsF s k).length = k := by simp [numsF]

set_option maxHeartbeats 4000000 in
set_option maxRecDepth 100000 in
theorem iter_in (n : Nat) (hn : 1 ≤ n) (l gs ge gb gn gk s nn : Nat) (e : Int) (key : List Nat) (B : Nat → List Nat) (N : Nat) (hNe : N = (e - (s : Int)).toNat) (_hs : s < 4611686018427387904) (he : e < 4611686018427387904)
    (hB : ∀ (i : Nat) (v : World), i < 4611686018427387904 → Hid (ItM v ge gb gn gk e nn key) → Calls Tryd.prog 55 #[.int .i64 (i : Int), .pointer (some ⟨gn, 0, none⟩), .pointer (some ⟨gk, 0, none⟩)] v fun r w' => r = .returned (.agg (u8s (B i)).toArray) ∧ Below v.heap.size v w')
    (J Jx : List Nat → World → Prop) (hJ : ∀ pre A A', J pre A → A.grownBy A' none → J pre A')
    (hY : ∀ pre x W, J pre W → pre.length < N → YieldAt Fence.wide (n - 1) Tryd.prog l #[.int .i64 ((x : Nat) : Int), .agg (u8s (B x)).toArray] W fun r W' =>
      (r = .returned (.bool true) ∧ J (pre ++ [x]) W' ∧ Keeps [ge, gb, gn, gk] W W') ∨ (r = .returned (.bool false) ∧ Jx (pre ++ [x]) W'))
    (W : World) (hS : Arr W gs 3 [.int .i64 (s : Int)]) (hM : ItM W ge gb gn gk e nn key) (h0 : J [] W) :
    CallsIn Fence.wide n Tryd.prog 82 #[.func (.yield l) #[] #[], .pointer (some ⟨gs, 0, none⟩), .pointer (some ⟨ge, 0, none⟩), .pointer (some ⟨gb, 0, none⟩)] W fun r W' => (∃ v, r = .returned v) ∧
      ((∃ ys, ys = numsF s N ∧ J ys W') ∨ (∃ pre, (∃ k, k ≤ N ∧ pre = numsF s k) ∧ Jx pre W')) := by
  have HM := hide hM
  have HB := hide hB
  have HJ := hide hJ
  have HY := hide hY
  have cs := hS.cell 0
  have HNE := hide hNe
  clear hM hB hJ hY hS hNe
  refine callsIn_of_wp Tryd.func82 rfl trivial ?_ rfl
  simp only [Tryd.ntmps82, List.size_toArray, List.length_cons, List.length_nil, Nat.reduceAdd, Nat.reduceSub, Array.replicate_succ, Array.replicate_zero, List.push_toArray, List.append_toArray, List.nil_append, List.cons_append]
  gi_wp2
  gi_loopw [5] (fun v wr => ∃ k i : Nat, k ≤ N ∧ i = s + k ∧ v = .int .i64 (i : Int) ∧ Hid (J (numsF s k) wr ∧ ItM wr ge gb gn gk e nn key)) (fun v _ => (e - intOf v).toNat)
  case atStart => exact ⟨0, s, by omega, rfl, rfl, h0, HM.out⟩
  case round =>
    obtain ⟨k, i, hk, hi, rfl, HR⟩ := hrel
    have ce := HR.out.2.e.cell 0
    have cb := HR.out.2.b.cell 0
    have hNN := HNE.out
    by_cases hlt : k < N
    · have hie : (i : Int) < e := by omega
      have HI := hide hi
      clear hNN hi
      gi_wp2_with (refine ⟨trivial, ?_⟩; gi_at_call 55; refine (callsIn_wide.2 (HB.out i wr (by omega) HR.out.2)).mono ?_; rintro r w1 ⟨rfl, hb1⟩; have HR1 : Hid (J (numsF s k) w1 ∧ ItM w1 ge gb gn gk e nn key) := ⟨HJ.out _ _ _ HR.out.1 (below_grown hb1 none), HR.out.2.below hb1⟩; obtain ⟨fn, tmps, assign, body, hy, hR⟩ := HY.out _ i w1 HR1.out.1 (by rw [numsF_length]; exact hlt); clear hb1)
      refine hR.mono ?_
      rintro r W3 (⟨rfl, hJ3, hk3⟩ | ⟨rfl, hJx3⟩)
      · gi_wp2
        go_roundw
        case rel => exact ⟨k + 1, i + 1, by omega, by have := HI.out; omega, by go_num, by rw [numsF_succ, ← HI.out]; exact hJ3, HR1.out.2.kept hk3⟩
        case measure => simp [intOf]; omega
      · gi_wp2
        refine bodyPost_ret (results_none rfl _ _ _) rfl ?_
        exact ⟨⟨_, rfl⟩, .inr ⟨_, ⟨k + 1, by omega, rfl⟩, by rw [numsF_succ, ← HI.out]; exact hJx3⟩⟩
    · have hkN : k = N := by omega
      have hie : ¬ (i : Int) < e := by omega
      subst hkN
      clear hNN
      gi_wp2
      go_end0
      first | exact ⟨⟨_, rfl⟩, .inl ⟨_, rfl, HR.out.1⟩⟩ | exact ⟨⟨_, rfl⟩, .inl HR.out.1⟩

end Go.Proofs.YtbmjlofehbbkbaaDoor

/- A walk: n bytes of a stream from a place on. -/
namespace Go.Proofs.YtbmjlofehbbkbaaDoor
open Go.RowKit Go.Shelf
attribute [local go_sem] Oper.semAt_some

theorem iter_stops (n : Nat) (hn : 1 ≤ n) (gs ge gb gn gk s nn : Nat) (e : Int) (key : List Nat) (hk : Blk key) (hnn : nn < 18446744073709551616) (hs : s < 4611686018427387904) (he : e < 4611686018427387904) (w : World)
    (hS : Arr w gs 3 [.int .i64 (s : Int)]) (hM : ItM w ge gb gn gk e nn key) (N : Nat) (hNe : N = (e - (s : Int)).toNat) :
    SeqStopsK Fence.wide n Tryd.prog 82 #[.pointer (some ⟨gs, 0, none⟩), .pointer (some ⟨ge, 0, none⟩), .pointer (some ⟨gb, 0, none⟩)] (fun x : Nat => #[Value.int .i64 ((x : Nat) : Int), .agg (u8s (hbF key nn x)).toArray]) (Keeps [ge, gb, gn, gk])
      (fun ys => ys = numsF s N) (fun pre => ∃ k, k ≤ N ∧ pre = numsF s k) N w := fun l J Jx W hW hJ _ hY h0 =>
  iter_in n hn l gs ge gb gn gk s nn e key (hbF key nn) N hNe hs he
    (fun i v hi hv => block_any key gn gk nn i v hk hnn (by omega) hv.out.n hv.out.k) J Jx (fun pre A A' h hg => hJ pre A A' none h hg (fun r e => by cases e)) hY W (hS.kept hW) (hM.below hW) h0

theorem Arr.own {β : Type} (g : Nat) (t : TypeId) (vs : β → List Value) : Own (fun s W => Arr W g t (vs s)) := fun s X Y row hs hg hrow =>
  hs.keptR hg (fun e => by obtain ⟨o, ho, hc⟩ := hrow g e; rw [show X.heap[g]? = _ from hs] at ho; cases ho; cases hc)

theorem exec_slice16 {o : Oper} {a : Act} {w : World} (x y z : Operand) (ho : o.op = .slice 22 x (some y) (some z) none) (g s m k d : Nat) (hx : a.eval x = .pointer (some ⟨g, 0, none⟩)) (hy : a.eval y = .int .i64 (s : Int)) (hz : a.eval z = .int .i64 (m : Int)) (h1 : m = s + k) (h2 : m ≤ 16) (h3 : s < 16) (hd : d = 16 - s) :
    (execOp a.eval o).run Tryd.prog w = .ok (.value (.slice (some ⟨g, s, none⟩) k d)) w := by
  have hl : Tryd.prog.arrayLen 22 = 16 := by simp [Program.arrayLen, Tryd.underlying22]
  have he : Tryd.prog.elem 22 = 5 := by simp [Program.elem, Tryd.underlying22]
  have ht : Tryd.prog.underlying 22 = some (.array (Tryd.prog.arrayLen 22) (Tryd.prog.elem 22)) := by rw [hl, he]; exact Tryd.underlying22
  have hr := run_sliceAt_array_lh (P := Tryd.prog) w 22 ⟨g, 0, none⟩ ht .i64 .i64 (s : Int) (m : Int) (by omega) (by omega) (by rw [hl]; omega)
  rw [he, size5] at hr
  have hne : ¬ (16 : Nat) = s := by omega
  subst hd
  have e1 : m - s = k := by omega
  simp only [Result.andThen, slicedAt, hl, Int.toNat_natCast, if_neg hne, Addr.add_mid, Nat.zero_add, Nat.mul_one, e1] at hr
  simp [execOp, ho, hx, hy, hz, hr, Result.andThen]

/-- what lies in memory while a stream's bytes are made: the boxes of n and of the row; the maker's two -/
structure StCs (w wr : World) (gl gn gk nn n : Nat) (key : List Nat) (v : Value) (xs : List Nat) : Prop where
  l : Boxed wr gl 42 v
  o : wr.ownsRow w.heap.size 5 1 v xs.length (u8s xs)
  n : Boxed wr w.heap.size 3 (.int .i64 (n : Int))
  bl : Below w.heap.size w wr
  an : Arr wr gn 26 [.int .u64 (nn : Int)]
  ak : Arr wr gk 22 (u8s key)
theorem own_val {w : World} {B : Nat} {e : TypeId} {v : Value} {n : Nat} {xs : List Value} (h : w.ownsRow B e 1 v n xs) : ∃ p c, v = .slice p n c := by
  rcases h.2 with ⟨rfl, rfl⟩ | ⟨g, cap, cur, rfl, _⟩
  · exact ⟨none, 0, rfl⟩
  · exact ⟨_, cap, rfl⟩
theorem app_keeps {W w1 : World} {B : Nat} {e : TypeId} {v : Value} {k : Nat} {xs : List Value} (hr : W.ownsRow B e 1 v k xs) (hg : W.grownBy w1 v.ownBlock) : KeepsOthers W w1 := KeepsOthers.of_grownBy hg fun j o ej hj => by
  rcases hr.2 with ⟨rfl, _⟩ | ⟨g, cap, cur, rfl, _, hgb, _⟩
  · simp [Value.ownBlock] at ej
  · obtain rfl : g = j := by simpa [Value.ownBlock] using ej
    rw [hgb] at hj; cases hj; rfl

/-- .. between two rounds -/
structure StI (w W : World) (gl g2 n gn gk e nn m : Nat) (key row : List Nat) (s : Nat) : Prop where
  l : ∃ v, Boxed W gl 42 v ∧ W.ownsRow w.heap.size 5 1 v row.length (u8s row) ∧ True
  s : Boxed W g2 3 (.int .i64 (s : Int))
  n : Boxed W w.heap.size 3 (.int .i64 (n : Int))
  bl : Below w.heap.size w W
  it : ItM W (g2 + 1 + 1 + 1) (g2 + 1) gn gk (e : Int) nn key
  sz : m ≤ W.heap.size
theorem StI.own {w : World} {gl g2 n gn gk e nn m B : Nat} {key : List Nat} (hB : w.heap.size ≤ B) (O : List Nat → List Nat × Nat) : OwnFrom B (fun (pre : List Nat) W => StI w W gl g2 n gn gk e nn m key (O pre).1 (O pre).2) := fun pre X Y row hs hg hr => by
  have hr' : ∀ r, row = some r → ∃ o : Obj, X.heap[r]? = some o ∧ o.isCells = false := fun r e => (hr r e).2
  refine ⟨holdsRow_own w.heap.size gl 42 5 1 (fun pre => (O pre).1.length) (fun pre => u8s (O pre).1) (fun _ _ => True) pre X Y row hs.l hg hr', boxed_own g2 3 (fun (_ : Unit) => .int .i64 ((O pre).2 : Int)) () X Y row hs.s hg hr',
    boxed_own w.heap.size 3 (fun (_ : Unit) => .int .i64 (n : Int)) () X Y row hs.n hg hr', ownFrom_below (β := Unit) (Nat.le_refl _) hB () X Y row hs.bl hg hr,
    ⟨Arr.own _ _ (fun (_ : Unit) => _) () X Y row hs.it.e hg hr', Arr.own _ _ (fun (_ : Unit) => _) () X Y row hs.it.b hg hr', Arr.own _ _ (fun (_ : Unit) => _) () X Y row hs.it.n hg hr', Arr.own _ _ (fun (_ : Unit) => _) () X Y row hs.it.k hg hr'⟩, Nat.le_trans hs.sz hg.size⟩
theorem StI.alloc {w W : World} {gl g2 n gn gk e nn m : Nat} {key row : List Nat} {s : Nat} (r : StI w W gl g2 n gn gk e nn m key row s) (o : Obj) : StI w (W.alloc o) gl g2 n gn gk e nn m key row s := by
  obtain ⟨v, h1, h2, h3⟩ := r.l
  exact ⟨⟨v, h1.alloc _, h2.alloc _, h3⟩, r.s.alloc _, r.n.alloc _, r.bl.alloc r.bl.size _, r.it.below ((Below.refl _ _).alloc (Nat.le_refl _) _), Nat.le_trans r.sz (by simp)⟩
/-- a row is none of the blocks that the iterator reads -/
theorem ItM.not_row {W w1 : World} {ge gb gn gk : Nat} {e : Int} {nn : Nat} {key : List Nat} (r : ItM W ge gb gn gk e nn key) {B k : Nat} {v : Value} {xs : List Value} (hr : W.ownsRow B 5 1 v k xs) (hg : W.grownBy w1 v.ownBlock) : Keeps [ge, gb, gn, gk] W w1 := by
  intro i hi
  simp at hi
  rcases hi with rfl | rfl | rfl | rfl
  · exact hg.block _ r.e.lt (fun e => own_ne_arr hr r.e (by decide) e.symm)
  · exact hg.block _ r.b.lt (fun e => own_ne_arr hr r.b (by decide) e.symm)
  · exact hg.block _ r.n.lt (fun e => own_ne_arr hr r.n (by decide) e.symm)
  · exact hg.block _ r.k.lt (fun e => own_ne_arr hr r.k (by decide) e.symm)
theorem Keeps.set {ks : List Nat} {W : World} {g j : Nat} {v : Value} (h : g ∉ ks) : Keeps ks W (W.setCell ⟨g, j, none⟩ v) := fun k hk => Below.heap_setCell _ _ _ k (fun e => h (by simpa [e] using hk))
theorem bx_drew {w : World} {g : Nat} {t : TypeId} {v : Value} (h : Boxed w g t v) : Boxed w.drew g t v := h
theorem StCs.drew {w wr : World} {gl gn gk nn n : Nat} {key : List Nat} {v : Value} {xs : List Nat} (r : StCs w wr gl gn gk nn n key v xs) : StCs w wr.drew gl gn gk nn n key v xs := ⟨r.l, r.o.kept (grown_drew (grown_refl _ none)) (by by_cases h : v.ownBlock = none; exact Or.inl h; exact Or.inr h), r.n, r.bl.drew, r.an, r.ak⟩
theorem StCs.alloc {w wr : World} {gl gn gk nn n : Nat} {key : List Nat} {v : Value} {xs : List Nat} (r : StCs w wr gl gn gk nn n key v xs) (o : Obj) : StCs w (wr.alloc o) gl gn gk nn n key v xs := ⟨r.l.alloc _, r.o.alloc _, r.n.alloc _, r.bl.alloc r.bl.size _, r.an.alloc _, r.ak.alloc _⟩

set_option maxHeartbeats 8000000 in
set_option maxRecDepth 100000 in
theorem stream_of (key : List Nat) (gn gk nn f n s0 q e0 N : Nat) (w : World) (hk : Blk key) (hnn : nn < 18446744073709551616) (hN : Arr w gn 26 [.int .u64 (nn : Int)]) (hK : Arr w gk 22 (u8s key)) (hf : f ≤ 1099511627776) (hn : n ≤ 1048576)
    (hs0 : s0 = f % 16) (hq : q = f / 16) (he0 : e0 = (f + n + 15) / 16) (hNN : N = e0 - q) (T : List Nat) (hTl : T.length = n) (hT : (outS n (hbF key nn) s0 (numsF q N)).1 = T) :
    Calls Tryd.prog 54 #[.func (.func 55) #[] #[.pointer (some ⟨gn, 0, none⟩), .pointer (some ⟨gk, 0, none⟩)], .int .i64 (f : Int), .int .i64 (n : Int)] w fun r w' => ∃ v, r = .returned v ∧ w'.ownsRow w.heap.size 5 1 v n (u8s T) ∧ Below w.heap.size w w' := by
  obtain ⟨i0, hi, hz0, hz1, hz2⟩ := info_parts infoU8
  have hgn := hN.lt
  have hgk := hK.lt
  have HN := hide hN
  have HK := hide hK
  have HBK := hide hk
  have HT := hide hT
  have HTL := hide hTl
  have HS := hide hs0
  have HQ := hide hq
  have HE := hide he0
  have HNN := hide hNN
  clear hN hK hk hT hTl
  refine (callsIn_wide (n := 9)).1 (callsIn_of_wp_marks Tryd.func54 rfl trivial ?_ rfl)
  simp only [Tryd.ntmps54, List.size_toArray, List.length_cons, List.length_nil, Nat.reduceAdd, Nat.reduceSub, Array.replicate_succ, Array.replicate_zero, List.push_toArray, List.append_toArray, List.nil_append, List.cons_append]
  refine wpIn_wide.2 ?_
  have i1 : Int.tdiv (f : Int) 16 = (q : Int) := by rw [Int.tdiv_eq_ediv_of_nonneg (by omega)]; omega
  have i2 : Int.tmod (f : Int) 16 = (s0 : Int) := by rw [Int.tmod_eq_emod_of_nonneg (by omega)]; omega
  have i3 : Int.tdiv ((f : Int) + (n : Int) + 16 - 1) 16 = (e0 : Int) := by rw [Int.tdiv_eq_ediv_of_nonneg (by omega)]; omega
  clear hs0 hq he0 hNN
  go_upto_region 2 with (at_make; refine wpList_make_own _ rfl _ _ 42 rfl w.heap.size 5 i0 (.int .u8 0) 1 Tryd.underlying42 hi hz0 hz1 .i64 .i64 _ n rfl rfl rfl (by rw [hz2]; omega) (by unfold maxLen; omega) (by simp) ?_)
  intro wa how hga
  have B0 : Below w.heap.size w (w.alloc (Obj.cells #[Value.int IntKind.i64 (n : Int)] 3)) := (Below.refl _ _).alloc (Nat.le_refl _) _
  have Ba : Below w.heap.size w wa := B0.trans (grown_below hga (by simp) (fun k e => by cases e))
  have Na : Boxed wa w.heap.size 3 (.int .i64 (n : Int)) := (Boxed.new w _ _).kept hga (by simp)
  have HA : Hid (wa.ownsRow w.heap.size 5 1 (.slice (some ⟨w.heap.size + 1, 0, none⟩) 0 n) 0 (u8s []) ∧ Boxed wa w.heap.size 3 (.int .i64 (n : Int)) ∧ Below w.heap.size w wa ∧ Arr wa gn 26 [.int .u64 (nn : Int)] ∧ Arr wa gk 22 (u8s key)) := ⟨how, Na, Ba, HN.out.kept Ba, HK.out.kept Ba⟩
  have lnL : w.heap.size < wa.heap.size := Na.lt
  clear how hga B0 Ba Na
  go_upto_region 2 with fail
  have H1 : Hid (StCs w (wa.alloc (Obj.cells #[Value.slice (some ⟨w.heap.size + 1, 0, none⟩) 0 n] 42)) wa.heap.size gn gk nn n key (.slice (some ⟨w.heap.size + 1, 0, none⟩) 0 n) []) :=
    ⟨Boxed.new wa _ _, HA.out.1.alloc _, HA.out.2.1.alloc _, HA.out.2.2.1.alloc HA.out.2.2.1.size _, HA.out.2.2.2.1.alloc _, HA.out.2.2.2.2.alloc _⟩
  clear HA
  generalize wa.alloc (Obj.cells #[Value.slice (some ⟨w.heap.size + 1, 0, none⟩) 0 n] 42) = w1 at *
  generalize wa.heap.size = gl at *
  have cn := H1.out.n.cell
  go_region
  have H2 := hide H1.out.drew
  clear H1 cn
  generalize w1.drew = w2 at *
  have wq : wrap64 (q : Int) = (q : Int) := by have := HQ.out; unfold wrap64; omega
  have we : wrap64 (e0 : Int) = (e0 : Int) := by have := HE.out; unfold wrap64; omega
  go_wp2_with fail
  clear i1 i2 i3
  have H3 := hide (H2.out.alloc (Obj.cells #[.int .i64 (s0 : Int)] 3))
  have B3 := hide (Boxed.new w2 3 (.int .i64 (s0 : Int)))
  have hl2 : gl < w2.heap.size := H2.out.l.lt
  have hgb : (w2.alloc (Obj.cells #[.int .i64 (s0 : Int)] 3)).heap.size = w2.heap.size + 1 := by simp
  clear H2
  generalize w2.alloc (Obj.cells #[.int .i64 (s0 : Int)] 3) = w3 at *
  refine (blocks_any _ _ _ _ _ w3).mono ?_
  rintro r w4 ⟨rfl, hw4⟩
  have H4 : Hid (StCs w w4 gl gn gk nn n key (.slice (some ⟨w.heap.size + 1, 0, none⟩) 0 n) []) := by rw [hw4]; exact ((H3.out.alloc _).alloc _).alloc _
  have B4 : Hid (Boxed w4 w2.heap.size 3 (.int .i64 (s0 : Int))) := by rw [hw4]; exact ((B3.out.alloc _).alloc _).alloc _
  have hsz4 : w4.heap.size = w3.heap.size + 3 := by rw [hw4]; simp
  have F4 : Hid (Arr w4 (w3.heap.size + 1) 3 [.int .i64 (q : Int)] ∧ ItM w4 (w3.heap.size + 1 + 1) w3.heap.size gn gk (e0 : Int) nn key) := by
    refine ⟨?_, ?_, ?_, H4.out.an, H4.out.ak⟩
    · rw [hw4]; exact (Arr.newAt (w3.alloc _) _ [.int .i64 (q : Int)] _ (by simp)).alloc _
    · rw [hw4]; exact Arr.newAt ((w3.alloc _).alloc _) _ [.int .i64 (e0 : Int)] _ (by simp)
    · rw [hw4]; exact ((Arr.new w3 _ [_]).alloc _).alloc _
  clear hw4 H3 B3 wq we
  generalize w3.heap.size = gb at *
  generalize w2.heap.size = g2 at *
  go_wp2_with fail
  subst hgb
  have HIT := hide (iter_stops 8 (by omega) (g2 + 1 + 1) (g2 + 1 + 1 + 1) (g2 + 1) gn gk q nn (e0 : Int) key HBK.out hnn (by have := HQ.out; omega) (by have := HE.out; omega) w4 F4.out.1 F4.out.2 N (by have := HNN.out; omega))
  have HBL := hide (fun i => hbF_blk HBK.out nn i)
  have hs16 : s0 < 16 := by have := HS.out; omega
  have HOK := hide (fun xs => outS_ok (n := n) (s0 := s0) (fun i => (HBL.out i).len) hs16 xs)
  have HO1 := hide (fun xs x => outS_snoc n (hbF key nn) s0 xs x)
  have HO0 : Hid (outS n (hbF key nn) s0 [] = ([], s0)) := rfl
  generalize outS n (hbF key nn) s0 = O at *
  generalize hbF key nn = Bf at *
  have hlt := F4.out.2.lt
  have I0 : StI w w4 gl g2 n gn gk e0 nn w4.heap.size key (O []).1 (O []).2 := by rw [HO0.out]; exact ⟨⟨_, H4.out.l, H4.out.o, trivial⟩, B4.out, H4.out.n, H4.out.bl, F4.out.2, Nat.le_refl _⟩
  have hw0 : w.heap.size ≤ w4.heap.size := H4.out.bl.size
  clear H4 B4 F4
  refine wpIn_wide.1 (wpIn_rangeFunc_ownH (n := 9) rfl (by omega) (gf := 82) (lb := #[.pointer (some ⟨g2 + 1 + 1, 0, none⟩), .pointer (some ⟨g2 + 1 + 1 + 1, 0, none⟩), .pointer (some ⟨g2 + 1, 0, none⟩)]) rfl trivial (enters_of Tryd.func82 (by kernel_rfl) rfl)
    HIT.out (fun h k => Keeps.trans h k) (Keeps.put hlt) (Below.refl _ _) (fun _ => rfl)
    (fun pre W => StI w W gl g2 n gn gk e0 nn w4.heap.size key (O pre).1 (O pre).2) (fun _ _ _ => False) (StI.own hw0 O)
    (fun _ _ _ _ _ hs _ _ => hs) I0
    (fun x a' W => ∃ Bx, Arr W Bx 22 (u8s (Bf x)) ∧ a' = { tmps := #[Value.func (Fn.func 55) #[] #[Value.pointer (some ⟨gn, 0, none⟩), Value.pointer (some ⟨gk, 0, none⟩)], .int .i64 (f : Int), .int .i64 (n : Int), undef, undef, .pointer (some ⟨w.heap.size, 0, none⟩), .slice none 0 0, .pointer (some ⟨gl, 0, none⟩), .int .i64 (wrap64 (q : Int)), .int .i64 (wrap64 (e0 : Int)), .pointer (some ⟨g2, 0, none⟩), undef, .pointer (some ⟨Bx, 0, none⟩), .int .i64 (n : Int), .slice (some ⟨w.heap.size + 1, 0, none⟩) 0 n, .int .i64 (f : Int), .int .i64 (wrap64 (q : Int)), .int .i64 (f : Int), .int .i64 (n : Int), .int .i64 ((f : Int) + (n : Int)), .int .i64 ((f : Int) + (n : Int) + 16), .int .i64 ((f : Int) + (n : Int) + 16 - 1), .int .i64 (wrap64 (e0 : Int)), .int .i64 (f : Int), .int .i64 (s0 : Int), Value.func (Fn.func 55) #[] #[Value.pointer (some ⟨gn, 0, none⟩), Value.pointer (some ⟨gk, 0, none⟩)], .int .i64 (wrap64 (q : Int)), .int .i64 (wrap64 (e0 : Int)), Value.func (Fn.func 82) #[] #[Value.pointer (some ⟨g2 + 1 + 1, 0, none⟩), Value.pointer (some ⟨g2 + 1 + 1 + 1, 0, none⟩), Value.pointer (some ⟨g2 + 1, 0, none⟩)], .int .i64 ((x : Nat) : Int), .agg (u8s (Bf x)).toArray, undef, undef, undef, undef, undef, undef, undef, undef, undef, undef, undef, undef], defers := [] })
    (fun x a' _ X Y row hs hg hr => by obtain ⟨Bx, h2, h3⟩ := hs; exact ⟨Bx, Arr.own Bx 22 (fun (_ : Unit) => u8s (Bf x)) () X Y row h2 hg (fun r e => (hr r e).2), h3⟩)
    ?assign ?body ?done ?stop)
  case assign =>
    rintro l pre x W K hI hK
    refine region_list (by kernel_rfl) (fun ⟨_, _, h⟩ => h) ?_
    go_wp2_with (refine wpList_store_row rfl 22 _ _ rfl W.heap.size (u8s (Bf x)).toArray rfl rfl 22 _ (Arr.new W _ (u8s z16)) (szb (HBL.out x)) (old16 (HBL.out x).len) (one_u8s _) ?_)
    rw [World.setRow_alloc_new]
    exact hK _ _ ((KeepsOthers.alloc _ _).from _) (Keeps.of_below ((Below.refl _ W).alloc (Nat.le_refl _) _) (fun k hk => Nat.lt_of_lt_of_le (hlt k hk) hI.sz)) (hI.alloc _) ⟨W.heap.size, Arr.new W _ _, rfl⟩
  case body =>
    rintro l pre x a' W hl _ hI ⟨Bx, hX, ha⟩ hlen
    dsimp only at ha
    subst ha
    obtain ⟨⟨v, hv, hown, _⟩, hsk, hnb, hB, hit, hm⟩ := hI
    obtain ⟨p, c, rfl⟩ := own_val hown
    obtain ⟨ok1, ok2, ok3⟩ := HOK.out pre
    have HN1 := hide (HO1.out pre x)
    have HBX := HBL.out x
    obtain ⟨O', hO'⟩ : ∃ y, y = O (pre ++ [x]) := ⟨_, rfl⟩
    rw [← hO'] at HN1
    have HOE := hide hO'
    clear hO'
    generalize O pre = Op at *
    obtain ⟨row, sk⟩ := Op
    simp only at hv hown hsk ok1 ok2 ok3
    obtain ⟨L, hL⟩ : ∃ L, L = row.length := ⟨_, rfl⟩
    rw [← hL] at hv hown ok1 ok3
    obtain ⟨m, hme⟩ : ∃ m, m = min 16 (sk + n - L) := ⟨_, rfl⟩
    rw [← hme] at ok3
    obtain ⟨k, hk⟩ : ∃ k, k = m - sk := ⟨_, rfl⟩
    obtain ⟨d, hd⟩ : ∃ d, d = 16 - sk := ⟨_, rfl⟩
    have q1 : m = sk + k := by omega
    have q2 : m ≤ 16 := by omega
    have HMin : Hid ((if ((sk : Int) + (n : Int) - (L : Int)) < 16 then ((sk : Int) + (n : Int) - (L : Int)) else 16) = (m : Int)) := by show _ = _; split <;> omega
    obtain ⟨ys, hys⟩ : ∃ ys, ys = ((Bf x).take m).drop sk := ⟨_, rfl⟩
    have yl : ys.length = k := by rw [hys, List.length_drop, List.length_take, HBX.len]; omega
    have HYS : Hid (BI W.drew (some ⟨Bx, sk, none⟩) ys) := by
      refine Or.inr ⟨Bx, sk, rfl, fun i hi => ?_⟩
      have hc := (hX.cell (sk + i)).trans (u8s_at (by rw [HBX.len]; omega))
      refine Eq.trans hc ?_
      congr 3
      rw [hys, drop_take_is _ HBX.len _ _ ok3 q2, range_at, if_pos (by omega)]
    have HE1 : Hid (O' = (row ++ ys, 0)) := by show _ = _; rw [HN1.out, rnF, hys]; simp only; rw [← hL, ← hme]
    have HV := hide hv
    have HW := hide (show W.drew.ownsRow w.heap.size 5 1 (.slice p L c) L (u8s row) from hown)
    have HS2 := hide hsk
    have HNB := hide hnb
    have HIT2 := hide hit
    have HBW := hide hB
    have HQ3 := hide hm
    have HLR := hide hL
    have hgg : gl ≠ g2 := by omega
    have wa1 : IntKind.i64.wrap ((sk : Int) + (n : Int)) = (sk : Int) + (n : Int) := by rw [IntKind.wrap_i64]; omega
    have wa2 : IntKind.i64.wrap ((sk : Int) + (n : Int) - (L : Int)) = (sk : Int) + (n : Int) - (L : Int) := by rw [IntKind.wrap_i64]; omega
    clear HN1 hys hv hown hsk hnb hB hit hm hX hL hk hme HOK HO1 HBX
    gi_step
    gi_step
    gi_step
    refine region_late (S := fun v => Hid (Boxed v gl 42 (.slice p L c) ∧ Boxed v g2 3 (.int .i64 (sk : Int)) ∧ Boxed v w.heap.size 3 (.int .i64 (n : Int)))) [11] (by kernel_rfl) (by kernel_rfl) (by rintro ⟨_, _, h⟩; exact h) (hide ⟨(bx_drew HV.out), (bx_drew HS2.out), (bx_drew HNB.out)⟩) (fun hHeld => ?_)
    refine take_dstT (i := 0) (d := 31) (v := ?_) rfl rfl (by kernel_rfl) (by kernel_rfl) (by kernel_rfl) (by kernel_rfl) (fun _ _ _ h => h) (by rfl) hHeld ?_ ?_
    rotate_left
    · intro wZ hSw; have hfS := (fun (v : World) (h : Hid (Boxed v gl 42 (.slice p L c) ∧ Boxed v g2 3 (.int .i64 (sk : Int)) ∧ Boxed v w.heap.size 3 (.int .i64 (n : Int)))) => h.out.1.cell) wZ hSw; clear hSw; go_simp; first | (with_reducible rfl) | (rw [if_pos (by omega)]; with_reducible rfl) | skip
    try simp only [Act.put, List.setIfInBounds_toArray, List.set_cons_zero, List.set_cons_succ]
    refine take_dstT (i := 1) (d := 32) (v := ?_) rfl rfl (by kernel_rfl) (by kernel_rfl) (by kernel_rfl) (by kernel_rfl) (fun _ _ _ h => h) (by rfl) hHeld ?_ ?_
    rotate_left
    · intro wZ hSw; have hfS := (fun (v : World) (h : Hid (Boxed v gl 42 (.slice p L c) ∧ Boxed v g2 3 (.int .i64 (sk : Int)) ∧ Boxed v w.heap.size 3 (.int .i64 (n : Int)))) => h.out.2.1.cell) wZ hSw; clear hSw; go_simp; first | (with_reducible rfl) | (rw [if_pos (by omega)]; with_reducible rfl) | skip
    try simp only [Act.put, List.setIfInBounds_toArray, List.set_cons_zero, List.set_cons_succ]
    refine take_dstT (i := 2) (d := 33) (v := ?_) rfl rfl (by kernel_rfl) (by kernel_rfl) (by kernel_rfl) (by kernel_rfl) (fun _ _ _ h => h) (by rfl) hHeld ?_ ?_
    rotate_left
    · intro wZ hSw; have hfS := (fun (v : World) (h : Hid (Boxed v gl 42 (.slice p L c) ∧ Boxed v g2 3 (.int .i64 (sk : Int)) ∧ Boxed v w.heap.size 3 (.int .i64 (n : Int)))) => h.out.2.1.cell) wZ hSw; clear hSw; go_simp; first | (with_reducible rfl) | (rw [if_pos (by omega)]; with_reducible rfl) | skip
    try simp only [Act.put, List.setIfInBounds_toArray, List.set_cons_zero, List.set_cons_succ]
    refine take_dstT (i := 3) (d := 34) (v := ?_) rfl rfl (by kernel_rfl) (by kernel_rfl) (by kernel_rfl) (by kernel_rfl) (fun _ _ _ h => h) (by rfl) hHeld ?_ ?_
    rotate_left
    · intro wZ hSw; have hfS := (fun (v : World) (h : Hid (Boxed v gl 42 (.slice p L c) ∧ Boxed v g2 3 (.int .i64 (sk : Int)) ∧ Boxed v w.heap.size 3 (.int .i64 (n : Int)))) => h.out.2.2.cell) wZ hSw; clear hSw; go_simp; first | (with_reducible rfl) | (rw [if_pos (by omega)]; with_reducible rfl) | skip
    try simp only [Act.put, List.setIfInBounds_toArray, List.set_cons_zero, List.set_cons_succ]
    refine take_dstT (i := 4) (d := 35) (v := ?_) rfl rfl (by kernel_rfl) (by kernel_rfl) (by kernel_rfl) (by kernel_rfl) (fun _ _ _ h => h) (by rfl) hHeld ?_ ?_
    rotate_left
    · intro wZ hSw; clear hSw; go_simp; first | (with_reducible rfl) | (rw [if_pos (by omega)]; with_reducible rfl) | skip
    try simp only [Act.put, List.setIfInBounds_toArray, List.set_cons_zero, List.set_cons_succ]
    refine take_dstT (i := 5) (d := 36) (v := ?_) rfl rfl (by kernel_rfl) (by kernel_rfl) (by kernel_rfl) (by kernel_rfl) (fun _ _ _ h => h) (by rfl) hHeld ?_ ?_
    rotate_left
    · intro wZ hSw; have hfS := (fun (v : World) (h : Hid (Boxed v gl 42 (.slice p L c) ∧ Boxed v g2 3 (.int .i64 (sk : Int)) ∧ Boxed v w.heap.size 3 (.int .i64 (n : Int)))) => h.out.1.cell) wZ hSw; clear hSw; go_simp; first | (with_reducible rfl) | (rw [if_pos (by omega)]; with_reducible rfl) | skip
    try simp only [Act.put, List.setIfInBounds_toArray, List.set_cons_zero, List.set_cons_succ]
    refine take_dstT (i := 6) (d := 37) (v := ?_) rfl rfl (by kernel_rfl) (by kernel_rfl) (by kernel_rfl) (by kernel_rfl) (fun _ _ _ h => h) (by rfl) hHeld ?_ ?_
    rotate_left
    · intro wZ hSw; clear hSw; go_simp; first | (with_reducible rfl) | (rw [if_pos (by omega)]; with_reducible rfl) | skip
    try simp only [Act.put, List.setIfInBounds_toArray, List.set_cons_zero, List.set_cons_succ]
    refine take_dstT (i := 7) (d := 38) (v := ?_) rfl rfl (by kernel_rfl) (by kernel_rfl) (by kernel_rfl) (by kernel_rfl) (fun _ _ _ h => h) (by rfl) hHeld ?_ ?_
    rotate_left
    · intro wZ hSw; clear hSw; go_simp; first | (with_reducible rfl) | (rw [if_pos (by omega)]; with_reducible rfl) | skip
    try simp only [Act.put, List.setIfInBounds_toArray, List.set_cons_zero, List.set_cons_succ]
    refine take_dstT (i := 8) (d := 39) (v := ?_) rfl rfl (by kernel_rfl) (by kernel_rfl) (by kernel_rfl) (by kernel_rfl) (fun _ _ _ h => h) (by rfl) hHeld ?_ ?_
    rotate_left
    · intro wZ hSw; refine exec_min (.const (.int .i64 16)) (.tmp 38) #[3, 3] ?_ .i64 16 ((sk : Int) + (n : Int) - (L : Int)) (m : Int) ?_ ?_ HMin.out <;> rfl
    try simp only [Act.put, List.setIfInBounds_toArray, List.set_cons_zero, List.set_cons_succ]
    refine take_dstT (i := 9) (d := 40) (v := ?_) rfl rfl (by kernel_rfl) (by kernel_rfl) (by kernel_rfl) (by kernel_rfl) (fun _ _ _ h => h) (by rfl) hHeld ?_ ?_
    rotate_left
    · intro wZ hSw; refine exec_slice16 (.tmp 12) (.tmp 32) (.tmp 39) ?_ Bx sk m k d ?_ ?_ ?_ q1 q2 ok2 hd <;> rfl
    try simp only [Act.put, List.setIfInBounds_toArray, List.set_cons_zero, List.set_cons_succ]
    refine wpAnyT_ready (rs := [10]) (by kernel_rfl) (by simp) ?_
    refine (AllReadyT.cons rfl (fun K hK => ?_) AllReadyT.nil)
    refine wp_append_bytes_dst rfl (.tmp 31) (.tmp 40) rfl w.heap.size (.slice p L c) row rfl L HLR.out.symm HW.out (some ⟨Bx, sk, none⟩) k d ys yl rfl HYS.out (fun e => by cases e) (by omega) (Nat.le_trans hw0 HQ3.out) ?_; intro v' w' hown' hgrow; obtain ⟨p', c', rfl⟩ := own_val hown'; have HO := hide hown'; have HG := hide hgrow; clear hown' hgrow; have HK3 : Hid (Boxed w' gl 42 (.slice p L c) ∧ Boxed w' g2 3 (.int .i64 (sk : Int)) ∧ Boxed w' w.heap.size 3 (.int .i64 (n : Int))) := hide ⟨(bx_drew HV.out).kept HG.out ((bx_drew HV.out).not_row (by decide) HW.out), (bx_drew HS2.out).kept HG.out ((bx_drew HS2.out).not_row (by decide) HW.out), (bx_drew HNB.out).kept HG.out ((bx_drew HNB.out).not_row (by decide) HW.out)⟩; have c0 := HK3.out.1.cell; have f0 := HK3.out.1.frozen
    refine hK.out _ _ ?_ (fun hHeld => ?_)
    · exact HK3
    clear hK K
    try simp only [Act.put, List.setIfInBounds_toArray, List.set_cons_zero, List.set_cons_succ]
    refine wpAnyT_ready (rs := [11]) (by kernel_rfl) (by simp) ?_
    refine (AllReadyT.last rfl (by decide) (fun K hK => ?_) AllReadyT.nil)
    go_simp
    refine hK.out _ _ ?_
    clear hK K
    try simp only [Act.put, List.setIfInBounds_toArray, List.set_cons_zero, List.set_cons_succ]
    refine wpAnyT_done (by kernel_rfl) ?_ _
    have b2 := HK3.out.2.1.other (B' := gl) (fun e => hgg e.symm) (.slice p' (L + k) c')
    have c1 := b2.cell
    have f1 := b2.frozen
    have o3 : (w'.setCell ⟨gl, 0, none⟩ (.slice p' (L + k) c')).ownsRow w.heap.size 5 1 (.slice p' (L + k) c') (L + k) (u8s (row ++ ys)) := HO.out.kept (grownBy_setCell' w' gl _) (.inr (HK3.out.1.not_row (by decide) HO.out).symm)
    have o4 : ((w'.setCell ⟨gl, 0, none⟩ (.slice p' (L + k) c')).setCell ⟨g2, 0, none⟩ (.int .i64 0)).ownsRow w.heap.size 5 1 (.slice p' (L + k) c') (L + k) (u8s (row ++ ys)) := o3.kept (grownBy_setCell' _ g2 _) (.inr (b2.not_row (by decide) o3).symm)
    have HP : Hid (KeepsFrom w4.heap.size W ((w'.setCell ⟨gl, 0, none⟩ (.slice p' (L + k) c')).setCell ⟨g2, 0, none⟩ (.int .i64 0)) ∧ Keeps [g2 + 1 + 1 + 1, g2 + 1, gn, gk] W ((w'.setCell ⟨gl, 0, none⟩ (.slice p' (L + k) c')).setCell ⟨g2, 0, none⟩ (.int .i64 0)) ∧ StI w ((w'.setCell ⟨gl, 0, none⟩ (.slice p' (L + k) c')).setCell ⟨g2, 0, none⟩ (.int .i64 0)) gl g2 n gn gk e0 nn w4.heap.size key O'.1 O'.2) := by
      have hit : ItM W.drew (g2 + 1 + 1 + 1) (g2 + 1) gn gk (e0 : Int) nn key := ⟨HIT2.out.e, HIT2.out.b, HIT2.out.n, HIT2.out.k⟩
      have k1 : Keeps [g2 + 1 + 1 + 1, g2 + 1, gn, gk] W.drew w' := hit.not_row HW.out HG.out
      have k2 : Keeps [g2 + 1 + 1 + 1, g2 + 1, gn, gk] W ((w'.setCell ⟨gl, 0, none⟩ (.slice p' (L + k) c')).setCell ⟨g2, 0, none⟩ (.int .i64 0)) :=
        (Keeps.trans (show Keeps _ W w' from k1) (Keeps.set (by simp; omega))).trans (Keeps.set (by simp; omega))
      have kf : KeepsOthers W ((w'.setCell ⟨gl, 0, none⟩ (.slice p' (L + k) c')).setCell ⟨g2, 0, none⟩ (.int .i64 0)) :=
        (KeepsOthers.trans (show KeepsOthers W w' from ⟨(app_keeps HW.out HG.out).size, (app_keeps HW.out HG.out).same⟩) (KeepsOthers.setCell _ _ _)).trans (KeepsOthers.setCell _ _ _)
      have hlen2 : (row ++ ys).length = L + k := by rw [List.length_append, yl, HLR.out]
      refine ⟨kf.from _, k2, ?_⟩
      rw [HE1.out]
      refine ⟨⟨_, (HK3.out.1.set _).other hgg _, by rw [hlen2]; exact o4, trivial⟩, b2.set _, (HK3.out.2.2.other (by omega) _).other (by omega) _, ?_, HIT2.out.kept k2, ?_⟩
      · have b1 : Below w.heap.size w w' := HBW.out.drew.grown HG.out HBW.out.drew.size (fun j e => (HW.out.lt j e).1)
        exact (b1.setCell (show w.heap.size ≤ gl by omega) _).setCell (show w.heap.size ≤ g2 by omega) _
      · exact Nat.le_trans HQ3.out kf.size
    clear o3 o4 b2 HE1 HYS HV HW HS2 HNB HIT2 HBW HLR HO HG HK3 wa1 wa2 HMin c0 f0
    gi_wp2
    have h := HP.out
    rw [HOE.out] at h
    exact h
  case done =>
    rintro D xs W hD hxs hI hKD
    subst hxs
    obtain ⟨⟨v, hv, hown, _⟩, hsk, hnb, hB, hit, hm⟩ := hI
    rw [HT.out] at hown
    rw [HTL.out] at hown
    obtain ⟨p, c, rfl⟩ := own_val hown
    have cv := hv.cell
    have HOW := hide hown
    have HBB := hide hB
    have hsz := hB.size
    clear hv hown hsk hnb hB hit hm HT HTL I0 HOK HO0 HO1 HBL HIT hlt
    go_wp2
    refine ⟨by simp, .inl ⟨_, _, rfl, run_takeDeferred hKD, ?_⟩⟩
    exact ⟨_, results_tmp rfl _ _ _, _, rfl, ownsRow_putObj HOW.out _ hKD rfl, HBB.out.trans (belowK_b (w := w) (Nat.le_refl _) W D _ _ (by omega) hKD rfl rfl)⟩
  case stop => 
    rintro D c pre W _ _ h _
    exact h.elim

theorem stream_any (key : List Nat) (gn gk nn f n : Nat) (w : World) (hk : Blk key) (hnn : nn < 18446744073709551616) (hN : Arr w gn 26 [.int .u64 (nn : Int)]) (hK : Arr w gk 22 (u8s key)) (hf : f ≤ 1099511627776) (hn : n ≤ 1048576) :
    Calls Tryd.prog 54 #[.func (.func 55) #[] #[.pointer (some ⟨gn, 0, none⟩), .pointer (some ⟨gk, 0, none⟩)], .int .i64 (f : Int), .int .i64 (n : Int)] w fun r w' => ∃ v, r = .returned v ∧ w'.ownsRow w.heap.size 5 1 v n (u8s (stF (hbF key nn) f n)) ∧ Below w.heap.size w w' :=
  stream_of key gn gk nn f n (f % 16) (f / 16) ((f + n + 15) / 16) _ w hk hnn hN hK hf hn rfl rfl rfl rfl _ (stF_length _ _ _) (outS_all (fun i => (hbF_blk hk nn i).len) f n)

end Go.Proofs.YtbmjlofehbbkbaaDoor

/- Walks: a text turned, from a place on and from 0 on; a stream's bytes, as far as there are any. -/
namespace Go.Proofs.YtbmjlofehbbkbaaDoor
open Go.RowKit

/-- what lies in memory while a text is turned -/
structure StV (w wr : World) (p : Option Addr) (c : Nat) (xs : List Nat) (v : Value) (n : Nat) (row : List Nat) : Prop where
  t : Piece wr p c xs
  o : wr.ownsRow w.heap.size 5 1 v n (u8s row)
  bl : Below w.heap.size w wr
  f : ∀ a, p = some a → xs ≠ [] → a.block < w.heap.size

theorem piece_lt {w : World} {p : Option Addr} {c : Nat} {xs : List Nat} (h : Piece w p c xs) : ∀ a, p = some a → xs ≠ [] → a.block < w.heap.size := fun a ha hx => by
  rcases h.1 with h0 | ⟨g, o, hp, hc⟩
  · exact (hx h0).elim
  · rw [hp] at ha
    cases ha
    exact block_lt_of_cell (hc 0 (by cases xs with | nil => exact (hx rfl).elim | cons => simp))

theorem Piece.set {w : World} {p : Option Addr} {c : Nat} {xs : List Nat} (h : Piece w p c xs) {g i : Nat} {v : Value} (hg : ∀ a, p = some a → xs ≠ [] → a.block ≠ g) : Piece (w.setCell ⟨g, i, none⟩ v) p c xs := by
  refine ⟨?_, h.2⟩
  rcases h.1 with h0 | ⟨b, o, hp, hc⟩
  · exact Or.inl h0
  · by_cases hx : xs = []
    · exact Or.inl hx
    · refine Or.inr ⟨b, o, hp, fun j hj => ?_⟩
      have hne : b ≠ g := hg _ hp hx
      rw [World.cell?_of_block (w := w) (Below.heap_setCell _ _ _ b (fun e => hne e))]
      exact hc j hj

set_option maxHeartbeats 4000000 in
set_option maxRecDepth 100000 in
theorem turned_of (gn gq f n : Nat) (p : Option Addr) (c : Nat) (xs S T : List Nat) (w : World) (hx : Piece w p c xs) (hn : xs.length = n) (hn2 : n ≤ 1048576) (Sl : S.length = n) (Tl : T.length = n) (hS : BytesN S) (hT : ∀ i, i < n → S.getD i 0 ^^^ xs.getD i 0 = T.getD i 0)
    (hC : Calls Tryd.prog 54 #[.func (.func 55) #[] #[.pointer (some ⟨gn, 0, none⟩), .pointer (some ⟨gq, 0, none⟩)], .int .i64 (f : Int), .int .i64 (n : Int)] w fun r w' => ∃ v, r = .returned v ∧ w'.ownsRow w.heap.size 5 1 v n (u8s S) ∧ Below w.heap.size w w') :
    Calls Tryd.prog 40 #[.func (.func 55) #[] #[.pointer (some ⟨gn, 0, none⟩), .pointer (some ⟨gq, 0, none⟩)], .int .i64 (f : Int), .slice p n c] w fun r w' => ∃ v, r = .returned v ∧ w'.ownsRow w.heap.size 5 1 v n (u8s T) ∧ Below w.heap.size w w' := by
  have HX := hide hx
  have HN := hide hn
  have SL := hide Sl
  have TL := hide Tl
  have HS := hide hS
  have HT := hide hT
  have HC := hide hC
  clear hx hn Sl Tl hS hT hC
  go_enter Tryd.func40, Tryd.ntmps40
  go_wp2_with fail
  refine HC.out.mono ?_
  rintro r w1 ⟨v, rfl, ho1, hb1⟩
  obtain ⟨q, d, rfl⟩ := own_val ho1
  have H1 : Hid (StV w w1 p c xs (.slice q n d) n (over T S 0)) := ⟨HX.out.kept hb1, by rw [over_zero]; exact ho1, hb1, piece_lt HX.out⟩
  clear ho1 hb1 HC HX
  go_wp2
  go_loopg [8, 9, 17] (n + 1) (fun fu s8 s9 s17 wr => ∃ (i : Nat), s17 = .int .i64 (i : Int) ∧ i ≤ n ∧ n - i < fu ∧ Hid (StV w wr p c xs (.slice q n d) n (over T S i)))
  case atStart => exact ⟨0, rfl, by omega, by omega, H1⟩
  case round =>
    clear H1
    obtain ⟨i, rfl, hi, hf, HR⟩ := hrel
    by_cases hlt : i < n
    · obtain ⟨g, cap, hv, hgw, hgl, hnc, hcm⟩ := own_shape HR.out.o (by omega)
      cases hv
      obtain ⟨b, o, hp, hcell⟩ : ∃ b o, p = some ⟨b, o, none⟩ ∧ Bts wr b o xs := by
        rcases HR.out.t.1 with h0 | h
        · have := HN.out; rw [h0] at this; simp at this; omega
        · exact h
      subst hp
      have cx := hcell i (by rw [HN.out]; exact hlt)
      have hbg : b < w.heap.size := HR.out.f _ rfl (fun e => by have := HN.out; rw [e] at this; simp at this; omega)
      have OL : Hid ((over T S i).length = n) := over_length T S n i TL.out SL.out (Nat.le_of_lt hlt)
      have e1 := over_at T S n i i TL.out SL.out hlt
      rw [if_neg (Nat.lt_irrefl i)] at e1
      have cr := (HR.out.o.cellAt i (by omega)).trans (u8s_at (by rw [OL.out]; exact hlt))
      rw [e1] at cr
      have HO := hide (over_set T S n i TL.out SL.out hlt)
      have ex := hide (HT.out i hlt)
      have hSi := getD_byte HS.out i
      have hXi := getD_byte HR.out.t.2.2.1 i
      have eu := u8_xor_nat (S.getD i 0) (xs.getD i 0) hSi hXi
      rw [ex.out] at eu
      have fr := HR.out.o.frozenAt i
      have hi64 : (i : Int) < (n : Int) := by omega
      have HRO := hide HR.out.o
      have HRT := hide HR.out.t
      have HRB := hide HR.out.bl
      have HRF := hide HR.out.f
      clear HR e1 hcell ex
      generalize S.getD i 0 = s at *
      generalize xs.getD i 0 = x at *
      generalize T.getD i 0 = t at *
      go_wp2
      go_roundg (n - i)
      case measure => omega
      case rel =>
        refine ⟨i + 1, by go_num, by omega, by omega, HRT.out.set (fun a ha hne => ?_), ?_, HRB.out.setCell (show w.heap.size ≤ g from hgw) _, HRF.out⟩
        · cases ha; show b ≠ g; omega
        · have h := (HRO.out.stored i (.int .u8 (t : Int))).1
          rw [u8s_set, HO.out] at h
          exact h
    · have e : i = n := by omega
      subst e
      have h1 := HR.out.o
      rw [over_full T S i TL.out SL.out] at h1
      have HO := hide h1
      have HB := hide HR.out.bl
      clear h1 HR
      go_wp2
      go_ret
      exact ⟨_, rfl, HO.out, HB.out⟩

theorem turned_any (key : List Nat) (gn gq nn f n : Nat) (p : Option Addr) (c : Nat) (xs : List Nat) (w : World) (hk : Blk key) (hnn : nn < 18446744073709551616) (hN : Arr w gn 26 [.int .u64 (nn : Int)]) (hK : Arr w gq 22 (u8s key)) (hf : f ≤ 1099511627776) (hx : Piece w p c xs) (hn : xs.length = n) (hn2 : n ≤ 1048576) :
    Calls Tryd.prog 40 #[.func (.func 55) #[] #[.pointer (some ⟨gn, 0, none⟩), .pointer (some ⟨gq, 0, none⟩)], .int .i64 (f : Int), .slice p n c] w fun r w' => ∃ v, r = .returned v ∧ w'.ownsRow w.heap.size 5 1 v n (u8s (trF (hbF key nn) f xs)) ∧ Below w.heap.size w w' :=
  turned_of gn gq f n p c xs _ _ w hx hn hn2 (stF_length (hbF key nn) f n) (by rw [trF_length, hn]) (stF_bytes (fun i => hbF_blk hk nn i) f n)
    (fun i hi => by rw [stF_at, if_pos hi, trF_at _ _ _ (by omega), Nat.xor_comm]) (stream_any key gn gq nn f n w hk hnn hN hK hf hn2)

set_option maxHeartbeats 2000000 in
/-- a text turned, from 0 on -/
theorem turn_any (key : List Nat) (nn n : Nat) (p : Option Addr) (c : Nat) (xs : List Nat) (w : World) (hk : Blk key) (hnn : nn < 18446744073709551616) (hx : Piece w p c xs) (hn : xs.length = n) (hn2 : n ≤ 1048576) :
    Calls Tryd.prog 28 #[.agg (u8s key).toArray, .int .u64 (nn : Int), .slice p n c] w fun r w' => ∃ v, r = .returned v ∧ w'.ownsRow w.heap.size 5 1 v n (u8s (trF (hbF key nn) 0 xs)) ∧ Below w.heap.size w w' := by
  have HC := hide (fun (w : World) (gn gq : Nat) (hN : Arr w gn 26 [.int .u64 (nn : Int)]) (hK : Arr w gq 22 (u8s key)) (hx : Piece w p c xs) => turned_any key gn gq nn 0 n p c xs w hk hnn hN hK (by omega) hx hn hn2)
  have HX := hide hx
  have IK := hide (szb hk)
  have HM := hide (maker_any key nn)
  clear hx hk
  generalize trF (hbF key nn) 0 xs = T at *
  have A0 : Hid (Arr (w.alloc (Obj.cells (u8s key).toArray 22)) w.heap.size 22 (u8s key) ∧ Below w.heap.size w (w.alloc (Obj.cells (u8s key).toArray 22))) := ⟨Arr.new w _ _, (Below.refl _ _).alloc (Nat.le_refl _) _⟩
  go_enter Tryd.func28, Tryd.ntmps28
  go_wp2_with (refine wpList_load_row rfl 22 _ rfl w.heap.size rfl 22 _ (0, 0) _ A0.out.1 Tryd.underlying22 rfl IK.out ?_)
  generalize w.alloc (Obj.cells (u8s key).toArray 22) = w1 at *
  refine (HM.out w1).mono ?_
  rintro r w2 ⟨rfl, hw2⟩
  have B1 : Below w1.heap.size w1 w2 := by rw [hw2]; exact ((Below.refl _ _).alloc (Nat.le_refl _) _).alloc (by simp) _
  have H2 : Hid (Arr w2 (w1.heap.size + 1) 26 [.int .u64 (nn : Int)] ∧ Arr w2 w1.heap.size 22 (u8s key) ∧ Piece w2 p c xs ∧ Below w.heap.size w w2) := by
    refine ⟨?_, ?_, ?_, ?_⟩
    · rw [hw2]; exact Arr.newAt (w1.alloc _) _ [.int .u64 (nn : Int)] _ (by simp)
    · rw [hw2]; exact (Arr.new w1 _ _).alloc _
    · exact (HX.out.kept A0.out.2).kept (B1.mono (Nat.le_refl _))
    · exact A0.out.2.trans (B1.mono A0.out.2.size)
  clear hw2 B1 A0 HX
  generalize w1.heap.size = g1 at *
  go_wp2_with fail
  refine (HC.out _ _ _ H2.out.1 H2.out.2.1 H2.out.2.2.1).mono ?_
  rintro r w3 ⟨v, rfl, ho, hb⟩
  have h2 := H2.out.2.2.2
  have HO : Hid (w3.ownsRow w.heap.size 5 1 v n (u8s T)) := own_base ho h2.size
  have HB := hide (h2.trans (hb.mono h2.size))
  clear ho hb h2 HC
  go_wp2
  go_ret
  exact ⟨_, rfl, HO.out, HB.out⟩

end Go.Proofs.YtbmjlofehbbkbaaDoor
