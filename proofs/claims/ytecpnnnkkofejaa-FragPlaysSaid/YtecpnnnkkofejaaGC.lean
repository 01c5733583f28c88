/-
  Plain: a text's pieces. A walk of the document's answer: Cut.
-/
import Derived.Test.YtecpnnnkkofejaaGB
import Derived.Maps.AppendAt
namespace Go.Proofs.Ytecpnnnkkofejaa
open Go.RowKit

/-- how many pieces -/
def cutN (n s : Nat) : Nat := if n = 0 then 1 else (n + s - 1) / s
/-- one of them -/
def cutX (i : Nat) (t : List Nat) (s j : Nat) : Pc := ⟨i, (j : Int), decide (t.length ≤ (j + 1) * s), (t.drop (j * s)).take s⟩
/-- so many of them -/
def cutL (i : Nat) (t : List Nat) (s k : Nat) : List Pc := (List.range k).map (cutX i t s)
def cutE (n : Nat) (s : Int) : Int := if s < 1 ∨ 1100 < s then 2 else if 65536 < n ∨ 256 < ((n : Int) + s - 1) / s then 3 else 0

theorem cutN_pos (n s : Nat) (hs : 0 < s) : 0 < cutN n s := by
  unfold cutN
  split
  · omega
  · exact Nat.div_pos (by omega) hs
/-- there is one more, just if so many have not come to the end -/
theorem cut_more (n s k : Nat) (hs : 0 < s) : (k = 0 ∨ k * s < n) ↔ k < cutN n s := by
  unfold cutN
  by_cases hn : n = 0
  · rw [if_pos hn]
    subst hn
    omega
  · rw [if_neg hn, Nat.lt_div_iff_mul_lt hs]
    constructor
    · rintro (h | h)
      · subst h; simp; omega
      · have : s * k = k * s := Nat.mul_comm _ _
        omega
    · intro h
      right
      have : s * k = k * s := Nat.mul_comm _ _
      omega

/-- a piece, and where its bytes lie -/
structure Pk where
  x : Pc
  p : Option Addr
  c : Nat
def Pk.C (k : Pk) : List Value := pcC k.x k.p k.c
/-- pieces, one behind the other -/
def pkC (l : List Pk) : List Value := l.flatMap Pk.C
theorem pkC_snoc (l : List Pk) (k : Pk) : pkC (l ++ [k]) = pkC l ++ k.C := by simp [pkC]
theorem pkC_length (l : List Pk) : (pkC l).length = 4 * l.length := by
  induction l with
  | nil => rfl
  | cons k l ih => simp [pkC, Pk.C] at *; omega
theorem pkC_get : ∀ (l : List Pk) (j t : Nat), t < 4 → (pkC l)[4 * j + t]? = (l[j]?).bind fun k => k.C[t]?
  | [], j, t, _ => by simp [pkC]
  | k :: l, 0, t, ht => by
    rw [pkC, List.flatMap_cons, List.getElem?_append_left (by simp [Pk.C]; omega)]
    simp
  | k :: l, j + 1, t, ht => by
    have h := pkC_get l j t ht
    rw [pkC, List.flatMap_cons, List.getElem?_append_right (by simp [Pk.C]; omega)]
    rw [show 4 * (j + 1) + t - k.C.length = 4 * j + t from by simp [Pk.C]; omega]
    exact h
theorem infoPk : (Try.prog.info? 25).map (fun i => (i.zero, i.size, i.bytes)) = some (some (.agg #[.int .u64 0, .int .i64 0, .bool false, .slice none 0 0]), 4, 48) := by kernel_rfl

/-- the pieces of a text that is handed in -/
def cutK (i : Nat) (t : List Nat) (s : Nat) (p : Option Addr) (c k : Nat) : List Pk := (List.range k).map fun j => ⟨cutX i t s j, cutP p (j * s) c, c - j * s⟩
theorem cutK_snoc (i : Nat) (t : List Nat) (s : Nat) (p : Option Addr) (c k : Nat) : cutK i t s p c (k + 1) = cutK i t s p c k ++ [⟨cutX i t s k, cutP p (k * s) c, c - k * s⟩] := by
  rw [cutK, cutK, List.range_succ, List.map_append]
  rfl
theorem cutK_length (i : Nat) (t : List Nat) (s : Nat) (p : Option Addr) (c k : Nat) : (cutK i t s p c k).length = k := by simp [cutK]

/-- one piece appended to a row of the call's own, as one operation -/
theorem wp_append_pk_dst {w : World} {o : Oper} {a : Act} {K : Act → World → Prop} {Q : Exit → Act → World → Prop} {dd : Nat} (hdd : o.dst = some dd) (s x : Operand)
    (ho : o.op = .call { callee := .builtin .append, args := #[s, x], argTypes := #[36, 36] })
    (B : Nat) (v : Value) (l : List Pk) (hs : a.eval s = v) (n : Nat) (hown : w.ownsRow B 25 4 v n (pkC l)) (k : Pk)
    (g : Nat) (hx : a.eval x = .slice (some ⟨g, 0, none⟩) 1 1) (hA : Arr w g 25 k.C) (hsum : n + 1 ≤ 1000000) (hB : B ≤ w.heap.size)
    (h : ∀ v' w', w'.ownsRow B 25 4 v' (n + 1) (pkC (l ++ [k])) → w.grownBy w' v.ownBlock → (v'.ownBlock = v.ownBlock ∨ v'.ownBlock = some w.heap.size) → K (a.put (some dd) v') w') : o.wp Try.prog a w K Q := by
  obtain ⟨i0, hi, hz0, hz1, hz2⟩ := info_parts infoPk
  obtain ⟨v', w', hr, h2, h3, _, h5⟩ := run_append_own_at (P := Try.prog) w B 36 o.type 25 i0 (.agg #[.int .u64 0, .int .i64 0, .bool false, .slice none 0 0]) 4 48 Try.underlying36 hi hz0 hz1 hz2 rfl (by decide) v _ _ hown ⟨g, 0, none⟩ 1 1 k.C (by simp [Pk.C]) (fun j u hj => by rw [Addr.add_mid, Nat.zero_add, hA.cell]; exact hj) (fun u hu => by
    simp only [Pk.C, List.mem_cons, List.not_mem_nil, or_false] at hu
    rcases hu with rfl | rfl | rfl | rfl <;> rfl) (by unfold maxLen; omega) (by omega) hB
  unfold Oper.wp execOp
  simp only [ho, resolve, invoke, builtin, Sem.run_bind, Sem.run_pure, Result.andThen_ok, List.map_toArray, List.map_cons, List.map_nil, hs, hx, hr]
  show K (a.put o.dst v') w'
  rw [hdd]
  exact h v' w' (by rw [pkC_snoc]; exact h2) h3 h5

/-- one piece appended to a row of the call's own -/
theorem wpList_append_pk {w : World} {ops : Array Oper} {rest : List Oper} {o : Oper} {a : Act} {Q : Exit → Act → World → Prop} (hgd : o.guard = none) (s x : Operand)
    (ho : o.op = .call { callee := .builtin .append, args := #[s, x], argTypes := #[36, 36] })
    (B : Nat) (v : Value) (l : List Pk) (hs : a.eval s = v) (n : Nat) (hown : w.ownsRow B 25 4 v n (pkC l)) (k : Pk)
    (g : Nat) (hx : a.eval x = .slice (some ⟨g, 0, none⟩) 1 1) (hA : Arr w g 25 k.C) (hsum : n + 1 ≤ 1000000) (hB : B ≤ w.heap.size)
    (h : ∀ v' w', w'.ownsRow B 25 4 v' (n + 1) (pkC (l ++ [k])) → w.grownBy w' v.ownBlock → (v'.ownBlock = v.ownBlock ∨ v'.ownBlock = some w.heap.size) → wpList Try.prog ops Q rest (a.put o.dst v') w') :
    wpList Try.prog ops Q (o :: rest) a w := by
  obtain ⟨i0, hi, hz0, hz1, hz2⟩ := info_parts infoPk
  refine wpList_append_own_at w hgd s x 36 ho B 25 i0 (.agg #[.int .u64 0, .int .i64 0, .bool false, .slice none 0 0]) 4 48 Try.underlying36 hi hz0 hz1 hz2 rfl (by decide) v _ _ hs hown ⟨g, 0, none⟩ 1 1 k.C hx (by simp [Pk.C]) ?_ ?_ ?_ ?_ hB ?_
  · intro j u hj
    rw [Addr.add_mid, Nat.zero_add, hA.cell]
    exact hj
  · intro u hu
    simp only [Pk.C, List.mem_cons, List.not_mem_nil, or_false] at hu
    rcases hu with rfl | rfl | rfl | rfl <;> rfl
  · unfold maxLen; omega
  · omega
  · intro v' w' h1 h2 _ h4
    exact h v' w' (by rw [pkC_snoc]; exact h1) h2 h4

theorem own_slice {w : World} {B : Nat} {e : TypeId} {z : Nat} {v : Value} {n : Nat} {xs : List Value} (h : w.ownsRow B e z v n xs) : ∃ q d, v = .slice q n d := by
  rcases h.2 with ⟨rfl, h0⟩ | ⟨g, cap, cur, rfl, _⟩
  · exact ⟨none, 0, by rw [h0]⟩
  · exact ⟨_, _, rfl⟩

/-- a piece as the walk lays it -/
theorem cutK_cells (i s k a e n : Nat) (t : List Nat) (p : Option Addr) (c : Nat) (r : Bool) (hn : t.length = n) (ha : a = k * s) (he : e = min (a + s) n) (han : a ≤ n) (hr : r = decide (n ≤ a + s)) :
    (Pk.mk (cutX i t s k) (cutP p (k * s) c) (c - k * s)).C = [.int .u64 (i : Int), .int .i64 (k : Int), .bool r, .slice (cutP p a c) (e - a) (c - a)] := by
  have h1 : (k + 1) * s = a + s := by rw [ha, Nat.add_mul]; omega
  have h2 : ((t.drop (k * s)).take s).length = e - a := by rw [List.length_take, List.length_drop, hn, ← ha]; omega
  simp only [Pk.C, pcC, cutX, hn, h1, ← ha] at h2 ⊢
  rw [h2, hr]

set_option maxHeartbeats 8000000 in
set_option maxRecDepth 100000 in
theorem rcut_ok (i n s N : Nat) (t : List Nat) (p : Option Addr) (c : Nat) (w : World) (hP : Piece w p c t) (hn : t.length = n) (hs : 1 ≤ s) (hs2 : s ≤ 1100) (hn2 : n ≤ 65536) (hq : (n + s - 1) / s ≤ 256) (hN : cutN n s = N) :
    Calls Try.prog 17 #[.int .u64 (i : Int), .slice p n c, .int .i64 (s : Int)] w fun e w' => ∃ v, e = .returned (.tuple #[v, .int .i64 0]) ∧ w'.ownsRow w.heap.size 25 4 v N (pkC (cutK i t s p c N)) ∧ Below w.heap.size w w' := by
  have hN1 : N ≤ 256 := by
    rw [← hN, cutN]
    split <;> omega
  have hN0 : 0 < N := by rw [← hN]; exact cutN_pos n s (by omega)
  have HM := hide (fun k => cut_more n s k (by omega))
  have HNN := hide hN
  have hnc : n ≤ c := by rw [← hn]; exact hP.2.2.2.1
  have HSL := hide (fun (v : World) (a e : Nat) (h1 : a ≤ e) (h2 : e ≤ c) => run_mid v p n c a e h1 h2)
  have HL := hide hn
  have hq1 : Int.tdiv ((n : Int) + (s : Int) - 1) (s : Int) = (((n + s - 1) / s : Nat) : Int) := by
    rw [show (n : Int) + (s : Int) - 1 = ((n + s - 1 : Nat) : Int) by omega, Int.tdiv_eq_ediv_of_nonneg (by omega)]
    rfl
  generalize hqq : (n + s - 1) / s = q at *
  clear hP hn hN hqq
  go_enter Try.func17, Try.ntmps17
  go_wp2_with fail
  go_loopg [8, 9] (N + 1) (fun f s8 s9 wr => ∃ (k a : Nat), s9 = .int .i64 (a : Int) ∧ k ≤ N ∧ N - k < f ∧ Hid (a = k * s ∧ wr.ownsRow w.heap.size 25 4 s8 k (pkC (cutK i t s p c k)) ∧ Below w.heap.size w wr))
  case atStart => exact ⟨0, 0, rfl, by omega, by omega, by simp, World.ownsRow_nil _ _ _ _, Below.refl _ _⟩
  case round =>
    obtain ⟨k, a, rfl, hk, hf, HT⟩ := hrel
    obtain ⟨q8, d8, rfl⟩ := own_slice HT.out.2.1
    by_cases hkn : k < N
    · have hor := (HM.out k).2 (by rw [HNN.out]; exact hkn)
      rw [← HT.out.1] at hor
      have han : a ≤ n := by
        rcases hor with h | h
        · have h1 := HT.out.1; rw [h] at h1; omega
        · omega
      have han2 : ((a : Int) == 0) = true ∨ ((a : Int) == 0) = false ∧ (a : Int) < (n : Int) := by
        rcases hor with h | h
        · left; have h1 := HT.out.1; rw [h] at h1; simp; omega
        · by_cases h0 : a = 0
          · left; simp; omega
          · right; exact ⟨by simp; omega, by omega⟩
      have HAN := hide han
      clear hor
      by_cases hE : n < a + s
      · have hE' : (n : Int) < (a : Int) + (s : Int) := by omega
        have s1 := fun v => HSL.out v a n HAN.out hnc
        have KC := hide (cutK_cells i s k a n n t p c true HL.out HT.out.1 (by omega) HAN.out (by rw [decide_eq_true (by omega)]))
        rcases han2 with h0 | ⟨h0, h1⟩
        all_goals
          go_wp2_with (at_builtin; refine wpList_append_pk rfl (.tmp 50) (.tmp 63) rfl w.heap.size _ (cutK i t s p c k) rfl k (HT.out.2.1.alloc _) ⟨cutX i t s k, cutP p (k * s) c, c - k * s⟩ wr.heap.size rfl ?g1 (by omega) ?g2 ?_)
          case g1 => rw [KC.out]; exact Arr.new wr _ _
          case g2 => have := HT.out.2.2.size; simp; omega
          intro v' w' ho hg _
          have O2 := hide ho
          have B2 : Hid (Below w.heap.size w w') := (HT.out.2.2.alloc HT.out.2.2.size _).grown hg (by have := HT.out.2.2.size; simp; omega) (fun k hk => (HT.out.2.1.lt k hk).1)
          clear ho hg
          go_wp2_with fail
          go_roundg (N - k)
          case measure => omega
          case rel => exact ⟨k + 1, a + s, by rw [Int.natCast_add], by omega, by omega, by rw [HT.out.1, Nat.add_mul]; omega, by rw [cutK_snoc]; exact O2.out, B2.out⟩
      · have s1 : ∀ v : World, (Instr.slice 23 (.slice p n c) (some (.int .i64 (a : Int))) (some (.int .i64 ((a : Int) + (s : Int)))) none).run Try.prog v = .ok (.slice (cutP p a c) s (c - a)) v := fun v => by
          have h := HSL.out v a (a + s) (by omega) (by omega)
          rw [Int.natCast_add, Nat.add_sub_cancel_left] at h
          exact h
        obtain ⟨r, hr⟩ : ∃ r, ((a : Int) + (s : Int) == (n : Int)) = r := ⟨_, rfl⟩
        have KC : Hid ((Pk.mk (cutX i t s k) (cutP p (k * s) c) (c - k * s)).C = [.int .u64 (i : Int), .int .i64 (k : Int), .bool r, .slice (cutP p a c) s (c - a)]) := by
          have h := cutK_cells i s k a (a + s) n t p c r HL.out HT.out.1 (by omega) HAN.out (by rw [← hr, Bool.eq_iff_iff]; simp; omega)
          rw [Nat.add_sub_cancel_left] at h
          exact h
        have hE' : ¬ (n : Int) < (a : Int) + (s : Int) := by omega
        rcases han2 with h0 | ⟨h0, h1⟩
        all_goals
          go_wp2_with (at_builtin; refine wpList_append_pk rfl (.tmp 50) (.tmp 63) rfl w.heap.size _ (cutK i t s p c k) rfl k (HT.out.2.1.alloc _) ⟨cutX i t s k, cutP p (k * s) c, c - k * s⟩ wr.heap.size rfl ?g1 (by omega) ?g2 ?_)
          case g1 => rw [KC.out]; exact Arr.new wr _ _
          case g2 => have := HT.out.2.2.size; simp; omega
          intro v' w' ho hg _
          have O2 := hide ho
          have B2 : Hid (Below w.heap.size w w') := (HT.out.2.2.alloc HT.out.2.2.size _).grown hg (by have := HT.out.2.2.size; simp; omega) (fun k hk => (HT.out.2.1.lt k hk).1)
          clear ho hg
          go_wp2_with fail
          go_roundg (N - k)
          case measure => omega
          case rel => exact ⟨k + 1, a + s, by rw [Int.natCast_add], by omega, by omega, by rw [HT.out.1, Nat.add_mul]; omega, by rw [cutK_snoc]; exact O2.out, B2.out⟩
    · have hor : ¬ (k = 0 ∨ k * s < n) := fun h => hkn (by rw [← HNN.out]; exact (HM.out k).1 h)
      have hkN : k = N := by omega
      subst hkN
      rw [← HT.out.1] at hor
      have h0 : ((a : Int) == 0) = false := by
        have h1 := HT.out.1
        have h2 : 0 < k * s := Nat.mul_pos (by omega) (by omega)
        simp; omega
      have h1 : ¬ (a : Int) < (n : Int) := by omega
      clear hor
      go_wp2
      go_ret2
      exact ⟨_, rfl, HT.out.2.1, HT.out.2.2⟩

set_option maxHeartbeats 1000000 in
set_option maxRecDepth 100000 in
theorem rcut_arg (i n : Nat) (s : Int) (p : Option Addr) (c : Nat) (w : World) (h : s < 1 ∨ 1100 < s) :
    Calls Try.prog 17 #[.int .u64 (i : Int), .slice p n c, .int .i64 s] w fun e w' => e = .returned (.tuple #[.slice none 0 0, .int .i64 2]) ∧ w' = w := by
  by_cases h1 : s < 1
  · clear h
    go_enter Try.func17, Try.ntmps17
    go_wp2
    go_ret2
    exact ⟨rfl, rfl⟩
  · have h2 : 1100 < s := by omega
    clear h
    go_enter Try.func17, Try.ntmps17
    go_wp2
    go_ret2
    exact ⟨rfl, rfl⟩

set_option maxHeartbeats 1000000 in
set_option maxRecDepth 100000 in
theorem rcut_long (i n s : Nat) (p : Option Addr) (c : Nat) (w : World) (hs : 1 ≤ s) (hs2 : s ≤ 1100) (h : 65536 < n ∨ 256 < (n + s - 1) / s) :
    Calls Try.prog 17 #[.int .u64 (i : Int), .slice p n c, .int .i64 (s : Int)] w fun e w' => e = .returned (.tuple #[.slice none 0 0, .int .i64 3]) ∧ w' = w := by
  by_cases h1 : 65536 < n
  · have h1' : (65536 : Int) < (n : Int) := by omega
    clear h h1
    go_enter Try.func17, Try.ntmps17
    go_wp2
    go_ret2
    exact ⟨rfl, rfl⟩
  · have hq1 : Int.tdiv ((n : Int) + (s : Int) - 1) (s : Int) = (((n + s - 1) / s : Nat) : Int) := by
      rw [show (n : Int) + (s : Int) - 1 = ((n + s - 1 : Nat) : Int) by omega, Int.tdiv_eq_ediv_of_nonneg (by omega)]
      rfl
    have hq2 : (n + s - 1) / s ≤ n + s - 1 := Nat.div_le_self _ _
    have h1' : ¬ (65536 : Int) < (n : Int) := by omega
    generalize (n + s - 1) / s = q at *
    have h2 : (256 : Int) < (q : Int) := by omega
    have h3 : (q : Int) ≤ 70000 := by omega
    clear h h1 hq2
    go_enter Try.func17, Try.ntmps17
    go_wp2
    go_ret2
    exact ⟨rfl, rfl⟩

end Go.Proofs.Ytecpnnnkkofejaa
