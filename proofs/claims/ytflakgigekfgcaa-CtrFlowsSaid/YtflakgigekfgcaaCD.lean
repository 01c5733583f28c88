/-
  A walk: n bytes of a stream from a place on.
-/
import Derived.Test.YtflakgigekfgcaaCC
import Derived.Test.YtflakgigekfgcaaBD
namespace Go.Proofs.Ytflakgigekfgcaa
open Go.RowKit Go.Shelf
attribute [local go_sem] Oper.semAt_some

theorem iter_stops (n : Nat) (hn : 1 ≤ n) (gs ge gb gn gk s nn : Nat) (e : Int) (key : List Nat) (hk : Blk key) (hnn : nn < 18446744073709551616) (hs : s < 4611686018427387904) (he : e < 4611686018427387904) (w : World)
    (hS : Arr w gs 3 [.int .i64 (s : Int)]) (hM : ItM w ge gb gn gk e nn key) (N : Nat) (hNe : N = (e - (s : Int)).toNat) :
    SeqStopsK Fence.wide n Try.prog 33 #[.pointer (some ⟨gs, 0, none⟩), .pointer (some ⟨ge, 0, none⟩), .pointer (some ⟨gb, 0, none⟩)] (fun x : Nat => #[Value.int .i64 ((x : Nat) : Int), .agg (u8s (hbF key nn x)).toArray]) (Keeps [ge, gb, gn, gk])
      (fun ys => ys = numsF s N) (fun pre => ∃ k, k ≤ N ∧ pre = numsF s k) N w := fun l J Jx W hW hJ _ hY h0 =>
  iter_in n hn l gs ge gb gn gk s nn e key (hbF key nn) N hNe hs he
    (fun i v hi hv => block_any key gn gk nn i v hk hnn (by omega) hv.out.n hv.out.k) J Jx (fun pre A A' h hg => hJ pre A A' none h hg (fun r e => by cases e)) hY W (hS.kept hW) (hM.below hW) h0

theorem Arr.own {β : Type} (g : Nat) (t : TypeId) (vs : β → List Value) : Own (fun s W => Arr W g t (vs s)) := fun s X Y row hs hg hrow =>
  hs.keptR hg (fun e => by obtain ⟨o, ho, hc⟩ := hrow g e; rw [show X.heap[g]? = _ from hs] at ho; cases ho; cases hc)

theorem exec_min {P : Program} {o : Oper} {a : Act} {w : World} (x y : Operand) (ts : Array TypeId) (ho : o.op = .call { callee := .builtin .min, args := #[x, y], argTypes := ts }) (k : IntKind) (p q m : Int) (hx : a.eval x = .int k p) (hy : a.eval y = .int k q) (hm : (if q < p then q else p) = m) :
    (execOp a.eval o).run P w = .ok (.value (.int k m)) w := by
  subst hm
  simp [execOp, ho, resolve, invoke, builtin, hx, hy, run_min_int2, Result.andThen]

theorem exec_slice16 {o : Oper} {a : Act} {w : World} (x y z : Operand) (ho : o.op = .slice 22 x (some y) (some z) none) (g s m k d : Nat) (hx : a.eval x = .pointer (some ⟨g, 0, none⟩)) (hy : a.eval y = .int .i64 (s : Int)) (hz : a.eval z = .int .i64 (m : Int)) (h1 : m = s + k) (h2 : m ≤ 16) (h3 : s < 16) (hd : d = 16 - s) :
    (execOp a.eval o).run Try.prog w = .ok (.value (.slice (some ⟨g, s, none⟩) k d)) w := by
  have hl : Try.prog.arrayLen 22 = 16 := by simp [Program.arrayLen, Try.underlying22]
  have he : Try.prog.elem 22 = 5 := by simp [Program.elem, Try.underlying22]
  have ht : Try.prog.underlying 22 = some (.array (Try.prog.arrayLen 22) (Try.prog.elem 22)) := by rw [hl, he]; exact Try.underlying22
  have hr := run_sliceAt_array_lh (P := Try.prog) w 22 ⟨g, 0, none⟩ ht .i64 .i64 (s : Int) (m : Int) (by omega) (by omega) (by rw [hl]; omega)
  rw [he, size5] at hr
  have hne : ¬ (16 : Nat) = s := by omega
  subst hd
  have e1 : m - s = k := by omega
  simp only [Result.andThen, slicedAt, hl, Int.toNat_natCast, if_neg hne, Addr.add_mid, Nat.zero_add, Nat.mul_one, e1] at hr
  simp [execOp, ho, hx, hy, hz, hr, Result.andThen]

/-- what lies in memory while a stream's bytes are made: the boxes of n and of the row; the maker's two -/
structure StCs (w wr : World) (gl gn gk nn n : Nat) (key : List Nat) (v : Value) (xs : List Nat) : Prop where
  l : Boxed wr gl 25 v
  o : wr.ownsRow w.heap.size 5 1 v xs.length (u8s xs)
  n : Boxed wr w.heap.size 3 (.int .i64 (n : Int))
  bl : Below w.heap.size w wr
  an : Arr wr gn 23 [.int .u64 (nn : Int)]
  ak : Arr wr gk 22 (u8s key)
theorem own_val {w : World} {B : Nat} {e : TypeId} {v : Value} {n : Nat} {xs : List Value} (h : w.ownsRow B e 1 v n xs) : ∃ p c, v = .slice p n c := by
  rcases h.2 with ⟨rfl, rfl⟩ | ⟨g, cap, cur, rfl, _⟩
  · exact ⟨none, 0, rfl⟩
  · exact ⟨_, cap, rfl⟩
theorem app_keeps {W w1 : World} {B : Nat} {e : TypeId} {v : Value} {k : Nat} {xs : List Value} (hr : W.ownsRow B e 1 v k xs) (hg : W.grownBy w1 v.ownBlock) : KeepsOthers W w1 := KeepsOthers.of_grownBy hg fun j o ej hj => by
  rcases hr.2 with ⟨rfl, _⟩ | ⟨g, cap, cur, rfl, _, hgb, _⟩
  · simp [Value.ownBlock] at ej
  · obtain rfl : g = j := by simpa [Value.ownBlock] using ej
    rw [hgb] at hj; cases hj; rfl

/-- .. between two rounds -/
structure StI (w W : World) (gl g2 n gn gk e nn m : Nat) (key row : List Nat) (s : Nat) : Prop where
  l : ∃ v, Boxed W gl 25 v ∧ W.ownsRow w.heap.size 5 1 v row.length (u8s row) ∧ True
  s : Boxed W g2 3 (.int .i64 (s : Int))
  n : Boxed W w.heap.size 3 (.int .i64 (n : Int))
  bl : Below w.heap.size w W
  it : ItM W (g2 + 1 + 1 + 1) (g2 + 1) gn gk (e : Int) nn key
  sz : m ≤ W.heap.size
theorem StI.own {w : World} {gl g2 n gn gk e nn m B : Nat} {key : List Nat} (hB : w.heap.size ≤ B) (O : List Nat → List Nat × Nat) : OwnFrom B (fun (pre : List Nat) W => StI w W gl g2 n gn gk e nn m key (O pre).1 (O pre).2) := fun pre X Y row hs hg hr => by
  have hr' : ∀ r, row = some r → ∃ o : Obj, X.heap[r]? = some o ∧ o.isCells = false := fun r e => (hr r e).2
  refine ⟨holdsRow_own w.heap.size gl 25 5 1 (fun pre => (O pre).1.length) (fun pre => u8s (O pre).1) (fun _ _ => True) pre X Y row hs.l hg hr', boxed_own g2 3 (fun (_ : Unit) => .int .i64 ((O pre).2 : Int)) () X Y row hs.s hg hr',
    boxed_own w.heap.size 3 (fun (_ : Unit) => .int .i64 (n : Int)) () X Y row hs.n hg hr', ownFrom_below (β := Unit) (Nat.le_refl _) hB () X Y row hs.bl hg hr,
    ⟨Arr.own _ _ (fun (_ : Unit) => _) () X Y row hs.it.e hg hr', Arr.own _ _ (fun (_ : Unit) => _) () X Y row hs.it.b hg hr', Arr.own _ _ (fun (_ : Unit) => _) () X Y row hs.it.n hg hr', Arr.own _ _ (fun (_ : Unit) => _) () X Y row hs.it.k hg hr'⟩, Nat.le_trans hs.sz hg.size⟩
theorem StI.alloc {w W : World} {gl g2 n gn gk e nn m : Nat} {key row : List Nat} {s : Nat} (r : StI w W gl g2 n gn gk e nn m key row s) (o : Obj) : StI w (W.alloc o) gl g2 n gn gk e nn m key row s := by
  obtain ⟨v, h1, h2, h3⟩ := r.l
  exact ⟨⟨v, h1.alloc _, h2.alloc _, h3⟩, r.s.alloc _, r.n.alloc _, r.bl.alloc r.bl.size _, r.it.below ((Below.refl _ _).alloc (Nat.le_refl _) _), Nat.le_trans r.sz (by simp)⟩
/-- a row is none of the blocks that the iterator reads -/
theorem ItM.not_row {W w1 : World} {ge gb gn gk : Nat} {e : Int} {nn : Nat} {key : List Nat} (r : ItM W ge gb gn gk e nn key) {B k : Nat} {v : Value} {xs : List Value} (hr : W.ownsRow B 5 1 v k xs) (hg : W.grownBy w1 v.ownBlock) : Keeps [ge, gb, gn, gk] W w1 := by
  intro i hi
  simp at hi
  rcases hi with rfl | rfl | rfl | rfl
  · exact hg.block _ r.e.lt (fun e => own_ne_arr hr r.e (by decide) e.symm)
  · exact hg.block _ r.b.lt (fun e => own_ne_arr hr r.b (by decide) e.symm)
  · exact hg.block _ r.n.lt (fun e => own_ne_arr hr r.n (by decide) e.symm)
  · exact hg.block _ r.k.lt (fun e => own_ne_arr hr r.k (by decide) e.symm)
theorem Keeps.set {ks : List Nat} {W : World} {g j : Nat} {v : Value} (h : g ∉ ks) : Keeps ks W (W.setCell ⟨g, j, none⟩ v) := fun k hk => Below.heap_setCell _ _ _ k (fun e => h (by simpa [e] using hk))
theorem bx_drew {w : World} {g : Nat} {t : TypeId} {v : Value} (h : Boxed w g t v) : Boxed w.drew g t v := h
theorem StCs.drew {w wr : World} {gl gn gk nn n : Nat} {key : List Nat} {v : Value} {xs : List Nat} (r : StCs w wr gl gn gk nn n key v xs) : StCs w wr.drew gl gn gk nn n key v xs := ⟨r.l, r.o.kept (grown_drew (grown_refl _ none)) (by by_cases h : v.ownBlock = none; exact Or.inl h; exact Or.inr h), r.n, r.bl.drew, r.an, r.ak⟩
theorem StCs.alloc {w wr : World} {gl gn gk nn n : Nat} {key : List Nat} {v : Value} {xs : List Nat} (r : StCs w wr gl gn gk nn n key v xs) (o : Obj) : StCs w (wr.alloc o) gl gn gk nn n key v xs := ⟨r.l.alloc _, r.o.alloc _, r.n.alloc _, r.bl.alloc r.bl.size _, r.an.alloc _, r.ak.alloc _⟩

set_option maxHeartbeats 8000000 in
set_option maxRecDepth 100000 in
theorem stream_of (key : List Nat) (gn gk nn f n s0 q e0 N : Nat) (w : World) (hk : Blk key) (hnn : nn < 18446744073709551616) (hN : Arr w gn 23 [.int .u64 (nn : Int)]) (hK : Arr w gk 22 (u8s key)) (hf : f ≤ 1099511627776) (hn : n ≤ 1048576)
    (hs0 : s0 = f % 16) (hq : q = f / 16) (he0 : e0 = (f + n + 15) / 16) (hNN : N = e0 - q) (T : List Nat) (hTl : T.length = n) (hT : (outS n (hbF key nn) s0 (numsF q N)).1 = T) :
    Calls Try.prog 19 #[.func (.func 28) #[] #[.pointer (some ⟨gn, 0, none⟩), .pointer (some ⟨gk, 0, none⟩)], .int .i64 (f : Int), .int .i64 (n : Int)] w fun r w' => ∃ v, r = .returned v ∧ w'.ownsRow w.heap.size 5 1 v n (u8s T) ∧ Below w.heap.size w w' := by
  obtain ⟨i0, hi, hz0, hz1, hz2⟩ := info_parts infoU8
  have hgn := hN.lt
  have hgk := hK.lt
  have HN := hide hN
  have HK := hide hK
  have HBK := hide hk
  have HT := hide hT
  have HTL := hide hTl
  have HS := hide hs0
  have HQ := hide hq
  have HE := hide he0
  have HNN := hide hNN
  clear hN hK hk hT hTl
  refine (callsIn_wide (n := 9)).1 (callsIn_of_wp_marks Try.func19 rfl trivial ?_ rfl)
  simp only [Try.ntmps19, List.size_toArray, List.length_cons, List.length_nil, Nat.reduceAdd, Nat.reduceSub, Array.replicate_succ, Array.replicate_zero, List.push_toArray, List.append_toArray, List.nil_append, List.cons_append]
  refine wpIn_wide.2 ?_
  have i1 : Int.tdiv (f : Int) 16 = (q : Int) := by rw [Int.tdiv_eq_ediv_of_nonneg (by omega)]; omega
  have i2 : Int.tmod (f : Int) 16 = (s0 : Int) := by rw [Int.tmod_eq_emod_of_nonneg (by omega)]; omega
  have i3 : Int.tdiv ((f : Int) + (n : Int) + 16 - 1) 16 = (e0 : Int) := by rw [Int.tdiv_eq_ediv_of_nonneg (by omega)]; omega
  clear hs0 hq he0 hNN
  go_upto_region 2 with (at_make; refine wpList_make_own _ rfl _ _ 25 rfl w.heap.size 5 i0 (.int .u8 0) 1 Try.underlying25 hi hz0 hz1 .i64 .i64 _ n rfl rfl rfl (by rw [hz2]; omega) (by unfold maxLen; omega) (by simp) ?_)
  intro wa how hga
  have B0 : Below w.heap.size w (w.alloc (Obj.cells #[Value.int IntKind.i64 (n : Int)] 3)) := (Below.refl _ _).alloc (Nat.le_refl _) _
  have Ba : Below w.heap.size w wa := B0.trans (grown_below hga (by simp) (fun k e => by cases e))
  have Na : Boxed wa w.heap.size 3 (.int .i64 (n : Int)) := (Boxed.new w _ _).kept hga (by simp)
  have HA : Hid (wa.ownsRow w.heap.size 5 1 (.slice (some ⟨w.heap.size + 1, 0, none⟩) 0 n) 0 (u8s []) ∧ Boxed wa w.heap.size 3 (.int .i64 (n : Int)) ∧ Below w.heap.size w wa ∧ Arr wa gn 23 [.int .u64 (nn : Int)] ∧ Arr wa gk 22 (u8s key)) := ⟨how, Na, Ba, HN.out.kept Ba, HK.out.kept Ba⟩
  have lnL : w.heap.size < wa.heap.size := Na.lt
  clear how hga B0 Ba Na
  go_upto_region 2 with fail
  have H1 : Hid (StCs w (wa.alloc (Obj.cells #[Value.slice (some ⟨w.heap.size + 1, 0, none⟩) 0 n] 25)) wa.heap.size gn gk nn n key (.slice (some ⟨w.heap.size + 1, 0, none⟩) 0 n) []) :=
    ⟨Boxed.new wa _ _, HA.out.1.alloc _, HA.out.2.1.alloc _, HA.out.2.2.1.alloc HA.out.2.2.1.size _, HA.out.2.2.2.1.alloc _, HA.out.2.2.2.2.alloc _⟩
  clear HA
  generalize wa.alloc (Obj.cells #[Value.slice (some ⟨w.heap.size + 1, 0, none⟩) 0 n] 25) = w1 at *
  generalize wa.heap.size = gl at *
  have cn := H1.out.n.cell
  go_region
  have H2 := hide H1.out.drew
  clear H1 cn
  generalize w1.drew = w2 at *
  have wq : wrap64 (q : Int) = (q : Int) := by have := HQ.out; unfold wrap64; omega
  have we : wrap64 (e0 : Int) = (e0 : Int) := by have := HE.out; unfold wrap64; omega
  go_wp2_with fail
  clear i1 i2 i3
  have H3 := hide (H2.out.alloc (Obj.cells #[.int .i64 (s0 : Int)] 3))
  have B3 := hide (Boxed.new w2 3 (.int .i64 (s0 : Int)))
  have hl2 : gl < w2.heap.size := H2.out.l.lt
  have hgb : (w2.alloc (Obj.cells #[.int .i64 (s0 : Int)] 3)).heap.size = w2.heap.size + 1 := by simp
  clear H2
  generalize w2.alloc (Obj.cells #[.int .i64 (s0 : Int)] 3) = w3 at *
  refine (blocks_any _ _ _ _ _ w3).mono ?_
  rintro r w4 ⟨rfl, hw4⟩
  have H4 : Hid (StCs w w4 gl gn gk nn n key (.slice (some ⟨w.heap.size + 1, 0, none⟩) 0 n) []) := by rw [hw4]; exact ((H3.out.alloc _).alloc _).alloc _
  have B4 : Hid (Boxed w4 w2.heap.size 3 (.int .i64 (s0 : Int))) := by rw [hw4]; exact ((B3.out.alloc _).alloc _).alloc _
  have hsz4 : w4.heap.size = w3.heap.size + 3 := by rw [hw4]; simp
  have F4 : Hid (Arr w4 (w3.heap.size + 1) 3 [.int .i64 (q : Int)] ∧ ItM w4 (w3.heap.size + 1 + 1) w3.heap.size gn gk (e0 : Int) nn key) := by
    refine ⟨?_, ?_, ?_, H4.out.an, H4.out.ak⟩
    · rw [hw4]; exact (Arr.newAt (w3.alloc _) _ [.int .i64 (q : Int)] _ (by simp)).alloc _
    · rw [hw4]; exact Arr.newAt ((w3.alloc _).alloc _) _ [.int .i64 (e0 : Int)] _ (by simp)
    · rw [hw4]; exact ((Arr.new w3 _ [_]).alloc _).alloc _
  clear hw4 H3 B3 wq we
  generalize w3.heap.size = gb at *
  generalize w2.heap.size = g2 at *
  go_wp2_with fail
  subst hgb
  have HIT := hide (iter_stops 8 (by omega) (g2 + 1 + 1) (g2 + 1 + 1 + 1) (g2 + 1) gn gk q nn (e0 : Int) key HBK.out hnn (by have := HQ.out; omega) (by have := HE.out; omega) w4 F4.out.1 F4.out.2 N (by have := HNN.out; omega))
  have HBL := hide (fun i => hbF_blk HBK.out nn i)
  have hs16 : s0 < 16 := by have := HS.out; omega
  have HOK := hide (fun xs => outS_ok (n := n) (s0 := s0) (fun i => (HBL.out i).len) hs16 xs)
  have HO1 := hide (fun xs x => outS_snoc n (hbF key nn) s0 xs x)
  have HO0 : Hid (outS n (hbF key nn) s0 [] = ([], s0)) := rfl
  generalize outS n (hbF key nn) s0 = O at *
  generalize hbF key nn = Bf at *
  have hlt := F4.out.2.lt
  have I0 : StI w w4 gl g2 n gn gk e0 nn w4.heap.size key (O []).1 (O []).2 := by rw [HO0.out]; exact ⟨⟨_, H4.out.l, H4.out.o, trivial⟩, B4.out, H4.out.n, H4.out.bl, F4.out.2, Nat.le_refl _⟩
  have hw0 : w.heap.size ≤ w4.heap.size := H4.out.bl.size
  clear H4 B4 F4
  refine wpIn_wide.1 (wpIn_rangeFunc_ownH (n := 9) rfl (by omega) (gf := 33) (lb := #[.pointer (some ⟨g2 + 1 + 1, 0, none⟩), .pointer (some ⟨g2 + 1 + 1 + 1, 0, none⟩), .pointer (some ⟨g2 + 1, 0, none⟩)]) rfl trivial (enters_of Try.func33 (by kernel_rfl) rfl)
    HIT.out (fun h k => Keeps.trans h k) (Keeps.put hlt) (Below.refl _ _) (fun _ => rfl)
    (fun pre W => StI w W gl g2 n gn gk e0 nn w4.heap.size key (O pre).1 (O pre).2) (fun _ _ _ => False) (StI.own hw0 O)
    (fun _ _ _ _ _ hs _ _ => hs) I0
    (fun x a' W => ∃ Bx, Arr W Bx 22 (u8s (Bf x)) ∧ a' = { tmps := #[Value.func (Fn.func 28) #[] #[Value.pointer (some ⟨gn, 0, none⟩), Value.pointer (some ⟨gk, 0, none⟩)], .int .i64 (f : Int), .int .i64 (n : Int), undef, undef, .pointer (some ⟨w.heap.size, 0, none⟩), .slice none 0 0, .pointer (some ⟨gl, 0, none⟩), .int .i64 (wrap64 (q : Int)), .int .i64 (wrap64 (e0 : Int)), .pointer (some ⟨g2, 0, none⟩), undef, .pointer (some ⟨Bx, 0, none⟩), .int .i64 (n : Int), .slice (some ⟨w.heap.size + 1, 0, none⟩) 0 n, .int .i64 (f : Int), .int .i64 (wrap64 (q : Int)), .int .i64 (f : Int), .int .i64 (n : Int), .int .i64 ((f : Int) + (n : Int)), .int .i64 ((f : Int) + (n : Int) + 16), .int .i64 ((f : Int) + (n : Int) + 16 - 1), .int .i64 (wrap64 (e0 : Int)), .int .i64 (f : Int), .int .i64 (s0 : Int), Value.func (Fn.func 28) #[] #[Value.pointer (some ⟨gn, 0, none⟩), Value.pointer (some ⟨gk, 0, none⟩)], .int .i64 (wrap64 (q : Int)), .int .i64 (wrap64 (e0 : Int)), Value.func (Fn.func 33) #[] #[Value.pointer (some ⟨g2 + 1 + 1, 0, none⟩), Value.pointer (some ⟨g2 + 1 + 1 + 1, 0, none⟩), Value.pointer (some ⟨g2 + 1, 0, none⟩)], .int .i64 ((x : Nat) : Int), .agg (u8s (Bf x)).toArray, undef, undef, undef, undef, undef, undef, undef, undef, undef, undef, undef, undef], defers := [] })
    (fun x a' _ X Y row hs hg hr => by obtain ⟨Bx, h2, h3⟩ := hs; exact ⟨Bx, Arr.own Bx 22 (fun (_ : Unit) => u8s (Bf x)) () X Y row h2 hg (fun r e => (hr r e).2), h3⟩)
    ?assign ?body ?done ?stop)
  case assign =>
    rintro l pre x W K hI hK
    refine region_list (by kernel_rfl) (fun ⟨_, _, h⟩ => h) ?_
    go_wp2_with (refine wpList_store_row rfl 22 _ _ rfl W.heap.size (u8s (Bf x)).toArray rfl rfl 22 _ (Arr.new W _ (u8s z16)) (szb (HBL.out x)) (old16 (HBL.out x).len) (one_u8s _) ?_)
    rw [World.setRow_alloc_new]
    exact hK _ _ ((KeepsOthers.alloc _ _).from _) (Keeps.of_below ((Below.refl _ W).alloc (Nat.le_refl _) _) (fun k hk => Nat.lt_of_lt_of_le (hlt k hk) hI.sz)) (hI.alloc _) ⟨W.heap.size, Arr.new W _ _, rfl⟩
  case body =>
    rintro l pre x a' W hl _ hI ⟨Bx, hX, ha⟩ hlen
    dsimp only at ha
    subst ha
    obtain ⟨⟨v, hv, hown, _⟩, hsk, hnb, hB, hit, hm⟩ := hI
    obtain ⟨p, c, rfl⟩ := own_val hown
    obtain ⟨ok1, ok2, ok3⟩ := HOK.out pre
    have HN1 := hide (HO1.out pre x)
    have HBX := HBL.out x
    obtain ⟨O', hO'⟩ : ∃ y, y = O (pre ++ [x]) := ⟨_, rfl⟩
    rw [← hO'] at HN1
    have HOE := hide hO'
    clear hO'
    generalize O pre = Op at *
    obtain ⟨row, sk⟩ := Op
    simp only at hv hown hsk ok1 ok2 ok3
    obtain ⟨L, hL⟩ : ∃ L, L = row.length := ⟨_, rfl⟩
    rw [← hL] at hv hown ok1 ok3
    obtain ⟨m, hme⟩ : ∃ m, m = min 16 (sk + n - L) := ⟨_, rfl⟩
    rw [← hme] at ok3
    obtain ⟨k, hk⟩ : ∃ k, k = m - sk := ⟨_, rfl⟩
    obtain ⟨d, hd⟩ : ∃ d, d = 16 - sk := ⟨_, rfl⟩
    have q1 : m = sk + k := by omega
    have q2 : m ≤ 16 := by omega
    have HMin : Hid ((if ((sk : Int) + (n : Int) - (L : Int)) < 16 then ((sk : Int) + (n : Int) - (L : Int)) else 16) = (m : Int)) := by show _ = _; split <;> omega
    obtain ⟨ys, hys⟩ : ∃ ys, ys = ((Bf x).take m).drop sk := ⟨_, rfl⟩
    have yl : ys.length = k := by rw [hys, List.length_drop, List.length_take, HBX.len]; omega
    have HYS : Hid (BI W.drew (some ⟨Bx, sk, none⟩) ys) := by
      refine Or.inr ⟨Bx, sk, rfl, fun i hi => ?_⟩
      have hc := (hX.cell (sk + i)).trans (u8s_at (by rw [HBX.len]; omega))
      refine Eq.trans hc ?_
      congr 3
      rw [hys, drop_take_is _ HBX.len _ _ ok3 q2, range_at, if_pos (by omega)]
    have HE1 : Hid (O' = (row ++ ys, 0)) := by show _ = _; rw [HN1.out, rnF, hys]; simp only; rw [← hL, ← hme]
    have HV := hide hv
    have HW := hide (show W.drew.ownsRow w.heap.size 5 1 (.slice p L c) L (u8s row) from hown)
    have HS2 := hide hsk
    have HNB := hide hnb
    have HIT2 := hide hit
    have HBW := hide hB
    have HQ3 := hide hm
    have HLR := hide hL
    have hgg : gl ≠ g2 := by omega
    have wa1 : IntKind.i64.wrap ((sk : Int) + (n : Int)) = (sk : Int) + (n : Int) := by rw [IntKind.wrap_i64]; omega
    have wa2 : IntKind.i64.wrap ((sk : Int) + (n : Int) - (L : Int)) = (sk : Int) + (n : Int) - (L : Int) := by rw [IntKind.wrap_i64]; omega
    clear HN1 hys hv hown hsk hnb hB hit hm hX hL hk hme HOK HO1 HBX
    gi_step
    gi_step
    gi_step
    refine region_late (S := fun v => Hid (Boxed v gl 25 (.slice p L c) ∧ Boxed v g2 3 (.int .i64 (sk : Int)) ∧ Boxed v w.heap.size 3 (.int .i64 (n : Int)))) [11] (by kernel_rfl) (by kernel_rfl) (by rintro ⟨_, _, h⟩; exact h) (hide ⟨(bx_drew HV.out), (bx_drew HS2.out), (bx_drew HNB.out)⟩) (fun hHeld => ?_)
    refine take_dstT (i := 0) (d := 31) (v := ?_) rfl rfl (by kernel_rfl) (by kernel_rfl) (by kernel_rfl) (by kernel_rfl) (fun _ _ _ h => h) (by rfl) hHeld ?_ ?_
    rotate_left
    · intro wZ hSw; have hfS := (fun (v : World) (h : Hid (Boxed v gl 25 (.slice p L c) ∧ Boxed v g2 3 (.int .i64 (sk : Int)) ∧ Boxed v w.heap.size 3 (.int .i64 (n : Int)))) => h.out.1.cell) wZ hSw; clear hSw; go_simp; first | (with_reducible rfl) | (rw [if_pos (by omega)]; with_reducible rfl) | skip
    try simp only [Act.put, List.setIfInBounds_toArray, List.set_cons_zero, List.set_cons_succ]
    refine take_dstT (i := 1) (d := 32) (v := ?_) rfl rfl (by kernel_rfl) (by kernel_rfl) (by kernel_rfl) (by kernel_rfl) (fun _ _ _ h => h) (by rfl) hHeld ?_ ?_
    rotate_left
    · intro wZ hSw; have hfS := (fun (v : World) (h : Hid (Boxed v gl 25 (.slice p L c) ∧ Boxed v g2 3 (.int .i64 (sk : Int)) ∧ Boxed v w.heap.size 3 (.int .i64 (n : Int)))) => h.out.2.1.cell) wZ hSw; clear hSw; go_simp; first | (with_reducible rfl) | (rw [if_pos (by omega)]; with_reducible rfl) | skip
    try simp only [Act.put, List.setIfInBounds_toArray, List.set_cons_zero, List.set_cons_succ]
    refine take_dstT (i := 2) (d := 33) (v := ?_) rfl rfl (by kernel_rfl) (by kernel_rfl) (by kernel_rfl) (by kernel_rfl) (fun _ _ _ h => h) (by rfl) hHeld ?_ ?_
    rotate_left
    · intro wZ hSw; have hfS := (fun (v : World) (h : Hid (Boxed v gl 25 (.slice p L c) ∧ Boxed v g2 3 (.int .i64 (sk : Int)) ∧ Boxed v w.heap.size 3 (.int .i64 (n : Int)))) => h.out.2.1.cell) wZ hSw; clear hSw; go_simp; first | (with_reducible rfl) | (rw [if_pos (by omega)]; with_reducible rfl) | skip
    try simp only [Act.put, List.setIfInBounds_toArray, List.set_cons_zero, List.set_cons_succ]
    refine take_dstT (i := 3) (d := 34) (v := ?_) rfl rfl (by kernel_rfl) (by kernel_rfl) (by kernel_rfl) (by kernel_rfl) (fun _ _ _ h => h) (by rfl) hHeld ?_ ?_
    rotate_left
    · intro wZ hSw; have hfS := (fun (v : World) (h : Hid (Boxed v gl 25 (.slice p L c) ∧ Boxed v g2 3 (.int .i64 (sk : Int)) ∧ Boxed v w.heap.size 3 (.int .i64 (n : Int)))) => h.out.2.2.cell) wZ hSw; clear hSw; go_simp; first | (with_reducible rfl) | (rw [if_pos (by omega)]; with_reducible rfl) | skip
    try simp only [Act.put, List.setIfInBounds_toArray, List.set_cons_zero, List.set_cons_succ]
    refine take_dstT (i := 4) (d := 35) (v := ?_) rfl rfl (by kernel_rfl) (by kernel_rfl) (by kernel_rfl) (by kernel_rfl) (fun _ _ _ h => h) (by rfl) hHeld ?_ ?_
    rotate_left
    · intro wZ hSw; clear hSw; go_simp; first | (with_reducible rfl) | (rw [if_pos (by omega)]; with_reducible rfl) | skip
    try simp only [Act.put, List.setIfInBounds_toArray, List.set_cons_zero, List.set_cons_succ]
    refine take_dstT (i := 5) (d := 36) (v := ?_) rfl rfl (by kernel_rfl) (by kernel_rfl) (by kernel_rfl) (by kernel_rfl) (fun _ _ _ h => h) (by rfl) hHeld ?_ ?_
    rotate_left
    · intro wZ hSw; have hfS := (fun (v : World) (h : Hid (Boxed v gl 25 (.slice p L c) ∧ Boxed v g2 3 (.int .i64 (sk : Int)) ∧ Boxed v w.heap.size 3 (.int .i64 (n : Int)))) => h.out.1.cell) wZ hSw; clear hSw; go_simp; first | (with_reducible rfl) | (rw [if_pos (by omega)]; with_reducible rfl) | skip
    try simp only [Act.put, List.setIfInBounds_toArray, List.set_cons_zero, List.set_cons_succ]
    refine take_dstT (i := 6) (d := 37) (v := ?_) rfl rfl (by kernel_rfl) (by kernel_rfl) (by kernel_rfl) (by kernel_rfl) (fun _ _ _ h => h) (by rfl) hHeld ?_ ?_
    rotate_left
    · intro wZ hSw; clear hSw; go_simp; first | (with_reducible rfl) | (rw [if_pos (by omega)]; with_reducible rfl) | skip
    try simp only [Act.put, List.setIfInBounds_toArray, List.set_cons_zero, List.set_cons_succ]
    refine take_dstT (i := 7) (d := 38) (v := ?_) rfl rfl (by kernel_rfl) (by kernel_rfl) (by kernel_rfl) (by kernel_rfl) (fun _ _ _ h => h) (by rfl) hHeld ?_ ?_
    rotate_left
    · intro wZ hSw; clear hSw; go_simp; first | (with_reducible rfl) | (rw [if_pos (by omega)]; with_reducible rfl) | skip
    try simp only [Act.put, List.setIfInBounds_toArray, List.set_cons_zero, List.set_cons_succ]
    refine take_dstT (i := 8) (d := 39) (v := ?_) rfl rfl (by kernel_rfl) (by kernel_rfl) (by kernel_rfl) (by kernel_rfl) (fun _ _ _ h => h) (by rfl) hHeld ?_ ?_
    rotate_left
    · intro wZ hSw; refine exec_min (.const (.int .i64 16)) (.tmp 38) #[3, 3] ?_ .i64 16 ((sk : Int) + (n : Int) - (L : Int)) (m : Int) ?_ ?_ HMin.out <;> rfl
    try simp only [Act.put, List.setIfInBounds_toArray, List.set_cons_zero, List.set_cons_succ]
    refine take_dstT (i := 9) (d := 40) (v := ?_) rfl rfl (by kernel_rfl) (by kernel_rfl) (by kernel_rfl) (by kernel_rfl) (fun _ _ _ h => h) (by rfl) hHeld ?_ ?_
    rotate_left
    · intro wZ hSw; refine exec_slice16 (.tmp 12) (.tmp 32) (.tmp 39) ?_ Bx sk m k d ?_ ?_ ?_ q1 q2 ok2 hd <;> rfl
    try simp only [Act.put, List.setIfInBounds_toArray, List.set_cons_zero, List.set_cons_succ]
    refine wpAnyT_ready (rs := [10]) (by kernel_rfl) (by simp) ?_
    refine (AllReadyT.cons rfl (fun K hK => ?_) AllReadyT.nil)
    refine wp_append_bytes_dst rfl (.tmp 31) (.tmp 40) rfl w.heap.size (.slice p L c) row rfl L HLR.out.symm HW.out (some ⟨Bx, sk, none⟩) k d ys yl rfl HYS.out (fun e => by cases e) (by omega) (Nat.le_trans hw0 HQ3.out) ?_; intro v' w' hown' hgrow; obtain ⟨p', c', rfl⟩ := own_val hown'; have HO := hide hown'; have HG := hide hgrow; clear hown' hgrow; have HK3 : Hid (Boxed w' gl 25 (.slice p L c) ∧ Boxed w' g2 3 (.int .i64 (sk : Int)) ∧ Boxed w' w.heap.size 3 (.int .i64 (n : Int))) := hide ⟨(bx_drew HV.out).kept HG.out ((bx_drew HV.out).not_row (by decide) HW.out), (bx_drew HS2.out).kept HG.out ((bx_drew HS2.out).not_row (by decide) HW.out), (bx_drew HNB.out).kept HG.out ((bx_drew HNB.out).not_row (by decide) HW.out)⟩; have c0 := HK3.out.1.cell; have f0 := HK3.out.1.frozen
    refine hK.out _ _ ?_ (fun hHeld => ?_)
    · exact HK3
    clear hK K
    try simp only [Act.put, List.setIfInBounds_toArray, List.set_cons_zero, List.set_cons_succ]
    refine wpAnyT_ready (rs := [11]) (by kernel_rfl) (by simp) ?_
    refine (AllReadyT.last rfl (by decide) (fun K hK => ?_) AllReadyT.nil)
    go_simp
    refine hK.out _ _ ?_
    clear hK K
    try simp only [Act.put, List.setIfInBounds_toArray, List.set_cons_zero, List.set_cons_succ]
    refine wpAnyT_done (by kernel_rfl) ?_ _
    have b2 := HK3.out.2.1.other (B' := gl) (fun e => hgg e.symm) (.slice p' (L + k) c')
    have c1 := b2.cell
    have f1 := b2.frozen
    have o3 : (w'.setCell ⟨gl, 0, none⟩ (.slice p' (L + k) c')).ownsRow w.heap.size 5 1 (.slice p' (L + k) c') (L + k) (u8s (row ++ ys)) := HO.out.kept (grownBy_setCell' w' gl _) (.inr (HK3.out.1.not_row (by decide) HO.out).symm)
    have o4 : ((w'.setCell ⟨gl, 0, none⟩ (.slice p' (L + k) c')).setCell ⟨g2, 0, none⟩ (.int .i64 0)).ownsRow w.heap.size 5 1 (.slice p' (L + k) c') (L + k) (u8s (row ++ ys)) := o3.kept (grownBy_setCell' _ g2 _) (.inr (b2.not_row (by decide) o3).symm)
    have HP : Hid (KeepsFrom w4.heap.size W ((w'.setCell ⟨gl, 0, none⟩ (.slice p' (L + k) c')).setCell ⟨g2, 0, none⟩ (.int .i64 0)) ∧ Keeps [g2 + 1 + 1 + 1, g2 + 1, gn, gk] W ((w'.setCell ⟨gl, 0, none⟩ (.slice p' (L + k) c')).setCell ⟨g2, 0, none⟩ (.int .i64 0)) ∧ StI w ((w'.setCell ⟨gl, 0, none⟩ (.slice p' (L + k) c')).setCell ⟨g2, 0, none⟩ (.int .i64 0)) gl g2 n gn gk e0 nn w4.heap.size key O'.1 O'.2) := by
      have hit : ItM W.drew (g2 + 1 + 1 + 1) (g2 + 1) gn gk (e0 : Int) nn key := ⟨HIT2.out.e, HIT2.out.b, HIT2.out.n, HIT2.out.k⟩
      have k1 : Keeps [g2 + 1 + 1 + 1, g2 + 1, gn, gk] W.drew w' := hit.not_row HW.out HG.out
      have k2 : Keeps [g2 + 1 + 1 + 1, g2 + 1, gn, gk] W ((w'.setCell ⟨gl, 0, none⟩ (.slice p' (L + k) c')).setCell ⟨g2, 0, none⟩ (.int .i64 0)) :=
        (Keeps.trans (show Keeps _ W w' from k1) (Keeps.set (by simp; omega))).trans (Keeps.set (by simp; omega))
      have kf : KeepsOthers W ((w'.setCell ⟨gl, 0, none⟩ (.slice p' (L + k) c')).setCell ⟨g2, 0, none⟩ (.int .i64 0)) :=
        (KeepsOthers.trans (show KeepsOthers W w' from ⟨(app_keeps HW.out HG.out).size, (app_keeps HW.out HG.out).same⟩) (KeepsOthers.setCell _ _ _)).trans (KeepsOthers.setCell _ _ _)
      have hlen2 : (row ++ ys).length = L + k := by rw [List.length_append, yl, HLR.out]
      refine ⟨kf.from _, k2, ?_⟩
      rw [HE1.out]
      refine ⟨⟨_, (HK3.out.1.set _).other hgg _, by rw [hlen2]; exact o4, trivial⟩, b2.set _, (HK3.out.2.2.other (by omega) _).other (by omega) _, ?_, HIT2.out.kept k2, ?_⟩
      · have b1 : Below w.heap.size w w' := HBW.out.drew.grown HG.out HBW.out.drew.size (fun j e => (HW.out.lt j e).1)
        exact (b1.setCell (show w.heap.size ≤ gl by omega) _).setCell (show w.heap.size ≤ g2 by omega) _
      · exact Nat.le_trans HQ3.out kf.size
    clear o3 o4 b2 HE1 HYS HV HW HS2 HNB HIT2 HBW HLR HO HG HK3 wa1 wa2 HMin c0 f0
    gi_wp2
    have h := HP.out
    rw [HOE.out] at h
    exact h
  case done =>
    rintro D xs W hD hxs hI hKD
    subst hxs
    obtain ⟨⟨v, hv, hown, _⟩, hsk, hnb, hB, hit, hm⟩ := hI
    rw [HT.out] at hown
    rw [HTL.out] at hown
    obtain ⟨p, c, rfl⟩ := own_val hown
    have cv := hv.cell
    have HOW := hide hown
    have HBB := hide hB
    have hsz := hB.size
    clear hv hown hsk hnb hB hit hm HT HTL I0 HOK HO0 HO1 HBL HIT hlt
    go_wp2
    refine ⟨by simp, .inl ⟨_, _, rfl, run_takeDeferred hKD, ?_⟩⟩
    exact ⟨_, results_tmp rfl _ _ _, _, rfl, ownsRow_putObj HOW.out _ hKD rfl, HBB.out.trans (belowK_b (w := w) (Nat.le_refl _) W D _ _ (by omega) hKD rfl rfl)⟩
  case stop => 
    rintro D c pre W _ _ h _
    exact h.elim

theorem stream_any (key : List Nat) (gn gk nn f n : Nat) (w : World) (hk : Blk key) (hnn : nn < 18446744073709551616) (hN : Arr w gn 23 [.int .u64 (nn : Int)]) (hK : Arr w gk 22 (u8s key)) (hf : f ≤ 1099511627776) (hn : n ≤ 1048576) :
    Calls Try.prog 19 #[.func (.func 28) #[] #[.pointer (some ⟨gn, 0, none⟩), .pointer (some ⟨gk, 0, none⟩)], .int .i64 (f : Int), .int .i64 (n : Int)] w fun r w' => ∃ v, r = .returned v ∧ w'.ownsRow w.heap.size 5 1 v n (u8s (stF (hbF key nn) f n)) ∧ Below w.heap.size w w' :=
  stream_of key gn gk nn f n (f % 16) (f / 16) ((f + n + 15) / 16) _ w hk hnn hN hK hf hn rfl rfl rfl rfl _ (stF_length _ _ _) (outS_all (fun i => (hbF_blk hk nn i).len) f n)

end Go.Proofs.Ytflakgigekfgcaa
