/-
  A walk: the law's blocks: a flow goes over its blocks, twice, and may be left.
-/
import Derived.Test.YtflakgigekfgcaaCJ
namespace Go.Proofs.Ytflakgigekfgcaa
open Go.RowKit Go.Shelf
attribute [local go_sem] Oper.semAt_some

theorem nums_len {q k : Nat} {pre : List Nat} (h : pre = numsF q k) : pre.length = k := by rw [h, numsF_length]
theorem nums_last {q k x : Nat} {pre : List Nat} (h : pre ++ [x] = numsF q k) : x = q + pre.length := by
  have hl : pre.length + 1 = k := by have := congrArg List.length h; simpa [numsF_length] using this
  rw [← hl, numsF_succ] at h
  have := (List.append_inj' h rfl).2
  simpa using this

set_option maxHeartbeats 8000000 in
set_option maxRecDepth 100000 in
theorem lawblocks_of (key : List Nat) (nn q g : Nat) (B : Nat → List Nat) (w : World) (hk : Blk key) (hB : ∀ i, Blk (B i)) (hq : q ≤ 65536)
    (h1 : ∀ v, Hid (Below w.heap.size w v) → Calls Try.prog 17 #[.pointer (some ⟨g, 0, none⟩)] v fun r w' => ∃ gs ge gb gn gq, r = .returned (.func (.func 33) #[] #[.pointer (some ⟨gs, 0, none⟩), .pointer (some ⟨ge, 0, none⟩), .pointer (some ⟨gb, 0, none⟩)]) ∧ Arr w' gs 3 [.int .i64 (q : Int)] ∧ ItM w' ge gb gn gq 65536 nn key ∧ Below v.heap.size v w')
    (h2 : ∀ gs ge gb gn gq v, Arr v gs 3 [.int .i64 (q : Int)] → ItM v ge gb gn gq 65536 nn key → SeqStopsK Fence.wide 8 Try.prog 33 #[.pointer (some ⟨gs, 0, none⟩), .pointer (some ⟨ge, 0, none⟩), .pointer (some ⟨gb, 0, none⟩)] (fun x : Nat => #[Value.int .i64 ((x : Nat) : Int), .agg (u8s (B x)).toArray]) (Keeps [ge, gb, gn, gq])
      (fun ys => ys = numsF q (65536 - q)) (fun pre => ∃ k, k ≤ 65536 - q ∧ pre = numsF q k) (65536 - q) v)
    (h3 : ∀ (i : Nat) v, i < 131072 → Calls Try.prog 26 #[.agg (u8s key).toArray, .int .u64 (nn : Int), .int .i64 (i : Int)] v fun e w' => e = .returned (.agg (u8s (B i)).toArray) ∧ Below v.heap.size v w') :
    Calls Try.prog 16 #[.pointer (some ⟨g, 0, none⟩), .agg (u8s key).toArray, .int .u64 (nn : Int), .int .i64 (q : Int)] w fun e w' => e = .returned (.bool true) ∧ Below w.heap.size w w' := by
  have H1 := hide h1
  have H2 := hide h2
  have H3 := hide h3
  have HB := hide hB
  have IKl := hide (szl hk)
  have en := eql_nilFunc
  have B0 : Hid (Arr ((((w.alloc (Obj.cells (u8s key).toArray 22)).alloc (Obj.cells #[.int .u64 (nn : Int)] 23)).alloc (Obj.cells #[.int .i64 (q : Int)] 3)).alloc (Obj.cells #[.bool false] 4)) w.heap.size 22 (u8s key)
      ∧ Boxed ((((w.alloc (Obj.cells (u8s key).toArray 22)).alloc (Obj.cells #[.int .u64 (nn : Int)] 23)).alloc (Obj.cells #[.int .i64 (q : Int)] 3)).alloc (Obj.cells #[.bool false] 4)) (w.heap.size + 1) 23 (.int .u64 (nn : Int))
      ∧ Boxed ((((w.alloc (Obj.cells (u8s key).toArray 22)).alloc (Obj.cells #[.int .u64 (nn : Int)] 23)).alloc (Obj.cells #[.int .i64 (q : Int)] 3)).alloc (Obj.cells #[.bool false] 4)) (w.heap.size + 1 + 1) 3 (.int .i64 (q : Int))
      ∧ Boxed ((((w.alloc (Obj.cells (u8s key).toArray 22)).alloc (Obj.cells #[.int .u64 (nn : Int)] 23)).alloc (Obj.cells #[.int .i64 (q : Int)] 3)).alloc (Obj.cells #[.bool false] 4)) (w.heap.size + 1 + 1 + 1) 4 (.bool false)
      ∧ Below w.heap.size w ((((w.alloc (Obj.cells (u8s key).toArray 22)).alloc (Obj.cells #[.int .u64 (nn : Int)] 23)).alloc (Obj.cells #[.int .i64 (q : Int)] 3)).alloc (Obj.cells #[.bool false] 4))) :=
    ⟨(((Arr.new w _ (u8s key)).alloc _).alloc _).alloc _, ((Arr.newAt (w.alloc _) _ [.int .u64 (nn : Int)] _ (by simp)).alloc _).alloc _, (Arr.newAt ((w.alloc _).alloc _) _ [.int .i64 (q : Int)] _ (by simp)).alloc _, Arr.newAt (((w.alloc _).alloc _).alloc _) _ [.bool false] _ (by simp),
      ((((Below.refl _ _).alloc (Nat.le_refl _) _).alloc (by simp) _).alloc (by simp; omega) _).alloc (by simp; omega) _⟩
  clear h1 h2 h3 hB hk
  refine (callsIn_wide (n := 9)).1 (callsIn_of_wp_marks Try.func16 rfl trivial ?_ rfl)
  simp only [Try.ntmps16, List.size_toArray, List.length_cons, List.length_nil, Nat.reduceAdd, Nat.reduceSub, Array.replicate_succ, Array.replicate_zero, List.push_toArray, List.append_toArray, List.nil_append, List.cons_append]
  refine wpIn_wide.2 ?_
  go_wp2_with fail
  generalize ((((w.alloc (Obj.cells (u8s key).toArray 22)).alloc (Obj.cells #[.int .u64 (nn : Int)] 23)).alloc (Obj.cells #[.int .i64 (q : Int)] 3)).alloc (Obj.cells #[.bool false] 4)) = w1 at *
  refine (H1.out w1 B0.out.2.2.2.2).mono ?_
  rintro r w2 ⟨gs, ge, gb, gn, gq, rfl, hs, hit, hb⟩
  have B2 : Hid (Arr w2 w.heap.size 22 (u8s key) ∧ Boxed w2 (w.heap.size + 1) 23 (.int .u64 (nn : Int)) ∧ Boxed w2 (w.heap.size + 1 + 1) 3 (.int .i64 (q : Int)) ∧ Boxed w2 (w.heap.size + 1 + 1 + 1) 4 (.bool false) ∧ Below w.heap.size w w2 ∧ Arr w2 gs 3 [.int .i64 (q : Int)] ∧ ItM w2 ge gb gn gq 65536 nn key) :=
    ⟨B0.out.1.kept hb, Arr.kept (vs := [_]) B0.out.2.1 hb, Arr.kept (vs := [_]) B0.out.2.2.1 hb, Arr.kept (vs := [_]) B0.out.2.2.2.1 hb, B0.out.2.2.2.2.trans (hb.mono B0.out.2.2.2.2.size), hs, hit⟩
  clear hs hit hb B0 H1
  have Bw2 := B2
  clear B2
  obtain ⟨N, hN⟩ : ∃ N, N = 65536 - q := ⟨_, rfl⟩
  obtain ⟨c, hc⟩ : ∃ c, c = min 3 N := ⟨_, rfl⟩
  have es : (65536 : Int) - (q : Int) = (N : Int) := by omega
  have emx : (if (0 : Int) < (N : Int) then (N : Int) else 0) = (N : Int) := by split <;> omega
  have emn : (if (N : Int) < 3 then (N : Int) else 3) = (c : Int) := by split <;> omega
  go_upto_region 4 with fail
  go_wp2_with fail
  refine wp_loop_rounds 3 ?_
  rw [rounds_succ]
  generalize hR2 : Code.rounds _ _ _ 2 = R2
  have HR2 := hide hR2
  clear hR2
  go_wp2_with fail
  have NEXT : ∀ (D : Nat) (W : World) (v1 v2 v3 v4 v5 : Value), w2.heap.size < D → Hid (Arr W w.heap.size 22 (u8s key) ∧ Boxed W (w.heap.size + 1) 23 (.int .u64 (nn : Int)) ∧ Boxed W (w.heap.size + 1 + 1) 3 (.int .i64 (q : Int)) ∧ Boxed W (w.heap.size + 1 + 1 + 1) 4 (.bool false) ∧ Below w.heap.size w W ∧ Arr W gs 3 [.int .i64 (q : Int)] ∧ ItM W ge gb gn gq 65536 nn key) → Hid (W.heap[D]? = some (.deferred (some []))) → Hid (Below w2.heap.size w2 W) → R2 { tmps := #[.pointer (some ⟨g, 0, none⟩), .agg (u8s key).toArray, .int .u64 (nn : Int), .int .i64 (q : Int), undef, .pointer (some ⟨w.heap.size, 0, none⟩), .pointer (some ⟨w.heap.size + 1, 0, none⟩), .pointer (some ⟨w.heap.size + 1 + 1, 0, none⟩), .pointer (some ⟨w.heap.size + 1 + 1 + 1, 0, none⟩), Value.func (Fn.func 33) #[] #[Value.pointer (some ⟨gs, 0, none⟩), Value.pointer (some ⟨ge, 0, none⟩), Value.pointer (some ⟨gb, 0, none⟩)], .int .i64 1, .pointer (some ⟨w2.heap.size, 0, none⟩), undef, undef, .pointer (some ⟨g, 0, none⟩), Value.func (Fn.func 33) #[] #[Value.pointer (some ⟨gs, 0, none⟩), Value.pointer (some ⟨ge, 0, none⟩), Value.pointer (some ⟨gb, 0, none⟩)], Value.func (Fn.func 33) #[] #[Value.pointer (some ⟨gs, 0, none⟩), Value.pointer (some ⟨ge, 0, none⟩), Value.pointer (some ⟨gb, 0, none⟩)], .bool false, .int .i64 0, .bool true, .int .i64 0, .int .i64 1, Value.func (Fn.func 33) #[] #[Value.pointer (some ⟨gs, 0, none⟩), Value.pointer (some ⟨ge, 0, none⟩), Value.pointer (some ⟨gb, 0, none⟩)], undef, undef, undef, undef, undef, undef, undef, undef, undef, undef, undef, undef, undef, undef, undef, undef, undef, undef, undef, v1, v2, v3, v4, v5, .bool false], defers := [{ target := .collected D, args := #[] }] } W := by
    intro D w5 v1 v2 v3 v4 v5 hD Bw5 HK BL
    have hlowA : w.heap.size + 1 + 1 + 1 < w2.heap.size := Bw2.out.2.2.2.1.lt
    have hs25 := BL.out.size
    have hDl : D < w5.heap.size := (Array.getElem?_eq_some_iff.1 HK.out).1
    have hw2 : w.heap.size ≤ w2.heap.size := Bw2.out.2.2.2.2.1.size
    rw [← HR2.out, rounds_succ]
    generalize hR1 : Code.rounds _ _ _ 1 = R1
    have HR1 := hide hR1
    clear hR1 HR2 Bw2
    go_wp2_with fail
    have LAST : ∀ (D2 : Nat) (W : World) (v1 v2 v3 v4 v5 : Value), w5.heap.size < D2 → Hid (Arr W w.heap.size 22 (u8s key) ∧ Boxed W (w.heap.size + 1) 23 (.int .u64 (nn : Int)) ∧ Boxed W (w.heap.size + 1 + 1) 3 (.int .i64 (q : Int)) ∧ Boxed W (w.heap.size + 1 + 1 + 1) 4 (.bool false) ∧ Below w.heap.size w W ∧ Arr W gs 3 [.int .i64 (q : Int)] ∧ ItM W ge gb gn gq 65536 nn key) → Hid (W.heap[D2]? = some (.deferred (some []))) → Hid (Below w5.heap.size w5 W) → R1 { tmps := #[.pointer (some ⟨g, 0, none⟩), .agg (u8s key).toArray, .int .u64 (nn : Int), .int .i64 (q : Int), undef, .pointer (some ⟨w.heap.size, 0, none⟩), .pointer (some ⟨w.heap.size + 1, 0, none⟩), .pointer (some ⟨w.heap.size + 1 + 1, 0, none⟩), .pointer (some ⟨w.heap.size + 1 + 1 + 1, 0, none⟩), Value.func (Fn.func 33) #[] #[Value.pointer (some ⟨gs, 0, none⟩), Value.pointer (some ⟨ge, 0, none⟩), Value.pointer (some ⟨gb, 0, none⟩)], .int .i64 2, .pointer (some ⟨w5.heap.size, 0, none⟩), undef, undef, .pointer (some ⟨g, 0, none⟩), Value.func (Fn.func 33) #[] #[Value.pointer (some ⟨gs, 0, none⟩), Value.pointer (some ⟨ge, 0, none⟩), Value.pointer (some ⟨gb, 0, none⟩)], Value.func (Fn.func 33) #[] #[Value.pointer (some ⟨gs, 0, none⟩), Value.pointer (some ⟨ge, 0, none⟩), Value.pointer (some ⟨gb, 0, none⟩)], .bool false, .int .i64 1, .bool true, .int .i64 1, .int .i64 2, Value.func (Fn.func 33) #[] #[Value.pointer (some ⟨gs, 0, none⟩), Value.pointer (some ⟨ge, 0, none⟩), Value.pointer (some ⟨gb, 0, none⟩)], undef, undef, undef, undef, undef, undef, undef, undef, undef, undef, undef, undef, undef, undef, undef, undef, undef, undef, undef, v1, v2, v3, v4, v5, .bool false], defers := [{ target := .collected D2, args := #[] }, { target := .collected D, args := #[] }] } W := by
      intro D2 W v1 v2 v3 v4 v5 hD2 BX HK2 BL2
      have HK1 : Hid (W.heap[D]? = some (.deferred (some []))) := (BL2.out.block D hDl).trans HK.out
      have b7 := BX.out.2.2.2.1
      have c7 := b7.cell
      have f7 := b7.frozen
      have HB7 := hide BX.out.2.2.2.2.1
      rw [← HR1.out, rounds_succ]
      generalize hR0 : Code.rounds _ _ _ 0 = R0
      clear hR0 BX
      go_wp2
      have k2 := (KeepsOthers.setCell W ⟨w.heap.size + 1 + 1 + 1, 0, none⟩ (.bool true)).same D2 _ HK2.out rfl
      have k1 := (KeepsOthers.setCell W ⟨w.heap.size + 1 + 1 + 1, 0, none⟩ (.bool true)).same D _ HK1.out rfl
      have k1' : ((W.setCell ⟨w.heap.size + 1 + 1 + 1, 0, none⟩ (.bool true)).putObj D2 (.deferred none)).heap[D]? = some (.deferred (some [])) := (World.putObj_heap_other (by omega)).trans k1
      have c8 := (b7.set (.bool true)).cell
      have c9 := cell_kept c8 (grownBy_putObj' _ D2 (.deferred none)) (fun r e => by cases e; exact ⟨_, k2, rfl⟩)
      have c10 := cell_kept c9 (grownBy_putObj' _ D (.deferred none)) (fun r e => by cases e; exact ⟨_, k1', rfl⟩)
      have bA := HB7.out.setCell (p := ⟨w.heap.size + 1 + 1 + 1, 0, none⟩) (by simp only; omega) (.bool true)
      have bB := bA.trans (belowK_b (w := w) (Nat.le_refl _) _ D2 _ (.deferred none) (by omega) k2 rfl rfl)
      have bC := bB.trans (belowK_b (w := w) (Nat.le_refl _) _ D _ (.deferred none) (by omega) k1' rfl rfl)
      refine ⟨by simp, .inl ⟨_, _, rfl, run_takeDeferred k2, ?_⟩⟩
      refine ⟨by simp, .inl ⟨_, _, rfl, run_takeDeferred k1', ?_⟩⟩
      refine ⟨.bool true, ?_, rfl, bC⟩
      simp [results, Try.f16, go_sem, c10]
    have HN1 : Hid (Boxed (w5.alloc (Obj.cells #[.int .i64 0] 3)) w5.heap.size 3 (.int .i64 ((0 : Nat) : Int)) ∧ Below w5.heap.size w5 (w5.alloc (Obj.cells #[.int .i64 0] 3))) := ⟨Boxed.new w5 _ _, (Below.refl _ _).alloc (Nat.le_refl _) _⟩
    have hsn1 : w5.heap.size < (w5.alloc (Obj.cells #[.int .i64 0] 3)).heap.size := HN1.out.1.lt
    have hlt1 : ∀ k ∈ [ge, gb, gn, gq], k < w5.heap.size := Bw5.out.2.2.2.2.2.2.lt
    have HIT1 := hide (H2.out gs ge gb gn gq (w5.alloc (Obj.cells #[.int .i64 0] 3)) (Bw5.out.2.2.2.2.2.1.alloc _) (Bw5.out.2.2.2.2.2.2.below HN1.out.2))
    have hlow1 : w.heap.size + 1 + 1 + 1 < w5.heap.size := Bw5.out.2.2.2.1.lt
    generalize w5.alloc (Obj.cells #[.int .i64 0] 3) = wm at *
    refine wpIn_wide.1 (wpIn_rangeFunc_ownH (n := 9) rfl (by omega) (gf := 33) (lb := #[.pointer (some ⟨gs, 0, none⟩), .pointer (some ⟨ge, 0, none⟩), .pointer (some ⟨gb, 0, none⟩)]) rfl trivial (enters_of Try.func33 (by kernel_rfl) rfl)
      HIT1.out (fun h k => Keeps.trans h k) (Keeps.put (fun k hk => Nat.lt_trans (hlt1 k hk) hsn1)) (Below.refl _ _) (fun _ => rfl)
      (fun pre W => (Boxed W w5.heap.size 3 (.int .i64 (pre.length : Int)) ∧ Below w5.heap.size w5 W) ∧ pre.length < 3)
      (fun c pre W => (c = .ret ∧ ∀ k, pre ≠ numsF q k) ∨ (c = .exit 2 ∧ pre.length = 3 ∧ Boxed W w5.heap.size 3 (.int .i64 3) ∧ Below w5.heap.size w5 W))
      (OwnFrom.and (OwnFrom.and (Own.from (boxed_own _ 3 (fun pre : List Nat => .int .i64 (pre.length : Int))) _) (ownFrom_below (Nat.le_refl _) (Nat.le_of_lt hsn1))) (ownFrom_pure _ _))
      (fun c s X Y row hs hg hr => by
        rcases hs with h | ⟨h1, h2, h3, h4⟩
        · exact Or.inl h
        · exact Or.inr ⟨h1, h2, boxed_own _ 3 (fun (_ : Unit) => .int .i64 3) () X Y row h3 hg (fun r e => (hr r e).2), ownFrom_below (β := Unit) (Nat.le_refl _) (Nat.le_of_lt hsn1) () X Y row h4 hg hr⟩)
      ⟨⟨HN1.out.1, HN1.out.2⟩, by simp⟩
      (fun x a' W => ∃ Bx, Arr W Bx 22 (u8s (B x)) ∧ a' = { tmps := #[.pointer (some ⟨g, 0, none⟩), .agg (u8s key).toArray, .int .u64 (nn : Int), .int .i64 (q : Int), undef, .pointer (some ⟨w.heap.size, 0, none⟩), .pointer (some ⟨w.heap.size + 1, 0, none⟩), .pointer (some ⟨w.heap.size + 1 + 1, 0, none⟩), .pointer (some ⟨w.heap.size + 1 + 1 + 1, 0, none⟩), Value.func (Fn.func 33) #[] #[Value.pointer (some ⟨gs, 0, none⟩), Value.pointer (some ⟨ge, 0, none⟩), Value.pointer (some ⟨gb, 0, none⟩)], .int .i64 1, .pointer (some ⟨w5.heap.size, 0, none⟩), .int .i64 ((x : Nat) : Int), .pointer (some ⟨Bx, 0, none⟩), .pointer (some ⟨g, 0, none⟩), Value.func (Fn.func 33) #[] #[Value.pointer (some ⟨gs, 0, none⟩), Value.pointer (some ⟨ge, 0, none⟩), Value.pointer (some ⟨gb, 0, none⟩)], Value.func (Fn.func 33) #[] #[Value.pointer (some ⟨gs, 0, none⟩), Value.pointer (some ⟨ge, 0, none⟩), Value.pointer (some ⟨gb, 0, none⟩)], .bool false, .int .i64 1, .bool true, .int .i64 0, .int .i64 1, Value.func (Fn.func 33) #[] #[Value.pointer (some ⟨gs, 0, none⟩), Value.pointer (some ⟨ge, 0, none⟩), Value.pointer (some ⟨gb, 0, none⟩)], .int .i64 ((x : Nat) : Int), .agg (u8s (B x)).toArray, undef, undef, undef, undef, undef, undef, undef, undef, undef, undef, undef, undef, undef, undef, undef, undef, undef, v1, v2, v3, v4, v5, .bool false], defers := [] })
      (fun x a' _ X Y row hs hg hr => by obtain ⟨Bx, h2, h3⟩ := hs; exact ⟨Bx, Arr.own Bx 22 (fun (_ : Unit) => u8s (B x)) () X Y row h2 hg (fun r e => (hr r e).2), h3⟩)
      ?assign1 ?body1 ?done1 ?stop1)
    case assign1 =>
      rintro l pre x W K ⟨⟨hb1, hb2⟩, hl3⟩ hK
      gi_step
      gi_step
      refine region_list (by kernel_rfl) (by rintro ⟨_, _, h⟩; exact h) ?_
      go_wp2_with (refine wpList_store_row rfl 22 _ _ rfl W.heap.size (u8s (B x)).toArray rfl rfl 22 _ (Arr.new W _ (u8s z16)) (szb (HB.out x)) (old16 (HB.out x).len) (one_u8s _) ?_)
      refine region_list (by kernel_rfl) (by rintro ⟨_, _, h⟩; exact h) ?_
      go_wp2_with (refine wpList_store_row rfl 22 _ _ rfl W.heap.size (u8s (B x)).toArray rfl rfl 22 _ (Arr.new W _ (u8s z16)) (szb (HB.out x)) (old16 (HB.out x).len) (one_u8s _) ?_)
      rw [World.setRow_alloc_new]
      have hsW := hb2.size
      exact hK _ _ ((KeepsOthers.alloc _ _).from _) (Keeps.of_below ((Below.refl _ W).alloc (Nat.le_refl _) _) (fun k hk => Nat.lt_of_lt_of_le (hlt1 k hk) hsW)) ⟨⟨hb1.alloc _, hb2.alloc hsW _⟩, hl3⟩ ⟨W.heap.size, Arr.new W _ _, rfl⟩
    case body1 =>
      rintro l pre x a' W hl _ ⟨⟨hb1, hb2⟩, hl3⟩ ⟨Bx, hX, ha⟩ hlen
      dsimp only at ha
      subst ha
      obtain ⟨m, hm⟩ : ∃ m, m = pre.length := ⟨_, rfl⟩
      rw [← hm] at hb1 hl3
      obtain ⟨y, hy⟩ : ∃ y, y = q + m := ⟨_, rfl⟩
      have BK := hide (Bw5.out.1.kept hb2)
      have BN : Hid (Boxed W (w.heap.size + 1) 23 (.int .u64 (nn : Int))) := Arr.kept (vs := [_]) Bw5.out.2.1 hb2
      have BF : Hid (Boxed W (w.heap.size + 1 + 1) 3 (.int .i64 (q : Int))) := Arr.kept (vs := [_]) Bw5.out.2.2.1 hb2
      have BR : Hid (Boxed W (w.heap.size + 1 + 1 + 1) 4 (.bool false)) := Arr.kept (vs := [_]) Bw5.out.2.2.2.1 hb2
      have BB := hide hb1
      have BL := hide hb2
      have HX := hide hX
      have HM := hide hm
      have HY := hide hy
      have IB := hide (szl (HB.out x))
      have hsW := hb2.size
      have ey : (q : Int) + (m : Int) = (y : Int) := by omega
      have wy : IntKind.i64.wrap (y : Int) = (y : Int) := by rw [IntKind.wrap_i64]; omega
      have y13 : y < 131072 := by omega
      clear hX hm hy hb1 hb2
      gi_step
      gi_step
      gi_step
      gi_step
      by_cases hxe : x = y
      · subst hxe
        have EX := hide (fun v => eq_blk (HB.out x) (HB.out x) v)
        refine region_held_drew (S := fun v => Hid (Below W.heap.size W v)) (by kernel_rfl) (by kernel_rfl) (by rintro ⟨_, _, h⟩; exact h) (hide (Below.refl W.heap.size W).drew) (fun hHeld => ?_)
        refine take_dstH (i := 0) (d := 25) (v := ?_) rfl rfl (by kernel_rfl) (by kernel_rfl) (by kernel_rfl) (fun _ _ _ h => h) (by rfl) hHeld ?_ ?_
        rotate_left
        · intro wZ hSw; clear hSw; go_simp; first | (with_reducible rfl) | (rw [if_pos (by omega)]; with_reducible rfl) | skip
        try simp only [Act.put, List.setIfInBounds_toArray, List.set_cons_zero, List.set_cons_succ]
        refine take_dstH (i := 1) (d := 26) (v := ?_) rfl rfl (by kernel_rfl) (by kernel_rfl) (by kernel_rfl) (fun _ _ _ h => h) (by rfl) hHeld ?_ ?_
        rotate_left
        · intro wZ hSw; have hfS := (fun (v : World) (h : Hid (Below W.heap.size W v)) => (h.out.cell (p := ⟨w.heap.size + 1 + 1, 0, none⟩) BF.out.lt).trans BF.out.cell) wZ hSw; clear hSw; go_simp; first | (with_reducible rfl) | (rw [if_pos (by omega)]; with_reducible rfl) | skip
        try simp only [Act.put, List.setIfInBounds_toArray, List.set_cons_zero, List.set_cons_succ]
        refine take_dstH (i := 2) (d := 27) (v := ?_) rfl rfl (by kernel_rfl) (by kernel_rfl) (by kernel_rfl) (fun _ _ _ h => h) (by rfl) hHeld ?_ ?_
        rotate_left
        · intro wZ hSw; have hfS := (fun (v : World) (h : Hid (Below W.heap.size W v)) => (h.out.cell (p := ⟨w5.heap.size, 0, none⟩) BB.out.lt).trans BB.out.cell) wZ hSw; clear hSw; go_simp; first | (with_reducible rfl) | (rw [if_pos (by omega)]; with_reducible rfl) | skip
        try simp only [Act.put, List.setIfInBounds_toArray, List.set_cons_zero, List.set_cons_succ]
        refine take_dstH (i := 3) (d := 28) (v := ?_) rfl rfl (by kernel_rfl) (by kernel_rfl) (by kernel_rfl) (fun _ _ _ h => h) (by rfl) hHeld ?_ ?_
        rotate_left
        · intro wZ hSw; clear hSw; go_simp; first | (with_reducible rfl) | (rw [if_pos (by omega)]; with_reducible rfl) | skip
        try simp only [Act.put, List.setIfInBounds_toArray, List.set_cons_zero, List.set_cons_succ]
        refine take_dstH (i := 4) (d := 29) (v := ?_) rfl rfl (by kernel_rfl) (by kernel_rfl) (by kernel_rfl) (fun _ _ _ h => h) (by rfl) hHeld ?_ ?_
        rotate_left
        · intro wZ hSw; clear hSw; go_simp; first | (with_reducible rfl) | (rw [if_pos (by omega)]; with_reducible rfl) | skip
        try simp only [Act.put, List.setIfInBounds_toArray, List.set_cons_zero, List.set_cons_succ]
        refine take_dstH (i := 5) (d := 30) (v := ?_) rfl rfl (by kernel_rfl) (by kernel_rfl) (by kernel_rfl) (fun _ _ _ h => h) (by rfl) hHeld ?_ ?_
        rotate_left
        · intro wZ hSw; clear hSw; go_simp; first | (with_reducible rfl) | (rw [if_pos (by omega)]; with_reducible rfl) | skip
        try simp only [Act.put, List.setIfInBounds_toArray, List.set_cons_zero, List.set_cons_succ]
        refine take_dstH (i := 6) (d := 31) (v := ?_) rfl rfl (by kernel_rfl) (by kernel_rfl) (by kernel_rfl) (fun _ _ _ h => h) (by rfl) hHeld ?_ ?_
        rotate_left
        · intro wZ hSw; refine exec_load_all 22 (.tmp 13) ?_ Bx ?_ 22 (u8s (B x)) _ (HX.out.kept hSw.out) Try.underlying22 rfl IB.out <;> rfl
        try simp only [Act.put, List.setIfInBounds_toArray, List.set_cons_zero, List.set_cons_succ]
        refine take_dstH (i := 7) (d := 32) (v := ?_) rfl rfl (by kernel_rfl) (by kernel_rfl) (by kernel_rfl) (fun _ _ _ h => h) (by rfl) hHeld ?_ ?_
        rotate_left
        · intro wZ hSw; refine exec_load_all 22 (.tmp 5) ?_ w.heap.size ?_ 22 (u8s key) _ (BK.out.kept hSw.out) Try.underlying22 rfl IKl.out <;> rfl
        try simp only [Act.put, List.setIfInBounds_toArray, List.set_cons_zero, List.set_cons_succ]
        refine take_dstH (i := 8) (d := 33) (v := ?_) rfl rfl (by kernel_rfl) (by kernel_rfl) (by kernel_rfl) (fun _ _ _ h => h) (by rfl) hHeld ?_ ?_
        rotate_left
        · intro wZ hSw; have hfS := (fun (v : World) (h : Hid (Below W.heap.size W v)) => (h.out.cell (p := ⟨w.heap.size + 1, 0, none⟩) BN.out.lt).trans BN.out.cell) wZ hSw; clear hSw; go_simp; first | (with_reducible rfl) | (rw [if_pos (by omega)]; with_reducible rfl) | skip
        try simp only [Act.put, List.setIfInBounds_toArray, List.set_cons_zero, List.set_cons_succ]
        refine take_dstH (i := 9) (d := 34) (v := ?_) rfl rfl (by kernel_rfl) (by kernel_rfl) (by kernel_rfl) (fun _ _ _ h => h) (by rfl) hHeld ?_ ?_
        rotate_left
        · intro wZ hSw; clear hSw; go_simp; first | (with_reducible rfl) | (rw [if_pos (by omega)]; with_reducible rfl) | skip
        try simp only [Act.put, List.setIfInBounds_toArray, List.set_cons_zero, List.set_cons_succ]
        refine wpAnyH_ready (rs := [10]) (by kernel_rfl) (by simp) ?_
        refine (AllReadyH.cons rfl (fun K hK => ?_) AllReadyH.nil)
        go_simp
        refine (H3.out x _ y13).mono ?_; rintro e wv ⟨rfl, hbv⟩; have HBv : Hid (Below W.heap.size W wv) := (Hid.out hHeld).trans (hbv.mono (Hid.out hHeld).size); clear hbv
        go_wp2_with fail
        refine hK.out _ _ ?_ (fun hHeld => ?_)
        · exact HBv
        clear hK K
        try simp only [Act.put, List.setIfInBounds_toArray, List.set_cons_zero, List.set_cons_succ]
        refine take_dstH (i := 11) (d := 36) (v := ?_) rfl rfl (by kernel_rfl) (by kernel_rfl) (by kernel_rfl) (fun _ _ _ h => h) (by rfl) hHeld ?_ ?_
        rotate_left
        · intro wZ hSw; refine exec_neq_agg 22 22 (.tmp 31) (.tmp 35) ?_ (u8s (B x)).toArray (u8s (B x)).toArray ?_ ?_ true (guard16n _ _ _ _ _) (by rw [EX.out wZ]; simp) <;> rfl
        try simp only [Act.put, List.setIfInBounds_toArray, List.set_cons_zero, List.set_cons_succ]
        refine take_dstH (i := 12) (d := 37) (v := ?_) rfl rfl (by kernel_rfl) (by kernel_rfl) (by kernel_rfl) (fun _ _ _ h => h) (by rfl) hHeld ?_ ?_
        rotate_left
        · intro wZ hSw; clear hSw; go_simp; first | (with_reducible rfl) | (rw [if_pos (by omega)]; with_reducible rfl) | skip
        try simp only [Act.put, List.setIfInBounds_toArray, List.set_cons_zero, List.set_cons_succ]
        refine wpAnyH_done (by kernel_rfl) ?_ _
        have c1 := (HBv.out.cell (p := ⟨w5.heap.size, 0, none⟩) BB.out.lt).trans BB.out.cell
        have b1 : Boxed wv w5.heap.size 3 (.int .i64 (m : Int)) := Arr.kept (vs := [_]) BB.out HBv.out
        have f1 := b1.frozen
        have KA : Hid (KeepsFrom wm.heap.size W (wv.setCell ⟨w5.heap.size, 0, none⟩ (.int .i64 ((m : Int) + 1))) ∧ Keeps [ge, gb, gn, gq] W (wv.setCell ⟨w5.heap.size, 0, none⟩ (.int .i64 ((m : Int) + 1))) ∧ Boxed (wv.setCell ⟨w5.heap.size, 0, none⟩ (.int .i64 ((m : Int) + 1))) w5.heap.size 3 (.int .i64 ((m : Int) + 1)) ∧ Below w5.heap.size w5 (wv.setCell ⟨w5.heap.size, 0, none⟩ (.int .i64 ((m : Int) + 1)))) :=
          ⟨(below_keeps HBv.out).trans ((KeepsOthers.setCell _ _ _).from _), (Keeps.of_below HBv.out (fun k hk => Nat.lt_of_lt_of_le (hlt1 k hk) hsW)).trans (Keeps.set (fun hm' => by have := hlt1 _ hm'; omega)), b1.set _, (BL.out.trans (HBv.out.mono BL.out.size)).setCell (p := ⟨w5.heap.size, 0, none⟩) (Nat.le_refl _) _⟩
        have c2 := KA.out.2.2.1.cell
        clear hHeld b1 HBv EX BK BN BF BR BB BL HX IB ey wy
        by_cases hm2 : m = 2
        · have hp : (pre ++ [x]).length = 3 := by rw [List.length_append, ← HM.out, hm2]; rfl
          have HP := hide hp
          have h := KA.out.2.2.1
          subst hm2
          clear hp
          gi_wp2
          exact ⟨KA.out.1, Or.inr ⟨rfl, HP.out, h, KA.out.2.2.2⟩⟩
        · have hp : (pre ++ [x]).length = m + 1 := by rw [List.length_append, ← HM.out]; rfl
          have hp3 : ¬ ((m : Int) + 1 = 3) := by omega
          have hm1 : m + 1 < 3 := by omega
          have HP := hide hp
          have h := KA.out.2.2.1
          clear hp
          gi_wp2
          refine ⟨KA.out.1, KA.out.2.1, ⟨⟨?_, KA.out.2.2.2⟩, by rw [HP.out]; exact hm1⟩⟩
          rw [HP.out]
          exact h
      · have hne : ((x : Int) != (y : Int)) = true := bne_iff_ne.2 (by omega)
        refine region_held_drew (S := fun v => Hid (Below W.heap.size W v)) (by kernel_rfl) (by kernel_rfl) (by rintro ⟨_, _, h⟩; exact h) (hide (Below.refl W.heap.size W).drew) (fun hHeld => ?_)
        refine take_dstH (i := 0) (d := 25) (v := ?_) rfl rfl (by kernel_rfl) (by kernel_rfl) (by kernel_rfl) (fun _ _ _ h => h) (by rfl) hHeld ?_ ?_
        rotate_left
        · intro wZ hSw; clear hSw; go_simp; first | (with_reducible rfl) | (rw [if_pos (by omega)]; with_reducible rfl) | skip
        try simp only [Act.put, List.setIfInBounds_toArray, List.set_cons_zero, List.set_cons_succ]
        refine take_dstH (i := 1) (d := 26) (v := ?_) rfl rfl (by kernel_rfl) (by kernel_rfl) (by kernel_rfl) (fun _ _ _ h => h) (by rfl) hHeld ?_ ?_
        rotate_left
        · intro wZ hSw; have hfS := (fun (v : World) (h : Hid (Below W.heap.size W v)) => (h.out.cell (p := ⟨w.heap.size + 1 + 1, 0, none⟩) BF.out.lt).trans BF.out.cell) wZ hSw; clear hSw; go_simp; first | (with_reducible rfl) | (rw [if_pos (by omega)]; with_reducible rfl) | skip
        try simp only [Act.put, List.setIfInBounds_toArray, List.set_cons_zero, List.set_cons_succ]
        refine take_dstH (i := 2) (d := 27) (v := ?_) rfl rfl (by kernel_rfl) (by kernel_rfl) (by kernel_rfl) (fun _ _ _ h => h) (by rfl) hHeld ?_ ?_
        rotate_left
        · intro wZ hSw; have hfS := (fun (v : World) (h : Hid (Below W.heap.size W v)) => (h.out.cell (p := ⟨w5.heap.size, 0, none⟩) BB.out.lt).trans BB.out.cell) wZ hSw; clear hSw; go_simp; first | (with_reducible rfl) | (rw [if_pos (by omega)]; with_reducible rfl) | skip
        try simp only [Act.put, List.setIfInBounds_toArray, List.set_cons_zero, List.set_cons_succ]
        refine take_dstH (i := 3) (d := 28) (v := ?_) rfl rfl (by kernel_rfl) (by kernel_rfl) (by kernel_rfl) (fun _ _ _ h => h) (by rfl) hHeld ?_ ?_
        rotate_left
        · intro wZ hSw; clear hSw; go_simp; first | (with_reducible rfl) | (rw [if_pos (by omega)]; with_reducible rfl) | skip
        try simp only [Act.put, List.setIfInBounds_toArray, List.set_cons_zero, List.set_cons_succ]
        refine take_dstH (i := 4) (d := 29) (v := ?_) rfl rfl (by kernel_rfl) (by kernel_rfl) (by kernel_rfl) (fun _ _ _ h => h) (by rfl) hHeld ?_ ?_
        rotate_left
        · intro wZ hSw; clear hSw; go_simp; first | (with_reducible rfl) | (rw [if_pos (by omega)]; with_reducible rfl) | skip
        try simp only [Act.put, List.setIfInBounds_toArray, List.set_cons_zero, List.set_cons_succ]
        refine take_dstH (i := 5) (d := 30) (v := ?_) rfl rfl (by kernel_rfl) (by kernel_rfl) (by kernel_rfl) (fun _ _ _ h => h) (by rfl) hHeld ?_ ?_
        rotate_left
        · intro wZ hSw; clear hSw; go_simp; first | (with_reducible rfl) | (rw [if_pos (by omega)]; with_reducible rfl) | skip
        try simp only [Act.put, List.setIfInBounds_toArray, List.set_cons_zero, List.set_cons_succ]
        refine skip_dstH (i := 6) (d := 31) rfl rfl (by kernel_rfl) (by kernel_rfl) (by kernel_rfl) (fun _ _ _ h => h) (by rfl) hHeld ?_
        try simp only [Act.put, List.setIfInBounds_toArray, List.set_cons_zero, List.set_cons_succ]
        refine skip_dstH (i := 7) (d := 32) rfl rfl (by kernel_rfl) (by kernel_rfl) (by kernel_rfl) (fun _ _ _ h => h) (by rfl) hHeld ?_
        try simp only [Act.put, List.setIfInBounds_toArray, List.set_cons_zero, List.set_cons_succ]
        refine skip_dstH (i := 8) (d := 33) rfl rfl (by kernel_rfl) (by kernel_rfl) (by kernel_rfl) (fun _ _ _ h => h) (by rfl) hHeld ?_
        try simp only [Act.put, List.setIfInBounds_toArray, List.set_cons_zero, List.set_cons_succ]
        refine skip_dstH (i := 9) (d := 34) rfl rfl (by kernel_rfl) (by kernel_rfl) (by kernel_rfl) (fun _ _ _ h => h) (by rfl) hHeld ?_
        try simp only [Act.put, List.setIfInBounds_toArray, List.set_cons_zero, List.set_cons_succ]
        refine skip_dstH (i := 10) (d := 35) rfl rfl (by kernel_rfl) (by kernel_rfl) (by kernel_rfl) (fun _ _ _ h => h) (by rfl) hHeld ?_
        try simp only [Act.put, List.setIfInBounds_toArray, List.set_cons_zero, List.set_cons_succ]
        refine skip_dstH (i := 11) (d := 36) rfl rfl (by kernel_rfl) (by kernel_rfl) (by kernel_rfl) (fun _ _ _ h => h) (by rfl) hHeld ?_
        try simp only [Act.put, List.setIfInBounds_toArray, List.set_cons_zero, List.set_cons_succ]
        refine take_dstH (i := 12) (d := 37) (v := ?_) rfl rfl (by kernel_rfl) (by kernel_rfl) (by kernel_rfl) (fun _ _ _ h => h) (by rfl) hHeld ?_ ?_
        rotate_left
        · intro wZ hSw; clear hSw; go_simp; first | (with_reducible rfl) | (rw [if_pos (by omega)]; with_reducible rfl) | skip
        try simp only [Act.put, List.setIfInBounds_toArray, List.set_cons_zero, List.set_cons_succ]
        refine wpAnyH_done (by kernel_rfl) ?_ _
        have KA : Hid (KeepsFrom wm.heap.size W (W.drew.setCell ⟨w.heap.size + 1 + 1 + 1, 0, none⟩ (.bool false))) := (show KeepsFrom _ W W.drew from ⟨Nat.le_refl _, fun _ _ _ h _ => h⟩).trans ((KeepsOthers.setCell _ _ _).from _)
        have c1 : W.drew.cell? ⟨w.heap.size + 1 + 1 + 1, 0, none⟩ = some (.bool false) := BR.out.cell
        have f1 : W.drew.frozen? ⟨w.heap.size + 1 + 1 + 1, 0, none⟩ = false := BR.out.frozen
        have HNE : Hid (x ≠ q + pre.length) := by show _ ≠ _; rw [← HM.out, ← HY.out]; exact hxe
        clear hHeld BK BN BF BR BB BL HX IB ey wy
        gi_wp2
        exact ⟨KA.out, Or.inl ⟨rfl, fun k hk => HNE.out (nums_last hk)⟩⟩
    case done1 =>
      rintro D2 xs W hD0 hxs ⟨⟨hb1, hb2⟩, hl3⟩ hKD
      have hxl : xs.length = c := by rw [nums_len hxs]; rw [nums_len hxs] at hl3; omega
      rw [hxl] at hb1
      have c1 := hb1.cell
      have c2 : W.cell? ⟨w.heap.size + 1 + 1, 0, none⟩ = some (.int .i64 (q : Int)) := (hb2.cell (p := ⟨w.heap.size + 1 + 1, 0, none⟩) Bw5.out.2.2.1.lt).trans Bw5.out.2.2.1.cell
      have BX : Hid (Arr W w.heap.size 22 (u8s key) ∧ Boxed W (w.heap.size + 1) 23 (.int .u64 (nn : Int)) ∧ Boxed W (w.heap.size + 1 + 1) 3 (.int .i64 (q : Int)) ∧ Boxed W (w.heap.size + 1 + 1 + 1) 4 (.bool false) ∧ Below w.heap.size w W ∧ Arr W gs 3 [.int .i64 (q : Int)] ∧ ItM W ge gb gn gq 65536 nn key) := ⟨Bw5.out.1.kept hb2, Arr.kept (vs := [_]) Bw5.out.2.1 hb2, Arr.kept (vs := [_]) Bw5.out.2.2.1 hb2, Arr.kept (vs := [_]) Bw5.out.2.2.2.1 hb2, Bw5.out.2.2.2.2.1.trans (hb2.mono Bw5.out.2.2.2.2.1.size), Bw5.out.2.2.2.2.2.1.kept hb2, Bw5.out.2.2.2.2.2.2.below hb2⟩
      have HK := hide hKD
      have BL := hide hb2
      clear hb1 hb2 hKD hxl hxs hl3
      have hD2 : w5.heap.size < D2 := Nat.lt_of_lt_of_le hsn1 hD0
      go_wp2
      all_goals exact LAST D2 W _ _ _ _ _ hD2 BX HK BL
    case stop1 =>
      rintro D2 cc pre W hD0 ⟨k, hk, hpk⟩ hIx hKD
      rcases hIx with ⟨rfl, hne⟩ | ⟨rfl, hl3, hb1, hb2⟩
      · exact (hne k hpk).elim
      have hxl : c = 3 := by have := nums_len hpk; omega
      have c1 := hb1.cell
      rw [show (3 : Int) = ((c : Nat) : Int) by omega] at c1
      have c2 : W.cell? ⟨w.heap.size + 1 + 1, 0, none⟩ = some (.int .i64 (q : Int)) := (hb2.cell (p := ⟨w.heap.size + 1 + 1, 0, none⟩) Bw5.out.2.2.1.lt).trans Bw5.out.2.2.1.cell
      have BX : Hid (Arr W w.heap.size 22 (u8s key) ∧ Boxed W (w.heap.size + 1) 23 (.int .u64 (nn : Int)) ∧ Boxed W (w.heap.size + 1 + 1) 3 (.int .i64 (q : Int)) ∧ Boxed W (w.heap.size + 1 + 1 + 1) 4 (.bool false) ∧ Below w.heap.size w W ∧ Arr W gs 3 [.int .i64 (q : Int)] ∧ ItM W ge gb gn gq 65536 nn key) := ⟨Bw5.out.1.kept hb2, Arr.kept (vs := [_]) Bw5.out.2.1 hb2, Arr.kept (vs := [_]) Bw5.out.2.2.1 hb2, Arr.kept (vs := [_]) Bw5.out.2.2.2.1 hb2, Bw5.out.2.2.2.2.1.trans (hb2.mono Bw5.out.2.2.2.2.1.size), Bw5.out.2.2.2.2.2.1.kept hb2, Bw5.out.2.2.2.2.2.2.below hb2⟩
      have HK := hide hKD
      have BL := hide hb2
      clear hb1 hb2 hKD hxl hl3 hpk hk
      refine wpIn_wide.2 ?_
      have hD2 : w5.heap.size < D2 := Nat.lt_of_lt_of_le hsn1 hD0
      go_wp2
      all_goals exact LAST D2 W _ _ _ _ _ hD2 BX HK BL
  have HN0 : Hid (Boxed (w2.alloc (Obj.cells #[.int .i64 0] 3)) w2.heap.size 3 (.int .i64 ((0 : Nat) : Int)) ∧ Below w2.heap.size w2 (w2.alloc (Obj.cells #[.int .i64 0] 3))) := ⟨Boxed.new w2 _ _, (Below.refl _ _).alloc (Nat.le_refl _) _⟩
  have hsn0 : w2.heap.size < (w2.alloc (Obj.cells #[.int .i64 0] 3)).heap.size := HN0.out.1.lt
  have hlt0 : ∀ k ∈ [ge, gb, gn, gq], k < w2.heap.size := Bw2.out.2.2.2.2.2.2.lt
  have HIT0 := hide (H2.out gs ge gb gn gq (w2.alloc (Obj.cells #[.int .i64 0] 3)) (Bw2.out.2.2.2.2.2.1.alloc _) (Bw2.out.2.2.2.2.2.2.below HN0.out.2))
  have hlow0 : w.heap.size + 1 + 1 + 1 < w2.heap.size := Bw2.out.2.2.2.1.lt
  generalize w2.alloc (Obj.cells #[.int .i64 0] 3) = wn at *
  refine wpIn_wide.1 (wpIn_rangeFunc_ownH (n := 9) rfl (by omega) (gf := 33) (lb := #[.pointer (some ⟨gs, 0, none⟩), .pointer (some ⟨ge, 0, none⟩), .pointer (some ⟨gb, 0, none⟩)]) rfl trivial (enters_of Try.func33 (by kernel_rfl) rfl)
    HIT0.out (fun h k => Keeps.trans h k) (Keeps.put (fun k hk => Nat.lt_trans (hlt0 k hk) hsn0)) (Below.refl _ _) (fun _ => rfl)
    (fun pre W => (Boxed W w2.heap.size 3 (.int .i64 (pre.length : Int)) ∧ Below w2.heap.size w2 W) ∧ pre.length < 3)
    (fun c pre W => (c = .ret ∧ ∀ k, pre ≠ numsF q k) ∨ (c = .exit 2 ∧ pre.length = 3 ∧ Boxed W w2.heap.size 3 (.int .i64 3) ∧ Below w2.heap.size w2 W))
    (OwnFrom.and (OwnFrom.and (Own.from (boxed_own _ 3 (fun pre : List Nat => .int .i64 (pre.length : Int))) _) (ownFrom_below (Nat.le_refl _) (Nat.le_of_lt hsn0))) (ownFrom_pure _ _))
    (fun c s X Y row hs hg hr => by
      rcases hs with h | ⟨h1, h2, h3, h4⟩
      · exact Or.inl h
      · exact Or.inr ⟨h1, h2, boxed_own _ 3 (fun (_ : Unit) => .int .i64 3) () X Y row h3 hg (fun r e => (hr r e).2), ownFrom_below (β := Unit) (Nat.le_refl _) (Nat.le_of_lt hsn0) () X Y row h4 hg hr⟩)
    ⟨⟨HN0.out.1, HN0.out.2⟩, by simp⟩
    (fun x a' W => ∃ Bx, Arr W Bx 22 (u8s (B x)) ∧ a' = { tmps := #[.pointer (some ⟨g, 0, none⟩), .agg (u8s key).toArray, .int .u64 (nn : Int), .int .i64 (q : Int), undef, .pointer (some ⟨w.heap.size, 0, none⟩), .pointer (some ⟨w.heap.size + 1, 0, none⟩), .pointer (some ⟨w.heap.size + 1 + 1, 0, none⟩), .pointer (some ⟨w.heap.size + 1 + 1 + 1, 0, none⟩), Value.func (Fn.func 33) #[] #[Value.pointer (some ⟨gs, 0, none⟩), Value.pointer (some ⟨ge, 0, none⟩), Value.pointer (some ⟨gb, 0, none⟩)], .int .i64 0, .pointer (some ⟨w2.heap.size, 0, none⟩), .int .i64 ((x : Nat) : Int), .pointer (some ⟨Bx, 0, none⟩), .pointer (some ⟨g, 0, none⟩), Value.func (Fn.func 33) #[] #[Value.pointer (some ⟨gs, 0, none⟩), Value.pointer (some ⟨ge, 0, none⟩), Value.pointer (some ⟨gb, 0, none⟩)], Value.func (Fn.func 33) #[] #[Value.pointer (some ⟨gs, 0, none⟩), Value.pointer (some ⟨ge, 0, none⟩), Value.pointer (some ⟨gb, 0, none⟩)], .bool false, .int .i64 0, .bool true, undef, undef, Value.func (Fn.func 33) #[] #[Value.pointer (some ⟨gs, 0, none⟩), Value.pointer (some ⟨ge, 0, none⟩), Value.pointer (some ⟨gb, 0, none⟩)], .int .i64 ((x : Nat) : Int), .agg (u8s (B x)).toArray, undef, undef, undef, undef, undef, undef, undef, undef, undef, undef, undef, undef, undef, undef, undef, undef, undef, undef, undef, undef, undef, undef, undef], defers := [] })
    (fun x a' _ X Y row hs hg hr => by obtain ⟨Bx, h2, h3⟩ := hs; exact ⟨Bx, Arr.own Bx 22 (fun (_ : Unit) => u8s (B x)) () X Y row h2 hg (fun r e => (hr r e).2), h3⟩)
    ?assign0 ?body0 ?done0 ?stop0)
  case assign0 =>
    rintro l pre x W K ⟨⟨hb1, hb2⟩, hl3⟩ hK
    gi_step
    gi_step
    refine region_list (by kernel_rfl) (by rintro ⟨_, _, h⟩; exact h) ?_
    go_wp2_with (refine wpList_store_row rfl 22 _ _ rfl W.heap.size (u8s (B x)).toArray rfl rfl 22 _ (Arr.new W _ (u8s z16)) (szb (HB.out x)) (old16 (HB.out x).len) (one_u8s _) ?_)
    refine region_list (by kernel_rfl) (by rintro ⟨_, _, h⟩; exact h) ?_
    go_wp2_with (refine wpList_store_row rfl 22 _ _ rfl W.heap.size (u8s (B x)).toArray rfl rfl 22 _ (Arr.new W _ (u8s z16)) (szb (HB.out x)) (old16 (HB.out x).len) (one_u8s _) ?_)
    rw [World.setRow_alloc_new]
    have hsW := hb2.size
    exact hK _ _ ((KeepsOthers.alloc _ _).from _) (Keeps.of_below ((Below.refl _ W).alloc (Nat.le_refl _) _) (fun k hk => Nat.lt_of_lt_of_le (hlt0 k hk) hsW)) ⟨⟨hb1.alloc _, hb2.alloc hsW _⟩, hl3⟩ ⟨W.heap.size, Arr.new W _ _, rfl⟩
  case body0 =>
    rintro l pre x a' W hl _ ⟨⟨hb1, hb2⟩, hl3⟩ ⟨Bx, hX, ha⟩ hlen
    dsimp only at ha
    subst ha
    obtain ⟨m, hm⟩ : ∃ m, m = pre.length := ⟨_, rfl⟩
    rw [← hm] at hb1 hl3
    obtain ⟨y, hy⟩ : ∃ y, y = q + m := ⟨_, rfl⟩
    have BK := hide (Bw2.out.1.kept hb2)
    have BN : Hid (Boxed W (w.heap.size + 1) 23 (.int .u64 (nn : Int))) := Arr.kept (vs := [_]) Bw2.out.2.1 hb2
    have BF : Hid (Boxed W (w.heap.size + 1 + 1) 3 (.int .i64 (q : Int))) := Arr.kept (vs := [_]) Bw2.out.2.2.1 hb2
    have BR : Hid (Boxed W (w.heap.size + 1 + 1 + 1) 4 (.bool false)) := Arr.kept (vs := [_]) Bw2.out.2.2.2.1 hb2
    have BB := hide hb1
    have BL := hide hb2
    have HX := hide hX
    have HM := hide hm
    have HY := hide hy
    have IB := hide (szl (HB.out x))
    have hsW := hb2.size
    have ey : (q : Int) + (m : Int) = (y : Int) := by omega
    have wy : IntKind.i64.wrap (y : Int) = (y : Int) := by rw [IntKind.wrap_i64]; omega
    have y13 : y < 131072 := by omega
    clear hX hm hy hb1 hb2
    gi_step
    gi_step
    gi_step
    gi_step
    by_cases hxe : x = y
    · subst hxe
      have EX := hide (fun v => eq_blk (HB.out x) (HB.out x) v)
      refine region_held_drew (S := fun v => Hid (Below W.heap.size W v)) (by kernel_rfl) (by kernel_rfl) (by rintro ⟨_, _, h⟩; exact h) (hide (Below.refl W.heap.size W).drew) (fun hHeld => ?_)
      refine take_dstH (i := 0) (d := 25) (v := ?_) rfl rfl (by kernel_rfl) (by kernel_rfl) (by kernel_rfl) (fun _ _ _ h => h) (by rfl) hHeld ?_ ?_
      rotate_left
      · intro wZ hSw; clear hSw; go_simp; first | (with_reducible rfl) | (rw [if_pos (by omega)]; with_reducible rfl) | skip
      try simp only [Act.put, List.setIfInBounds_toArray, List.set_cons_zero, List.set_cons_succ]
      refine take_dstH (i := 1) (d := 26) (v := ?_) rfl rfl (by kernel_rfl) (by kernel_rfl) (by kernel_rfl) (fun _ _ _ h => h) (by rfl) hHeld ?_ ?_
      rotate_left
      · intro wZ hSw; have hfS := (fun (v : World) (h : Hid (Below W.heap.size W v)) => (h.out.cell (p := ⟨w.heap.size + 1 + 1, 0, none⟩) BF.out.lt).trans BF.out.cell) wZ hSw; clear hSw; go_simp; first | (with_reducible rfl) | (rw [if_pos (by omega)]; with_reducible rfl) | skip
      try simp only [Act.put, List.setIfInBounds_toArray, List.set_cons_zero, List.set_cons_succ]
      refine take_dstH (i := 2) (d := 27) (v := ?_) rfl rfl (by kernel_rfl) (by kernel_rfl) (by kernel_rfl) (fun _ _ _ h => h) (by rfl) hHeld ?_ ?_
      rotate_left
      · intro wZ hSw; have hfS := (fun (v : World) (h : Hid (Below W.heap.size W v)) => (h.out.cell (p := ⟨w2.heap.size, 0, none⟩) BB.out.lt).trans BB.out.cell) wZ hSw; clear hSw; go_simp; first | (with_reducible rfl) | (rw [if_pos (by omega)]; with_reducible rfl) | skip
      try simp only [Act.put, List.setIfInBounds_toArray, List.set_cons_zero, List.set_cons_succ]
      refine take_dstH (i := 3) (d := 28) (v := ?_) rfl rfl (by kernel_rfl) (by kernel_rfl) (by kernel_rfl) (fun _ _ _ h => h) (by rfl) hHeld ?_ ?_
      rotate_left
      · intro wZ hSw; clear hSw; go_simp; first | (with_reducible rfl) | (rw [if_pos (by omega)]; with_reducible rfl) | skip
      try simp only [Act.put, List.setIfInBounds_toArray, List.set_cons_zero, List.set_cons_succ]
      refine take_dstH (i := 4) (d := 29) (v := ?_) rfl rfl (by kernel_rfl) (by kernel_rfl) (by kernel_rfl) (fun _ _ _ h => h) (by rfl) hHeld ?_ ?_
      rotate_left
      · intro wZ hSw; clear hSw; go_simp; first | (with_reducible rfl) | (rw [if_pos (by omega)]; with_reducible rfl) | skip
      try simp only [Act.put, List.setIfInBounds_toArray, List.set_cons_zero, List.set_cons_succ]
      refine take_dstH (i := 5) (d := 30) (v := ?_) rfl rfl (by kernel_rfl) (by kernel_rfl) (by kernel_rfl) (fun _ _ _ h => h) (by rfl) hHeld ?_ ?_
      rotate_left
      · intro wZ hSw; clear hSw; go_simp; first | (with_reducible rfl) | (rw [if_pos (by omega)]; with_reducible rfl) | skip
      try simp only [Act.put, List.setIfInBounds_toArray, List.set_cons_zero, List.set_cons_succ]
      refine take_dstH (i := 6) (d := 31) (v := ?_) rfl rfl (by kernel_rfl) (by kernel_rfl) (by kernel_rfl) (fun _ _ _ h => h) (by rfl) hHeld ?_ ?_
      rotate_left
      · intro wZ hSw; refine exec_load_all 22 (.tmp 13) ?_ Bx ?_ 22 (u8s (B x)) _ (HX.out.kept hSw.out) Try.underlying22 rfl IB.out <;> rfl
      try simp only [Act.put, List.setIfInBounds_toArray, List.set_cons_zero, List.set_cons_succ]
      refine take_dstH (i := 7) (d := 32) (v := ?_) rfl rfl (by kernel_rfl) (by kernel_rfl) (by kernel_rfl) (fun _ _ _ h => h) (by rfl) hHeld ?_ ?_
      rotate_left
      · intro wZ hSw; refine exec_load_all 22 (.tmp 5) ?_ w.heap.size ?_ 22 (u8s key) _ (BK.out.kept hSw.out) Try.underlying22 rfl IKl.out <;> rfl
      try simp only [Act.put, List.setIfInBounds_toArray, List.set_cons_zero, List.set_cons_succ]
      refine take_dstH (i := 8) (d := 33) (v := ?_) rfl rfl (by kernel_rfl) (by kernel_rfl) (by kernel_rfl) (fun _ _ _ h => h) (by rfl) hHeld ?_ ?_
      rotate_left
      · intro wZ hSw; have hfS := (fun (v : World) (h : Hid (Below W.heap.size W v)) => (h.out.cell (p := ⟨w.heap.size + 1, 0, none⟩) BN.out.lt).trans BN.out.cell) wZ hSw; clear hSw; go_simp; first | (with_reducible rfl) | (rw [if_pos (by omega)]; with_reducible rfl) | skip
      try simp only [Act.put, List.setIfInBounds_toArray, List.set_cons_zero, List.set_cons_succ]
      refine take_dstH (i := 9) (d := 34) (v := ?_) rfl rfl (by kernel_rfl) (by kernel_rfl) (by kernel_rfl) (fun _ _ _ h => h) (by rfl) hHeld ?_ ?_
      rotate_left
      · intro wZ hSw; clear hSw; go_simp; first | (with_reducible rfl) | (rw [if_pos (by omega)]; with_reducible rfl) | skip
      try simp only [Act.put, List.setIfInBounds_toArray, List.set_cons_zero, List.set_cons_succ]
      refine wpAnyH_ready (rs := [10]) (by kernel_rfl) (by simp) ?_
      refine (AllReadyH.cons rfl (fun K hK => ?_) AllReadyH.nil)
      go_simp
      refine (H3.out x _ y13).mono ?_; rintro e wv ⟨rfl, hbv⟩; have HBv : Hid (Below W.heap.size W wv) := (Hid.out hHeld).trans (hbv.mono (Hid.out hHeld).size); clear hbv
      go_wp2_with fail
      refine hK.out _ _ ?_ (fun hHeld => ?_)
      · exact HBv
      clear hK K
      try simp only [Act.put, List.setIfInBounds_toArray, List.set_cons_zero, List.set_cons_succ]
      refine take_dstH (i := 11) (d := 36) (v := ?_) rfl rfl (by kernel_rfl) (by kernel_rfl) (by kernel_rfl) (fun _ _ _ h => h) (by rfl) hHeld ?_ ?_
      rotate_left
      · intro wZ hSw; refine exec_neq_agg 22 22 (.tmp 31) (.tmp 35) ?_ (u8s (B x)).toArray (u8s (B x)).toArray ?_ ?_ true (guard16n _ _ _ _ _) (by rw [EX.out wZ]; simp) <;> rfl
      try simp only [Act.put, List.setIfInBounds_toArray, List.set_cons_zero, List.set_cons_succ]
      refine take_dstH (i := 12) (d := 37) (v := ?_) rfl rfl (by kernel_rfl) (by kernel_rfl) (by kernel_rfl) (fun _ _ _ h => h) (by rfl) hHeld ?_ ?_
      rotate_left
      · intro wZ hSw; clear hSw; go_simp; first | (with_reducible rfl) | (rw [if_pos (by omega)]; with_reducible rfl) | skip
      try simp only [Act.put, List.setIfInBounds_toArray, List.set_cons_zero, List.set_cons_succ]
      refine wpAnyH_done (by kernel_rfl) ?_ _
      have c1 := (HBv.out.cell (p := ⟨w2.heap.size, 0, none⟩) BB.out.lt).trans BB.out.cell
      have b1 : Boxed wv w2.heap.size 3 (.int .i64 (m : Int)) := Arr.kept (vs := [_]) BB.out HBv.out
      have f1 := b1.frozen
      have KA : Hid (KeepsFrom wn.heap.size W (wv.setCell ⟨w2.heap.size, 0, none⟩ (.int .i64 ((m : Int) + 1))) ∧ Keeps [ge, gb, gn, gq] W (wv.setCell ⟨w2.heap.size, 0, none⟩ (.int .i64 ((m : Int) + 1))) ∧ Boxed (wv.setCell ⟨w2.heap.size, 0, none⟩ (.int .i64 ((m : Int) + 1))) w2.heap.size 3 (.int .i64 ((m : Int) + 1)) ∧ Below w2.heap.size w2 (wv.setCell ⟨w2.heap.size, 0, none⟩ (.int .i64 ((m : Int) + 1)))) :=
        ⟨(below_keeps HBv.out).trans ((KeepsOthers.setCell _ _ _).from _), (Keeps.of_below HBv.out (fun k hk => Nat.lt_of_lt_of_le (hlt0 k hk) hsW)).trans (Keeps.set (fun hm' => by have := hlt0 _ hm'; omega)), b1.set _, (BL.out.trans (HBv.out.mono BL.out.size)).setCell (p := ⟨w2.heap.size, 0, none⟩) (Nat.le_refl _) _⟩
      have c2 := KA.out.2.2.1.cell
      clear hHeld b1 HBv EX BK BN BF BR BB BL HX IB ey wy
      by_cases hm2 : m = 2
      · have hp : (pre ++ [x]).length = 3 := by rw [List.length_append, ← HM.out, hm2]; rfl
        have HP := hide hp
        have h := KA.out.2.2.1
        subst hm2
        clear hp
        gi_wp2
        exact ⟨KA.out.1, Or.inr ⟨rfl, HP.out, h, KA.out.2.2.2⟩⟩
      · have hp : (pre ++ [x]).length = m + 1 := by rw [List.length_append, ← HM.out]; rfl
        have hp3 : ¬ ((m : Int) + 1 = 3) := by omega
        have hm1 : m + 1 < 3 := by omega
        have HP := hide hp
        have h := KA.out.2.2.1
        clear hp
        gi_wp2
        refine ⟨KA.out.1, KA.out.2.1, ⟨⟨?_, KA.out.2.2.2⟩, by rw [HP.out]; exact hm1⟩⟩
        rw [HP.out]
        exact h
    · have hne : ((x : Int) != (y : Int)) = true := bne_iff_ne.2 (by omega)
      refine region_held_drew (S := fun v => Hid (Below W.heap.size W v)) (by kernel_rfl) (by kernel_rfl) (by rintro ⟨_, _, h⟩; exact h) (hide (Below.refl W.heap.size W).drew) (fun hHeld => ?_)
      refine take_dstH (i := 0) (d := 25) (v := ?_) rfl rfl (by kernel_rfl) (by kernel_rfl) (by kernel_rfl) (fun _ _ _ h => h) (by rfl) hHeld ?_ ?_
      rotate_left
      · intro wZ hSw; clear hSw; go_simp; first | (with_reducible rfl) | (rw [if_pos (by omega)]; with_reducible rfl) | skip
      try simp only [Act.put, List.setIfInBounds_toArray, List.set_cons_zero, List.set_cons_succ]
      refine take_dstH (i := 1) (d := 26) (v := ?_) rfl rfl (by kernel_rfl) (by kernel_rfl) (by kernel_rfl) (fun _ _ _ h => h) (by rfl) hHeld ?_ ?_
      rotate_left
      · intro wZ hSw; have hfS := (fun (v : World) (h : Hid (Below W.heap.size W v)) => (h.out.cell (p := ⟨w.heap.size + 1 + 1, 0, none⟩) BF.out.lt).trans BF.out.cell) wZ hSw; clear hSw; go_simp; first | (with_reducible rfl) | (rw [if_pos (by omega)]; with_reducible rfl) | skip
      try simp only [Act.put, List.setIfInBounds_toArray, List.set_cons_zero, List.set_cons_succ]
      refine take_dstH (i := 2) (d := 27) (v := ?_) rfl rfl (by kernel_rfl) (by kernel_rfl) (by kernel_rfl) (fun _ _ _ h => h) (by rfl) hHeld ?_ ?_
      rotate_left
      · intro wZ hSw; have hfS := (fun (v : World) (h : Hid (Below W.heap.size W v)) => (h.out.cell (p := ⟨w2.heap.size, 0, none⟩) BB.out.lt).trans BB.out.cell) wZ hSw; clear hSw; go_simp; first | (with_reducible rfl) | (rw [if_pos (by omega)]; with_reducible rfl) | skip
      try simp only [Act.put, List.setIfInBounds_toArray, List.set_cons_zero, List.set_cons_succ]
      refine take_dstH (i := 3) (d := 28) (v := ?_) rfl rfl (by kernel_rfl) (by kernel_rfl) (by kernel_rfl) (fun _ _ _ h => h) (by rfl) hHeld ?_ ?_
      rotate_left
      · intro wZ hSw; clear hSw; go_simp; first | (with_reducible rfl) | (rw [if_pos (by omega)]; with_reducible rfl) | skip
      try simp only [Act.put, List.setIfInBounds_toArray, List.set_cons_zero, List.set_cons_succ]
      refine take_dstH (i := 4) (d := 29) (v := ?_) rfl rfl (by kernel_rfl) (by kernel_rfl) (by kernel_rfl) (fun _ _ _ h => h) (by rfl) hHeld ?_ ?_
      rotate_left
      · intro wZ hSw; clear hSw; go_simp; first | (with_reducible rfl) | (rw [if_pos (by omega)]; with_reducible rfl) | skip
      try simp only [Act.put, List.setIfInBounds_toArray, List.set_cons_zero, List.set_cons_succ]
      refine take_dstH (i := 5) (d := 30) (v := ?_) rfl rfl (by kernel_rfl) (by kernel_rfl) (by kernel_rfl) (fun _ _ _ h => h) (by rfl) hHeld ?_ ?_
      rotate_left
      · intro wZ hSw; clear hSw; go_simp; first | (with_reducible rfl) | (rw [if_pos (by omega)]; with_reducible rfl) | skip
      try simp only [Act.put, List.setIfInBounds_toArray, List.set_cons_zero, List.set_cons_succ]
      refine skip_dstH (i := 6) (d := 31) rfl rfl (by kernel_rfl) (by kernel_rfl) (by kernel_rfl) (fun _ _ _ h => h) (by rfl) hHeld ?_
      try simp only [Act.put, List.setIfInBounds_toArray, List.set_cons_zero, List.set_cons_succ]
      refine skip_dstH (i := 7) (d := 32) rfl rfl (by kernel_rfl) (by kernel_rfl) (by kernel_rfl) (fun _ _ _ h => h) (by rfl) hHeld ?_
      try simp only [Act.put, List.setIfInBounds_toArray, List.set_cons_zero, List.set_cons_succ]
      refine skip_dstH (i := 8) (d := 33) rfl rfl (by kernel_rfl) (by kernel_rfl) (by kernel_rfl) (fun _ _ _ h => h) (by rfl) hHeld ?_
      try simp only [Act.put, List.setIfInBounds_toArray, List.set_cons_zero, List.set_cons_succ]
      refine skip_dstH (i := 9) (d := 34) rfl rfl (by kernel_rfl) (by kernel_rfl) (by kernel_rfl) (fun _ _ _ h => h) (by rfl) hHeld ?_
      try simp only [Act.put, List.setIfInBounds_toArray, List.set_cons_zero, List.set_cons_succ]
      refine skip_dstH (i := 10) (d := 35) rfl rfl (by kernel_rfl) (by kernel_rfl) (by kernel_rfl) (fun _ _ _ h => h) (by rfl) hHeld ?_
      try simp only [Act.put, List.setIfInBounds_toArray, List.set_cons_zero, List.set_cons_succ]
      refine skip_dstH (i := 11) (d := 36) rfl rfl (by kernel_rfl) (by kernel_rfl) (by kernel_rfl) (fun _ _ _ h => h) (by rfl) hHeld ?_
      try simp only [Act.put, List.setIfInBounds_toArray, List.set_cons_zero, List.set_cons_succ]
      refine take_dstH (i := 12) (d := 37) (v := ?_) rfl rfl (by kernel_rfl) (by kernel_rfl) (by kernel_rfl) (fun _ _ _ h => h) (by rfl) hHeld ?_ ?_
      rotate_left
      · intro wZ hSw; clear hSw; go_simp; first | (with_reducible rfl) | (rw [if_pos (by omega)]; with_reducible rfl) | skip
      try simp only [Act.put, List.setIfInBounds_toArray, List.set_cons_zero, List.set_cons_succ]
      refine wpAnyH_done (by kernel_rfl) ?_ _
      have KA : Hid (KeepsFrom wn.heap.size W (W.drew.setCell ⟨w.heap.size + 1 + 1 + 1, 0, none⟩ (.bool false))) := (show KeepsFrom _ W W.drew from ⟨Nat.le_refl _, fun _ _ _ h _ => h⟩).trans ((KeepsOthers.setCell _ _ _).from _)
      have c1 : W.drew.cell? ⟨w.heap.size + 1 + 1 + 1, 0, none⟩ = some (.bool false) := BR.out.cell
      have f1 : W.drew.frozen? ⟨w.heap.size + 1 + 1 + 1, 0, none⟩ = false := BR.out.frozen
      have HNE : Hid (x ≠ q + pre.length) := by show _ ≠ _; rw [← HM.out, ← HY.out]; exact hxe
      clear hHeld BK BN BF BR BB BL HX IB ey wy
      gi_wp2
      exact ⟨KA.out, Or.inl ⟨rfl, fun k hk => HNE.out (nums_last hk)⟩⟩
  case done0 =>
    rintro D xs W hD0 hxs ⟨⟨hb1, hb2⟩, hl3⟩ hKD
    have hxl : xs.length = c := by rw [nums_len hxs]; rw [nums_len hxs] at hl3; omega
    rw [hxl] at hb1
    have c1 := hb1.cell
    have c2 : W.cell? ⟨w.heap.size + 1 + 1, 0, none⟩ = some (.int .i64 (q : Int)) := (hb2.cell (p := ⟨w.heap.size + 1 + 1, 0, none⟩) Bw2.out.2.2.1.lt).trans Bw2.out.2.2.1.cell
    have BX : Hid (Arr W w.heap.size 22 (u8s key) ∧ Boxed W (w.heap.size + 1) 23 (.int .u64 (nn : Int)) ∧ Boxed W (w.heap.size + 1 + 1) 3 (.int .i64 (q : Int)) ∧ Boxed W (w.heap.size + 1 + 1 + 1) 4 (.bool false) ∧ Below w.heap.size w W ∧ Arr W gs 3 [.int .i64 (q : Int)] ∧ ItM W ge gb gn gq 65536 nn key) := ⟨Bw2.out.1.kept hb2, Arr.kept (vs := [_]) Bw2.out.2.1 hb2, Arr.kept (vs := [_]) Bw2.out.2.2.1 hb2, Arr.kept (vs := [_]) Bw2.out.2.2.2.1 hb2, Bw2.out.2.2.2.2.1.trans (hb2.mono Bw2.out.2.2.2.2.1.size), Bw2.out.2.2.2.2.2.1.kept hb2, Bw2.out.2.2.2.2.2.2.below hb2⟩
    have HK := hide hKD
    have BL := hide hb2
    clear hb1 hb2 hKD hxl hxs hl3
    have hD : w2.heap.size < D := Nat.lt_of_lt_of_le hsn0 hD0
    go_wp2
    all_goals exact NEXT D W _ _ _ _ _ hD BX HK BL
  case stop0 =>
    rintro D cc pre W hD0 ⟨k, hk, hpk⟩ hIx hKD
    rcases hIx with ⟨rfl, hne⟩ | ⟨rfl, hl3, hb1, hb2⟩
    · exact (hne k hpk).elim
    have hxl : c = 3 := by have := nums_len hpk; omega
    have c1 := hb1.cell
    rw [show (3 : Int) = ((c : Nat) : Int) by omega] at c1
    have c2 : W.cell? ⟨w.heap.size + 1 + 1, 0, none⟩ = some (.int .i64 (q : Int)) := (hb2.cell (p := ⟨w.heap.size + 1 + 1, 0, none⟩) Bw2.out.2.2.1.lt).trans Bw2.out.2.2.1.cell
    have BX : Hid (Arr W w.heap.size 22 (u8s key) ∧ Boxed W (w.heap.size + 1) 23 (.int .u64 (nn : Int)) ∧ Boxed W (w.heap.size + 1 + 1) 3 (.int .i64 (q : Int)) ∧ Boxed W (w.heap.size + 1 + 1 + 1) 4 (.bool false) ∧ Below w.heap.size w W ∧ Arr W gs 3 [.int .i64 (q : Int)] ∧ ItM W ge gb gn gq 65536 nn key) := ⟨Bw2.out.1.kept hb2, Arr.kept (vs := [_]) Bw2.out.2.1 hb2, Arr.kept (vs := [_]) Bw2.out.2.2.1 hb2, Arr.kept (vs := [_]) Bw2.out.2.2.2.1 hb2, Bw2.out.2.2.2.2.1.trans (hb2.mono Bw2.out.2.2.2.2.1.size), Bw2.out.2.2.2.2.2.1.kept hb2, Bw2.out.2.2.2.2.2.2.below hb2⟩
    have HK := hide hKD
    have BL := hide hb2
    clear hb1 hb2 hKD hxl hl3 hpk hk
    refine wpIn_wide.2 ?_
    have hD : w2.heap.size < D := Nat.lt_of_lt_of_le hsn0 hD0
    go_wp2
    all_goals exact NEXT D W _ _ _ _ _ hD BX HK BL

theorem lawblocks_any (key : List Nat) (nn a g q : Nat) (w : World) (hk : Blk key) (hnn : nn < 18446744073709551616) (hA : Arr w g 41 (flC key nn a true)) (ha : a ≤ 1048576) (hq : q = a / 16) :
    Calls Try.prog 16 #[.pointer (some ⟨g, 0, none⟩), .agg (u8s key).toArray, .int .u64 (nn : Int), .int .i64 (q : Int)] w fun e w' => e = .returned (.bool true) ∧ Below w.heap.size w w' :=
  lawblocks_of key nn q g (hbF key nn) w hk (fun i => hbF_blk hk nn i) (by omega) (fun v h => fblocks_any key nn a g q v hk (hA.kept h.out) ha hq)
    (fun gs ge gb gn gq v hS hM => iter_stops 8 (by omega) gs ge gb gn gq q nn 65536 key hk hnn (by omega) (by omega) v hS hM (65536 - q) (by omega))
    (fun i v hi => rBlock_any key nn i v hk (by omega))

end Go.Proofs.Ytflakgigekfgcaa
