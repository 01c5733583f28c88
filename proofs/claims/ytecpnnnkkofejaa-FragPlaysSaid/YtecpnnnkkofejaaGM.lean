/-
  A walk of the program: a piece that is wanted is held.
-/
import Derived.Test.YtecpnnnkkofejaaGL
import Derived.Test.YtecpnnnkkofejaaBT
namespace Go.Proofs.Ytecpnnnkkofejaa
open Go.RowKit Go.Maps

theorem makeMap_hint (w : World) (n : Int) : (Instr.makeMap 53 (some (.int .i64 n))).run Try.prog w = .ok (.map (some w.heap.size)) (w.alloc (.map #[] 0)) := by
  simp [Instr.makeMap, run_underlying Try.underlying53, asInt, Result.andThen]
  rfl

/-- 'm[k] = v', as one operation -/
theorem wp_mp_put {w : World} {o : Oper} {a : Act} {K : Act → World → Prop} {Q : Exit → Act → World → Prop} (hdd : o.dst = none) (m x v : Operand) (ho : o.op = .mapUpdate 53 m x v)
    (b n : Nat) (D : DataW Value) (hm : a.eval m = .map (some b)) (hown : Mp w b n D) (hn : n < maxLen) (k : Int) (hx : a.eval x = .int .i64 k) (hk : (Lit.int .i64 k).wf = true) (p : Option Addr) (l c : Nat) (hv : a.eval v = .slice p l c)
    (h : ∀ w', Mp w' b (n + 1) (D.put (.int .i64 k) (.held (.slice p l c))) → w.grownBy w' (some b) → K a w') : o.wp Try.prog a w K Q := by
  obtain ⟨w', hrun, r1, r2⟩ := hown.update mpKeyed Try.underlying53 hn (mpKey hk) (selfE_mk p l c)
  unfold Oper.wp execOp
  simp only [ho, hm, hx, hv, Sem.run_bind, Sem.run_pure, hrun, Result.andThen_ok]
  show K (a.put o.dst undef) _
  rw [hdd]
  exact h w' r1 r2

/-- what is held behind it -/
def bndK (ks : List Pk) (must : Nat) (x : Pc) : List Pk := if x.l = true ∧ must = 0 then ks.filter fun y => decide (y.x.a < x.a + 1) else ks
def bndM (must : Nat) (x : Pc) : Nat := if x.l = true ∧ must = 0 then x.a.toNat + 1 else must

theorem bndK_mem {ks : List Pk} {must : Nat} {x : Pc} {k : Pk} (h : k ∈ bndK ks must x) : k ∈ ks := by
  unfold bndK at h
  split at h
  · exact (List.mem_filter.1 h).1
  · exact h
/-- a joiner whose map is another one -/
theorem pj_of {w : World} {g i : Nat} {done : Bool} {must : Int} {b n : Nat} {ks : List Pk} {v : Value} (hj : Arr w g 55 [.int .u64 (i : Int), .bool done, .int .i64 must, v]) (hm : Mp w b n (mapOf ks)) (hd : Dist ks) (he : ∀ k ∈ ks, EP w k) :
    PJ (w.setCell ⟨g, 3, none⟩ (.map (some b))) g i done must (some b) ks := by
  have hg : w.grownBy (w.setCell ⟨g, 3, none⟩ (.map (some b))) (some g) := ⟨rfl, rfl, rfl, by simp, fun k _ hk => heap_setCell_other w ⟨g, 3, none⟩ k _ (fun e => hk (by simp [e]))⟩
  have hne : some b ≠ some g := held_ne (q := some b) (ks := ks) (mp_tight hm) hj b rfl
  exact ⟨hj.set 3 _, hd, (mp_tight hm).kept hg hne, fun k hk => (he k hk).keptR hg hj (by decide)⟩

theorem keep_strike {left : Lit → Bool} {M x : Int} (h : M ≤ x) (ks : List Pk) : ((ks.filter fun y => left (.int .i64 y.x.a) || decide (y.x.a < M)).filter fun y => y.x.a != x) = ks.filter fun y => (left (.int .i64 y.x.a) && !(Lit.int .i64 y.x.a).sameKey (.int .i64 x)) || decide (y.x.a < M) := by
  rw [List.filter_filter]
  apply List.filter_congr
  intro y _
  rw [same_int]
  by_cases h1 : y.x.a < M
  · have : (y.x.a != x) = true := by simp; omega
    simp [h1, this]
  · simp [h1, bne, Bool.and_comm]
theorem keep_stay {left : Lit → Bool} {M x : Int} (h : x < M) (ks : List Pk) : (ks.filter fun y => left (.int .i64 y.x.a) || decide (y.x.a < M)) = ks.filter fun y => (left (.int .i64 y.x.a) && !(Lit.int .i64 y.x.a).sameKey (.int .i64 x)) || decide (y.x.a < M) := by
  apply List.filter_congr
  intro y _
  rw [same_int]
  by_cases h1 : y.x.a < M
  · simp [h1]
  · have : (y.x.a == x) = false := by simp; omega
    simp [this]

theorem keep_start (ks : List Pk) (M : Int) : (ks.filter fun y => Maps.has (mapOf ks) (.int .i64 y.x.a) || decide (y.x.a < M)) = ks := by
  rw [List.filter_eq_self]
  intro y hy
  rw [has_mapOf, Bool.or_eq_true, List.any_eq_true]
  exact Or.inl ⟨y, hy, by rw [same_int]; simp⟩
theorem keep_end {left : Lit → Bool} (h : ∀ l, left l = false) (ks : List Pk) (M : Int) : (ks.filter fun y => left (.int .i64 y.x.a) || decide (y.x.a < M)) = ks.filter fun y => decide (y.x.a < M) := by
  apply List.filter_congr
  intro y _
  rw [h]
  rfl

set_option maxHeartbeats 8000000 in
set_option maxRecDepth 100000 in
theorem hold_any (w : World) (g i must c n : Nat) (done : Bool) (q : Option Nat) (ks : List Pk) (x : Pc) (p : Option Addr) (h : PJ w g i done (must : Int) q ks) (hx : x.e = 0) (ht : Piece w p c x.b) (hf : findP ks x.a = none) (hn : ks.length = n) (hn2 : n ≤ 10000) :
    Calls Try.prog 36 #[.pointer (some ⟨g, 0, none⟩), pcV x p c] w fun e w' => e = .returned (.tuple #[]) ∧ w.grownBy w' (some g) ∧ ∃ b pb cb, PJ w' g i done (bndM must x : Int) (some b) (bndK (ks ++ [⟨x, pb, cb⟩]) must x) ∧ ∀ a, pb = some a → x.b ≠ [] → w.heap.size ≤ a.block := by
  have A1 := hide (And.intro (h.kept (pc_box w x p c).2) (And.intro (pc_box w x p c) (ht.kept (pc_box w x p c).2)))
  have HG := hide h.j.lt
  have HN := hide hn
  have HF := hide hf
  obtain ⟨a0, a1, a2⟩ := Pc.e_zero hx
  have HW := hide (wf_place a0 a1)
  clear h hx hn hf ht
  go_enter Try.func36, Try.ntmps36
  go_upto_region 1 with fail
  generalize w.alloc (Obj.cells #[.int .u64 (x.i : Int), .int .i64 x.a, .bool x.l, .slice p x.b.length c] 25) = w1 at *
  have j3 := A1.out.1.j.cell 3
  simp only [List.getElem?_cons_zero, List.getElem?_cons_succ] at j3
  have hln : ∀ ty, (Builtin.len_ #[53] ty #[.map q]).run Try.prog w1 = .ok (.int .i64 (n : Int)) w1 := fun ty => by
    have h1 := A1.out.1.m
    cases q with
    | none =>
      have e : ks = [] := h1
      have := HN.out
      rw [e] at this
      subst this
      exact Maps.len_nil Try.underlying53 ty
    | some b =>
      have h2 := World.ownsMap.len (show Mp w1 b ks.length (mapOf ks) from h1) Try.underlying53 ty
      rw [size_mapOf, HN.out] at h2
      exact h2
  have hmm := fun n => makeMap_hint w1 n
  go_upto_region 2 with fail
  have B12 : Hid (Below w1.heap.size w1 (w1.alloc (Obj.map #[] 0))) := (Below.refl _ _).alloc (Nat.le_refl _) _
  have M2 : Hid (Mp (w1.alloc (Obj.map #[] 0)) w1.heap.size 0 (mapOf [])) := World.ownsMap_made w1 _ _ _
  have QN : Hid (q ≠ some w1.heap.size) := fun e => by
    have h1 := A1.out.1.m
    subst e
    have h2 := World.ownsMap.lt (show Mp w1 w1.heap.size ks.length (mapOf ks) from h1)
    omega
  have HBG : Hid (g < w1.heap.size ∧ w.heap.size < w1.heap.size) := ⟨A1.out.1.j.lt, A1.out.2.1.1.lt⟩
  have j3' := (A1.out.1.j.kept B12.out).cell 3
  simp only [List.getElem?_cons_zero, List.getElem?_cons_succ] at j3'
  clear j3 hln hmm
  obtain ⟨b, hb⟩ : ∃ b, w1.heap.size = b := ⟨_, rfl⟩
  have HBB := hide hb
  rw [hb] at M2 QN HBG
  simp only [hb]
  clear hb
  generalize w1.alloc (Obj.map #[] 0) = w2 at *
  go_wp2_with fail
  refine (mcopy_any w2 b n q ks M2.out (A1.out.1.kept B12.out).m QN.out A1.out.1.d HN.out (by omega)).mono ?_
  rintro e w3 ⟨rfl, hm, hg⟩
  have M3 := hide hm
  have B13 : Hid (Below w1.heap.size w1 w3) := B12.out.grown hg B12.out.size (fun k hk => by cases hk; rw [HBB.out]; exact Nat.le_refl _)
  have A3 := hide (And.intro (A1.out.1.kept B13.out) (And.intro (A1.out.2.1.1.kept B13.out) (And.intro (A1.out.2.1.2.trans (B13.out.mono A1.out.2.1.2.size)) (A1.out.2.2.kept B13.out))))
  clear hm hg M2 B12 B13 A1 QN j3'
  go_upto_region 3 with fail
  refine wp_region_late (S := fun v => Hid (Below w3.heap.size w3 v)) [6] (by kernel_rfl) (hide (Below.refl _ _).drew) (fun hHeld => ?_)
  refine take_dstT (i := 0) (d := 19) (v := ?_) rfl rfl (by kernel_rfl) (by kernel_rfl) (by kernel_rfl) (by kernel_rfl) (fun _ _ _ h => h) (by rfl) hHeld ?_ ?_
  rotate_left
  · intro wZ hSw; clear hSw; go_simp; first | (with_reducible rfl) | (rw [if_pos (by omega)]; with_reducible rfl) | skip
  try simp only [Act.put, List.setIfInBounds_toArray, List.set_cons_zero, List.set_cons_succ]
  refine take_dstT (i := 1) (d := 20) (v := ?_) rfl rfl (by kernel_rfl) (by kernel_rfl) (by kernel_rfl) (by kernel_rfl) (fun _ _ _ h => h) (by rfl) hHeld ?_ ?_
  rotate_left
  · intro wZ hSw; clear hSw; go_simp; first | (with_reducible rfl) | (rw [if_pos (by omega)]; with_reducible rfl) | skip
  try simp only [Act.put, List.setIfInBounds_toArray, List.set_cons_zero, List.set_cons_succ]
  refine take_dstT (i := 2) (d := 21) (v := ?_) rfl rfl (by kernel_rfl) (by kernel_rfl) (by kernel_rfl) (by kernel_rfl) (fun _ _ _ h => h) (by rfl) hHeld ?_ ?_
  rotate_left
  · intro wZ hSw; have hfS := (fun (v : World) (hv : Hid (Below w3.heap.size w3 v)) => show v.cell? ⟨w.heap.size, 1, none⟩ = some (.int .i64 x.a) from (A3.out.2.1.kept hv.out).cell 1) wZ hSw; clear hSw; go_simp; first | (with_reducible rfl) | (rw [if_pos (by omega)]; with_reducible rfl) | skip
  try simp only [Act.put, List.setIfInBounds_toArray, List.set_cons_zero, List.set_cons_succ]
  refine take_dstT (i := 3) (d := 22) (v := ?_) rfl rfl (by kernel_rfl) (by kernel_rfl) (by kernel_rfl) (by kernel_rfl) (fun _ _ _ h => h) (by rfl) hHeld ?_ ?_
  rotate_left
  · intro wZ hSw; clear hSw; go_simp; first | (with_reducible rfl) | (rw [if_pos (by omega)]; with_reducible rfl) | skip
  try simp only [Act.put, List.setIfInBounds_toArray, List.set_cons_zero, List.set_cons_succ]
  refine take_dstT (i := 4) (d := 23) (v := ?_) rfl rfl (by kernel_rfl) (by kernel_rfl) (by kernel_rfl) (by kernel_rfl) (fun _ _ _ h => h) (by rfl) hHeld ?_ ?_
  rotate_left
  · intro wZ hSw; have hfS := (fun (v : World) (hv : Hid (Below w3.heap.size w3 v)) => show v.cell? ⟨w.heap.size, 3, none⟩ = some (.slice p x.b.length c) from (A3.out.2.1.kept hv.out).cell 3) wZ hSw; clear hSw; go_simp; first | (with_reducible rfl) | (rw [if_pos (by omega)]; with_reducible rfl) | skip
  try simp only [Act.put, List.setIfInBounds_toArray, List.set_cons_zero, List.set_cons_succ]
  refine wpAnyT_ready (rs := [5]) (by kernel_rfl) (by simp) ?_
  refine (AllReadyT.cons rfl (fun K hK => ?_) AllReadyT.nil)
  go_simp
  refine (bclone_any x.b _ c p _ (A3.out.2.2.2.kept (Hid.out hHeld)) rfl (by omega)).mono ?_; rintro e w4 ⟨pb, d, rfl, hq, ho, hbb⟩; have B4 : Hid (Below w3.heap.size w3 w4) := (Hid.out hHeld).trans (hbb.mono (Hid.out hHeld).size); have EK : Hid (EP w4 ⟨x, pb, d⟩) := ⟨ho.from (Nat.zero_le _), hq.2.1⟩; have HPB : Hid (∀ a, pb = some a → x.b ≠ [] → w.heap.size ≤ a.block) := fun a ha hn => Nat.le_trans (Nat.le_trans A3.out.2.2.1.size (Hid.out hHeld).size) (ho.2 a ha hn).1; clear hq ho hbb
  go_wp2_with fail
  refine hK.out _ _ ?_ (fun hHeld => ?_)
  · exact B4
  clear hK K
  try simp only [Act.put, List.setIfInBounds_toArray, List.set_cons_zero, List.set_cons_succ]
  refine wpAnyT_ready (rs := [6]) (by kernel_rfl) (by simp) ?_
  refine (AllReadyT.last rfl (by decide) (fun K hK => ?_) AllReadyT.nil)
  refine wp_mp_put rfl (.tmp 19) (.tmp 21) (.tmp 24) rfl b n (mapOf ks) rfl (M3.out.kept (below_grown B4.out none) (by simp)) (by unfold maxLen; omega) x.a rfl HW.out pb x.b.length d rfl ?_; intro w5 hm5 hg5
  refine hK.out _ _ ?_
  clear hK K
  try simp only [Act.put, List.setIfInBounds_toArray, List.set_cons_zero, List.set_cons_succ]
  refine wpAnyT_done (by kernel_rfl) ?_ _
  have HL : Hid (b < w4.heap.size) := by have := (M3.out.kept (below_grown B4.out none) (by simp)).lt; exact this
  obtain ⟨hpn, hdn⟩ := put_new A3.out.1.d (Pk.mk x pb d) HF.out
  rw [hpn] at hm5
  have EO : Hid (∀ k ∈ ks ++ [Pk.mk x pb d], EP w5 k) := fun k hk => by
    have M4 := M3.out.kept (below_grown B4.out none) (by simp)
    rcases List.mem_append.1 hk with h | h
    · exact ((A3.out.1.e k h).kept B4.out).keptM hg5 M4
    · simp at h
      subst h
      exact EK.out.keptM hg5 M4
  have J5 : Hid (Arr w5 g 55 [.int .u64 (i : Int), .bool done, .int .i64 (must : Int), .map q]) := (A3.out.1.j.kept B4.out).keptR hg5 (by have := HBG.out.1; simp; omega)
  have X5 : Hid (Arr w5 w.heap.size 25 (pcC x p c)) := (A3.out.2.1.kept B4.out).keptR hg5 (by have := HBG.out.2; simp; omega)
  have M5 := hide hm5
  have D5 := hide hdn
  have B5 : Hid (Below w.heap.size w w5) := (A3.out.2.2.1.trans (B4.out.mono A3.out.2.2.1.size)).grown hg5 (Nat.le_trans A3.out.2.2.1.size B4.out.size) (fun k hk => by cases hk; have := HBG.out.2; omega)
  have HKL : Hid ((ks ++ [Pk.mk x pb d]).length = n + 1) := by show _ = _; rw [List.length_append, HN.out]; rfl
  have L5 : Hid (b < w5.heap.size) := hm5.lt
  obtain ⟨ks2, hk2⟩ : ∃ l, ks ++ [Pk.mk x pb d] = l := ⟨_, rfl⟩
  have HK2 := hide hk2
  rw [hk2] at M5 D5 EO HKL
  clear hk2 hpn hdn hm5 hg5 HL hHeld EK B4 A3 M3 HF HN
  have b1 := X5.out.cell 1
  have b2 := X5.out.cell 2
  have j2 := J5.out.cell 2
  have j3 := J5.out.cell 3
  have f2 := J5.out.frozen 2
  have f3 := J5.out.frozen 3
  simp only [List.getElem?_cons_zero, List.getElem?_cons_succ] at b1 b2 j2 j3
  by_cases hbd : x.l = true ∧ must = 0
  · have HBM : Hid (bndM must x = x.a.toNat + 1) := if_pos hbd
    have HBK : Hid (bndK ks2 must x = ks2.filter fun y => decide (y.x.a < x.a + 1)) := if_pos hbd
    obtain ⟨hxl, rfl⟩ := hbd
    rw [hxl] at b2
    go_upto_region 6 with fail
    have GS : Hid (w5.grownBy (w5.setCell ⟨g, 2, none⟩ (.int .i64 (x.a + 1))) (some g)) := ⟨rfl, rfl, rfl, by simp, fun k _ hk => heap_setCell_other w5 ⟨g, 2, none⟩ k _ (fun e => hk (by simp [e]))⟩
    have J6 : Hid (Arr (w5.setCell ⟨g, 2, none⟩ (.int .i64 (x.a + 1))) g 55 [.int .u64 (i : Int), .bool done, .int .i64 (x.a + 1), .map q]) := J5.out.set 2 _
    have M6 : Hid (Mp (w5.setCell ⟨g, 2, none⟩ (.int .i64 (x.a + 1))) b (n + 1) (mapOf ks2)) := M5.out.kept GS.out (by have := HBG.out.1; simp; omega)
    have E6 : Hid (∀ k ∈ ks2, EP (w5.setCell ⟨g, 2, none⟩ (.int .i64 (x.a + 1))) k) := fun k hk => (EO.out k hk).keptR GS.out J5.out (by decide)
    have G6 : Hid (w.grownBy (w5.setCell ⟨g, 2, none⟩ (.int .i64 (x.a + 1))) (some g)) := grown_trans (below_grown B5.out _) GS.out
    have L6 : Hid (w.heap.size < b ∧ b < (w5.setCell ⟨g, 2, none⟩ (.int .i64 (x.a + 1))).heap.size) := ⟨HBG.out.2, M6.out.lt⟩
    clear j2 j3 f2 f3 b1 b2 J5 X5 B5 L5 EO M5 GS
    generalize w5.setCell ⟨g, 2, none⟩ (.int .i64 (x.a + 1)) = w6 at *
    go_wp2_with (first | (at_range; refine wpList_range_own _ rfl _ 53 rfl 3 23 mpKeyed Try.underlying53 _ b (n + 1) (mapOf ks2) rfl M6.out ?_; intro w0 hrg0 hg0 hs0) | go_in)
    have R0 : Hid (Rg w0 b w6.heap.size (n + 1) (mapOf (ks2.filter fun y => Maps.has (mapOf ks2) (.int .i64 y.x.a) || decide (y.x.a < x.a + 1))) (Maps.has (mapOf ks2)) (Maps.size (mapOf ks2))) := by
      show Rg _ _ _ _ _ _ _
      rw [keep_start]
      exact hrg0
    have G0 : Hid (w6.grownBy w0 (some b)) := hg0.but _
    clear hrg0 hg0 hs0
    go_frame
    generalize Maps.has (mapOf ks2) = left0 at *
    generalize Maps.size (mapOf ks2) = cnt0 at *
    go_loopg [5] (cnt0 + 1) (fun f _ wr => ∃ (left : Lit → Bool) (cnt : Nat), cnt < f ∧ Hid (Rg wr b w6.heap.size (n + 1) (mapOf (ks2.filter fun y => left (.int .i64 y.x.a) || decide (y.x.a < x.a + 1))) left cnt) ∧ Hid (w6.grownBy wr (some b)))
    case atStart => exact ⟨_, _, Nat.lt_succ_self _, R0, G0⟩
    case round =>
      obtain ⟨left, cnt, hf, HR, HW6⟩ := hrel
      have HJ : Hid (Arr wr g 55 [.int .u64 (i : Int), .bool done, .int .i64 (x.a + 1), .map q]) := J6.out.keptR HW6.out (by have := HBG.out.1; simp; omega)
      go_wp2_with (first | (at_next; refine wpList_next_mp rfl _ rfl b w6.heap.size (n + 1) _ left cnt rfl HR.out ?_ ?_) | go_in)
      · intro _ hl0
        have HM := hide HR.out.owns
        rw [keep_end hl0] at HM
        have j3 := HJ.out.cell 3
        have f3 := HJ.out.frozen 3
        simp only [List.getElem?_cons_zero, List.getElem?_cons_succ] at j3
        clear hl0
        go_wp2
        go_end0
        refine ⟨rfl, ?_, b, pb, d, ?_, HPB.out⟩
        · refine grown_trans (G6.out.andThen HW6.out (fun k hk => by cases hk; left; have := L6.out.1; omega)) ⟨rfl, rfl, rfl, by simp, fun k _ hk => heap_setCell_other wr ⟨g, 3, none⟩ k _ (fun e => hk (by simp [e]))⟩
        · rw [HK2.out, HBM.out, HBK.out, show ((x.a.toNat + 1 : Nat) : Int) = x.a + 1 by omega]
          exact pj_of HJ.out HM.out (D5.out.filter _) (fun k hk => by
            have M6' := M6.out
            exact (E6.out k (List.mem_filter.1 hk).1).keptM HW6.out M6')
      · intro y yp yl yc w7 cnt1 hwy hly hat hrg1 hlt hg1 hs1 hen
        have R1 := hide hrg1
        have G1 : Hid (w6.grownBy w7 (some b)) := HW6.out.andThen hg1 (fun j hj => by cases hj; exact Or.inl (Nat.le_refl _))
        have j2 := (J6.out.keptR G1.out (by have := HBG.out.1; simp; omega)).cell 2
        simp only [List.getElem?_cons_zero, List.getElem?_cons_succ] at j2
        have HWY := hide hwy
        clear hrg1 hg1 hs1 hwy hly hat
        by_cases hM : x.a + 1 ≤ y
        · go_wp2_with (first | (at_delete; refine wpList_delete_ranges _ rfl _ _ 53 3 rfl 23 mpKeyed Try.underlying53 _ b w6.heap.size (n + 1) _ _ cnt1 rfl R1.out _ _ rfl (mpKey HWY.out) ?_; intro w8 cnt2 hrg2 hle hturn; go_frame) | go_in)
          rw [strike_twice, del_place (D5.out.filter _), keep_strike hM] at hrg2
          have R2 := hide hrg2
          have G2 := hide (grown_trans G1.out hturn.grown)
          clear hrg2 hturn
          go_roundg cnt
          case measure => omega
          case rel => exact ⟨fun z => left z && !z.sameKey (Lit.int .i64 y), cnt2, by omega, R2, G2⟩
        · have hM' : y < x.a + 1 := by omega
          have hM2 : ¬ (x.a + 1 ≤ y) := hM
          rw [keep_stay hM'] at R1
          go_wp2
          go_roundg cnt
          case measure => omega
          case rel => exact ⟨fun z => left z && !z.sameKey (Lit.int .i64 y), cnt1, by omega, R1, G1⟩
  · have HBM : Hid (bndM must x = must) := if_neg hbd
    have HBK : Hid (bndK ks2 must x = ks2) := if_neg hbd
    have hc : x.l = false ∨ x.l = true ∧ ((must : Int) == 0) = false := by
      cases hl : x.l
      · exact Or.inl rfl
      · right
        refine ⟨rfl, ?_⟩
        simp [hl] at hbd
        simpa using hbd
    clear hbd
    rcases hc with hl | ⟨hl, hm⟩
    all_goals
      rw [hl] at b2
      go_wp2
      go_end0
      refine ⟨rfl, ?_, b, pb, d, ?_, HPB.out⟩
      · exact grown_trans (below_grown B5.out _) ⟨rfl, rfl, rfl, by simp, fun k _ hk => heap_setCell_other w5 ⟨g, 3, none⟩ k _ (fun e => hk (by simp [e]))⟩
      · rw [HK2.out, HBM.out, HBK.out]
        exact pj_of J5.out M5.out D5.out EO.out

end Go.Proofs.Ytecpnnnkkofejaa
