/-
  A walk: the reference's block hidden.
-/
import Derived.Test.YtflakgigekfgcaaRB
import Derived.Test.YtflakgigekfgcaaEJ
namespace Go.Proofs.Ytflakgigekfgcaa
open Go.RowKit

/-- what lies in memory while the reference hides a block -/
structure StY (w wr : World) (L s b : List Nat) : Prop where
  r : Arr wr w.heap.size 54 (u8s L)
  t : Arr wr (w.heap.size + 1) 52 (u8s s)
  b : Arr wr (w.heap.size + 1 + 1) 22 (u8s b)
  o : Arr wr (w.heap.size + 1 + 1 + 1) 22 (u8s z16)
  bl : Below w.heap.size w wr
theorem StY.set {w wr : World} {L s b : List Nat} (r : StY w wr L s b) (i x : Nat) : StY w (wr.setCell ⟨w.heap.size + 1 + 1, i, none⟩ (.int .u8 ((x : Nat) : Int))) L s (b.set i x) := by
  obtain ⟨h0, h1, h2, h3, h4⟩ := r
  refine ⟨h0.other _ _ (show w.heap.size ≠ w.heap.size + 1 + 1 by omega), h1.other _ _ (show w.heap.size + 1 ≠ w.heap.size + 1 + 1 by omega), ?_, h3.other _ _ (show w.heap.size + 1 + 1 + 1 ≠ w.heap.size + 1 + 1 by omega), h4.setCell (show w.heap.size ≤ w.heap.size + 1 + 1 by omega) _⟩
  have := h2.set i (.int .u8 ((x : Nat) : Int))
  rw [u8s_set] at this
  exact this
theorem StY.drew {w wr : World} {L s b : List Nat} (r : StY w wr L s b) : StY w wr.drew L s b := ⟨r.r, r.t, r.b, r.o, r.bl.drew⟩
theorem StY.atB {w wr : World} {L s b : List Nat} (r : StY w wr L s b) {i : Nat} (hi : i < b.length) : wr.cell? ⟨w.heap.size + 1 + 1, i, none⟩ = some (.int .u8 ((b.getD i 0 : Nat) : Int)) := (r.b.cell i).trans (u8s_at hi)
theorem StY.far {w wr : World} {L s b : List Nat} (r : StY w wr L s b) {g : Nat} (hg : w.heap.size + 1 + 1 + 1 < g) (i x : Nat) : StY w (wr.setCell ⟨g, i, none⟩ (.int .u8 ((x : Nat) : Int))) L s b :=
  ⟨r.r.other _ _ (show w.heap.size ≠ g by omega), r.t.other _ _ (show w.heap.size + 1 ≠ g by omega), r.b.other _ _ (show w.heap.size + 1 + 1 ≠ g by omega), r.o.other _ _ (show w.heap.size + 1 + 1 + 1 ≠ g by omega), r.bl.setCell (show w.heap.size ≤ g by omega) _⟩
theorem StY.more {w wr : World} {L s b : List Nat} (r : StY w wr L s b) (o : Obj) : StY w (wr.alloc o) L s b := ⟨r.r.alloc _, r.t.alloc _, r.b.alloc _, r.o.alloc _, r.bl.alloc r.bl.size _⟩
theorem StY.put {w wr : World} {L s b : List Nat} (r : StY w wr L s b) (c : List Nat) : StY w (wr.setRow (w.heap.size + 1 + 1) (u8s c).toArray) L s c :=
  ⟨r.r.rowOther _ _ (by omega), r.t.rowOther _ _ (by omega), r.b.row _, r.o.rowOther _ _ (by omega), below_setRow r.bl (by omega) r.b.lt _⟩

/-- what the walk wants to know of the rounds -/
structure Hds (f B X Y : Nat → List Nat) (s b L : List Nat) : Prop where
  hL : L = flF f 11
  fb : ∀ j, Blk (f j)
  bb : ∀ j, Blk (B j)
  xb : ∀ j, Blk (X j)
  yb : ∀ j, Blk (Y j)
  b0 : ∀ i, i < 16 → (B 0).getD i 0 = b.getD i 0 ^^^ (f 0).getD i 0
  x0 : ∀ r i, i < 16 → (X r).getD i 0 = s.getD ((B r).getD (4 * ((i / 4 + i % 4) % 4) + i % 4) 0) 0
  y0 : ∀ r c q, c < 4 → q < 4 → (Y r).getD (4 * c + q) 0 = ((tmF 2 ((X r).getD (4 * c + q) 0) ^^^ tmF 3 ((X r).getD (4 * c + (q + 1) % 4) 0)) ^^^ (X r).getD (4 * c + (q + 2) % 4) 0) ^^^ (X r).getD (4 * c + (q + 3) % 4) 0
  b1 : ∀ r, r + 1 < 10 → ∀ i, i < 16 → (B (r + 1)).getD i 0 = (Y r).getD i 0 ^^^ (f (r + 1)).getD i 0
  b2 : ∀ r, ¬ r + 1 < 10 → ∀ i, i < 16 → (B (r + 1)).getD i 0 = (X r).getD i 0 ^^^ (f (r + 1)).getD i 0

/-- where the bytes of a column stand, told by names of their own -/
structure Idx (c q c4 o0 k1 k2 k3 q1 q2 q3 o1 o2 o3 : Nat) : Prop where
  eqs : (4 : Int) * (c : Int) = (c4 : Int) ∧ (c4 : Int) + (q : Int) = (o0 : Int) ∧ (q : Int) + 1 = (k1 : Int) ∧ (q : Int) + 2 = (k2 : Int) ∧ (q : Int) + 3 = (k3 : Int) ∧ Int.tmod (k1 : Int) 4 = (q1 : Int) ∧ Int.tmod (k2 : Int) 4 = (q2 : Int) ∧ Int.tmod (k3 : Int) 4 = (q3 : Int)
  eqs2 : (k1 : Int) % 4 = (q1 : Int) ∧ (k2 : Int) % 4 = (q2 : Int) ∧ (k3 : Int) % 4 = (q3 : Int) ∧ (c4 : Int) + (q1 : Int) = (o1 : Int) ∧ (c4 : Int) + (q2 : Int) = (o2 : Int) ∧ (c4 : Int) + (q3 : Int) = (o3 : Int)
  wraps : IntKind.i64.wrap (c4 : Int) = (c4 : Int) ∧ IntKind.i64.wrap (o0 : Int) = (o0 : Int) ∧ IntKind.i64.wrap (k1 : Int) = (k1 : Int) ∧ IntKind.i64.wrap (k2 : Int) = (k2 : Int) ∧ IntKind.i64.wrap (k3 : Int) = (k3 : Int) ∧ IntKind.i64.wrap (q1 : Int) = (q1 : Int) ∧ IntKind.i64.wrap (q2 : Int) = (q2 : Int) ∧ IntKind.i64.wrap (q3 : Int) = (q3 : Int) ∧ IntKind.i64.wrap (o1 : Int) = (o1 : Int) ∧ IntKind.i64.wrap (o2 : Int) = (o2 : Int) ∧ IntKind.i64.wrap (o3 : Int) = (o3 : Int)
  lts : (o0 : Int) < 16 ∧ (o1 : Int) < 16 ∧ (o2 : Int) < 16 ∧ (o3 : Int) < 16
  ms : o0 < 16 ∧ o1 < 16 ∧ o2 < 16 ∧ o3 < 16
  h0 : o0 = 4 * c + q
  h1 : o1 = 4 * c + (q + 1) % 4
  h2 : o2 = 4 * c + (q + 2) % 4
  h3 : o3 = 4 * c + (q + 3) % 4
theorem wrap_small (a : Nat) (ha : a < 100) : IntKind.i64.wrap (a : Int) = (a : Int) := by simp [IntKind.wrap, IntKind.bits, IntKind.signed]; omega
theorem tmod_four (a : Nat) : Int.tmod (a : Int) 4 = ((a % 4 : Nat) : Int) := by rw [Int.tmod_eq_emod_of_nonneg (by omega)]; omega
theorem idx_is (c q : Nat) (hc : c < 4) (hq : q < 4) : ∃ c4 o0 k1 k2 k3 q1 q2 q3 o1 o2 o3, Idx c q c4 o0 k1 k2 k3 q1 q2 q3 o1 o2 o3 :=
  ⟨4 * c, 4 * c + q, q + 1, q + 2, q + 3, (q + 1) % 4, (q + 2) % 4, (q + 3) % 4, 4 * c + (q + 1) % 4, 4 * c + (q + 2) % 4, 4 * c + (q + 3) % 4,
    ⟨by omega, by omega, by omega, by omega, by omega, tmod_four _, tmod_four _, tmod_four _⟩, ⟨by omega, by omega, by omega, by omega, by omega, by omega⟩,
    ⟨wrap_small _ (by omega), wrap_small _ (by omega), wrap_small _ (by omega), wrap_small _ (by omega), wrap_small _ (by omega), wrap_small _ (by omega), wrap_small _ (by omega), wrap_small _ (by omega), wrap_small _ (by omega), wrap_small _ (by omega), wrap_small _ (by omega)⟩,
    ⟨by omega, by omega, by omega, by omega⟩, ⟨by omega, by omega, by omega, by omega⟩, rfl, rfl, rfl, rfl⟩

theorem flF_cell {f : Nat → List Nat} (hf : ∀ j, Blk (f j)) {v : World} {g : Nat} (h : Arr v g 54 (u8s (flF f 11))) {j i : Nat} (hj : j < 11) (hi : i < 16) : v.cell? ⟨g, j * 16 + i, none⟩ = some (.int .u8 (((f j).getD i 0 : Nat) : Int)) := by
  have h1 := flF_row (fun j => (hf j).len) j i hi 11 hj
  rw [h.cell, Nat.mul_comm j 16]
  simp only [u8s, List.getElem?_map, h1]
  have h2 : i < (f j).length := by rw [(hf j).len]; exact hi
  simp [List.getD, h2]

set_option maxHeartbeats 16000000 in
set_option maxRecDepth 100000 in
theorem rhide_of (f B X Y : Nat → List Nat) (s0 b L : List Nat) (w : World) (sl : s0.length = 256) (hs : ∀ i, s0.getD i 0 < 256) (hb : Blk b) (hH : Hds f B X Y s0 b L) :
    Calls Try.prog 32 #[.agg (u8s L).toArray, .agg (u8s s0).toArray, .agg (u8s b).toArray] w fun e w' => e = .returned (.agg (u8s (B 10)).toArray) ∧ Below w.heap.size w w' := by
  have SL := hide sl
  have HS := hide hs
  have HB := hide hb
  have HH := hide hH
  have ZZ : Hid (Blk z16) := ⟨rfl, fun i => getD_lt (by decide) (by omega) i⟩
  have HZ : Hid (StY w ((((w.alloc (Obj.cells (u8s L).toArray 54)).alloc (Obj.cells (u8s s0).toArray 52)).alloc (Obj.cells (u8s b).toArray 22)).alloc (Obj.cells (u8s z16).toArray 22)) L s0 b) :=
    ⟨(((Arr.new w _ (u8s L)).alloc _).alloc _).alloc _, ((Arr.newAt (w.alloc _) _ (u8s s0) _ (by simp)).alloc _).alloc _, (Arr.newAt ((w.alloc _).alloc _) _ (u8s b) _ (by simp)).alloc _, Arr.newAt (((w.alloc _).alloc _).alloc _) _ (u8s z16) _ (by simp), ((((Below.refl _ _).alloc (Nat.le_refl _) _).alloc (by simp) _).alloc (by simp; omega) _).alloc (by simp; omega) _⟩
  clear sl hs hb hH
  have TT := hide (HH.out.bb 0)
  have AA := HB
  have FF := hide (HH.out.fb 0)
  have HTT := hide HH.out.b0
  have RG : Hid (∀ i, i < 16 → ∀ v : World, Hid (Arr v w.heap.size 54 (u8s L)) → v.cell? ⟨w.heap.size, i, none⟩ = some (.int .u8 (((f 0).getD i 0 : Nat) : Int))) := fun i hi v h => by
    have := flF_cell HH.out.fb (by have := h.out; rwa [HH.out.hL] at this) (show (0 : Nat) < 11 by omega) hi
    rwa [Nat.zero_mul, Nat.zero_add] at this
  go_enter Try.func32, Try.ntmps32
  go_wp2
  go_loopg [7] 17 (fun f0 s wx => ∃ (i : Nat), s = .int .i64 i ∧ i ≤ 16 ∧ 16 - i < f0 ∧ Hid (StY w wx L s0 (over (B 0) (b) i)))
  case atStart =>
    refine ⟨0, rfl, by omega, by omega, ?_⟩
    rw [over_zero]
    exact HZ
  case round =>
    clear HZ
    obtain ⟨i, rfl, hi, hfi, HR⟩ := hrel
    by_cases hlt : i < 16
    · have hi16 : (i : Int) < 16 := by omega
      have e1 := over_at (B 0) (b) 16 i i TT.out.len AA.out.len hlt
      rw [if_neg (by omega)] at e1
      have ca := HR.out.atB (i := i) (by rw [over_length _ _ _ _ TT.out.len AA.out.len (by omega)]; omega)
      rw [e1] at ca
      have fa := HR.out.b.frozen i
      have RL := hide (RG.out i hlt)
      have ex := u8_xor_nat _ _ (AA.out.lt i) (FF.out.lt i)
      have HN := hide (HTT.out i hlt)
      have HO := hide (over_set (B 0) (b) 16 i TT.out.len AA.out.len hlt)
      rw [HN.out] at HO
      clear e1 HN
      generalize (b).getD i 0 = x at *
      generalize (f 0).getD i 0 = y at *
      generalize x ^^^ y = z at *
      go_wp2_with fail
      refine wp_region_held_drew (S := fun v => Hid (Arr v w.heap.size 54 (u8s L))) (by kernel_rfl) (hide HR.out.r) (fun hHeld => ?_)
      refine take_dstH (i := 0) (d := 20) (v := ?_) rfl rfl (by kernel_rfl) (by kernel_rfl) (by kernel_rfl) (fun _ _ _ h => h) (by rfl) hHeld ?_ ?_
      rotate_left
      · intro wZ hSw; clear hSw; go_simp; first | (with_reducible rfl) | (rw [if_pos (by omega)]; with_reducible rfl) | skip
      try simp only [Act.put, List.setIfInBounds_toArray, List.set_cons_zero, List.set_cons_succ]
      refine take_dstH (i := 1) (d := 21) (v := ?_) rfl rfl (by kernel_rfl) (by kernel_rfl) (by kernel_rfl) (fun _ _ _ h => h) (by rfl) hHeld ?_ ?_
      rotate_left
      · intro wZ hSw; clear hSw; go_simp; first | (with_reducible rfl) | (rw [if_pos (by omega)]; with_reducible rfl) | skip
      try simp only [Act.put, List.setIfInBounds_toArray, List.set_cons_zero, List.set_cons_succ]
      refine take_dstH (i := 2) (d := 22) (v := ?_) rfl rfl (by kernel_rfl) (by kernel_rfl) (by kernel_rfl) (fun _ _ _ h => h) (by rfl) hHeld ?_ ?_
      rotate_left
      · intro wZ hSw; clear hSw; go_simp; first | (with_reducible rfl) | (rw [if_pos (by omega)]; with_reducible rfl) | skip
      try simp only [Act.put, List.setIfInBounds_toArray, List.set_cons_zero, List.set_cons_succ]
      refine take_dstH (i := 4) (d := 24) (v := ?_) rfl rfl (by kernel_rfl) (by kernel_rfl) (by kernel_rfl) (fun _ _ _ h => h) (by rfl) hHeld ?_ ?_
      rotate_left
      · intro wZ hSw; clear hSw; go_simp; first | (with_reducible rfl) | (rw [if_pos (by omega)]; with_reducible rfl) | skip
      try simp only [Act.put, List.setIfInBounds_toArray, List.set_cons_zero, List.set_cons_succ]
      refine take_dstH (i := 5) (d := 25) (v := ?_) rfl rfl (by kernel_rfl) (by kernel_rfl) (by kernel_rfl) (fun _ _ _ h => h) (by rfl) hHeld ?_ ?_
      rotate_left
      · intro wZ hSw; clear hSw; go_simp; first | (with_reducible rfl) | (rw [if_pos (by omega)]; with_reducible rfl) | skip
      try simp only [Act.put, List.setIfInBounds_toArray, List.set_cons_zero, List.set_cons_succ]
      refine take_dstH (i := 6) (d := 26) (v := ?_) rfl rfl (by kernel_rfl) (by kernel_rfl) (by kernel_rfl) (fun _ _ _ h => h) (by rfl) hHeld ?_ ?_
      rotate_left
      · intro wZ hSw; clear hSw; go_simp; first | (with_reducible rfl) | (rw [if_pos (by omega)]; with_reducible rfl) | skip
      try simp only [Act.put, List.setIfInBounds_toArray, List.set_cons_zero, List.set_cons_succ]
      refine take_dstH (i := 7) (d := 27) (v := ?_) rfl rfl (by kernel_rfl) (by kernel_rfl) (by kernel_rfl) (fun _ _ _ h => h) (by rfl) hHeld ?_ ?_
      rotate_left
      · intro wZ hSw; have hfS := RL.out wZ hSw; clear hSw; go_simp; first | (with_reducible rfl) | (rw [if_pos (by omega)]; with_reducible rfl) | skip
      try simp only [Act.put, List.setIfInBounds_toArray, List.set_cons_zero, List.set_cons_succ]
      refine wpAnyH_ready (rs := [3]) (by kernel_rfl) (by simp) ?_
      refine (AllReadyH.cons rfl (fun K hK => ?_) AllReadyH.nil)
      go_simp
      refine hK.out _ _ ?_ (fun hHeld => ?_)
      · exact hHeld
      clear hK K
      try simp only [Act.put, List.setIfInBounds_toArray, List.set_cons_zero, List.set_cons_succ]
      refine take_dstH (i := 8) (d := 28) (v := ?_) rfl rfl (by kernel_rfl) (by kernel_rfl) (by kernel_rfl) (fun _ _ _ h => h) (by rfl) hHeld ?_ ?_
      rotate_left
      · intro wZ hSw; clear hSw; go_simp; first | (with_reducible rfl) | (rw [if_pos (by omega)]; with_reducible rfl) | skip
      try simp only [Act.put, List.setIfInBounds_toArray, List.set_cons_zero, List.set_cons_succ]
      refine take_dstH (i := 9) (d := 29) (v := ?_) rfl rfl (by kernel_rfl) (by kernel_rfl) (by kernel_rfl) (fun _ _ _ h => h) (by rfl) hHeld ?_ ?_
      rotate_left
      · intro wZ hSw; clear hSw; go_simp; first | (with_reducible rfl) | (rw [if_pos (by omega)]; with_reducible rfl) | skip
      try simp only [Act.put, List.setIfInBounds_toArray, List.set_cons_zero, List.set_cons_succ]
      refine wpAnyH_ready (rs := [10]) (by kernel_rfl) (by simp) ?_
      refine (AllReadyH.cons rfl (fun K hK => ?_) AllReadyH.nil)
      go_simp
      refine hK.out _ _ ?_ (fun hHeld => ?_)
      · exact hide (Arr.other (Hid.out hHeld) _ _ (show w.heap.size ≠ w.heap.size + 1 + 1 by omega))
      clear hK K
      try simp only [Act.put, List.setIfInBounds_toArray, List.set_cons_zero, List.set_cons_succ]
      refine wpAnyH_done (by kernel_rfl) ?_ _
      clear hHeld
      go_wp2
      go_roundg (16 - i)
      case measure => omega
      case rel =>
        refine ⟨i + 1, by go_num, by omega, by omega, ?_⟩
        have := (HR.out.set i z).drew
        rw [HO.out] at this
        exact this
    · have e : i = 16 := by omega
      subst e
      rw [over_full _ _ _ TT.out.len AA.out.len] at HR
      clear TT AA FF RG HTT
      go_wp2
      go_loopg [8] 12 (fun f0 s8 wx => ∃ (k n : Nat), s8 = .int .i64 n ∧ Hid (n = k + 1) ∧ n ≤ 11 ∧ 11 - n < f0 ∧ Hid (StY w wx L s0 (B k)))
      case atStart => exact ⟨0, 1, rfl, rfl, by omega, by omega, HR⟩
      case round =>
        clear HR
        obtain ⟨k, n, rfl, HK, hn, hfn, HR⟩ := hrel
        by_cases hn11 : n ≤ 10
        · have n11 : (n : Int) ≤ 10 := by omega
          have n11' : (n : Int) < 11 := by omega
          have HR2 : Hid ((StY w (wr.alloc (Obj.cells #[Value.int .u8 0, Value.int .u8 0, Value.int .u8 0, Value.int .u8 0, Value.int .u8 0, Value.int .u8 0, Value.int .u8 0, Value.int .u8 0, Value.int .u8 0, Value.int .u8 0, Value.int .u8 0, Value.int .u8 0, Value.int .u8 0, Value.int .u8 0, Value.int .u8 0, Value.int .u8 0] 22)) L s0 (B k) ∧ Arr (wr.alloc (Obj.cells #[Value.int .u8 0, Value.int .u8 0, Value.int .u8 0, Value.int .u8 0, Value.int .u8 0, Value.int .u8 0, Value.int .u8 0, Value.int .u8 0, Value.int .u8 0, Value.int .u8 0, Value.int .u8 0, Value.int .u8 0, Value.int .u8 0, Value.int .u8 0, Value.int .u8 0, Value.int .u8 0] 22)) wr.heap.size 22 (u8s z16)) ∧ w.heap.size + 1 + 1 + 1 < wr.heap.size) :=
            ⟨⟨HR.out.more _, Arr.new wr _ (u8s z16)⟩, HR.out.o.lt⟩
          have hg := HR2.out.2
          have HR1 := hide HR2.out.1
          clear HR HR2
          go_wp2
          generalize World.alloc wr _ = wq at *
          generalize wr.heap.size = g at *
          go_loopg [10] 17 (fun f0 s10 wx => ∃ (i : Nat), s10 = .int .i64 i ∧ i ≤ 16 ∧ 16 - i < f0 ∧ Hid (StY w wx L s0 (B k) ∧ Arr wx g 22 (u8s (part (X k) 16 i))))
          case atStart => exact ⟨0, rfl, by omega, by omega, by rw [part_zero16]; exact HR1⟩
          case round =>
            clear HR1
            obtain ⟨i, rfl, hi, hfi, HR⟩ := hrel
            have XB := hide (HH.out.xb k)
            have BB := hide (HH.out.bb k)
            by_cases hlt : i < 16
            · have hi16 : (i : Int) < 16 := by omega
              obtain ⟨q, hq⟩ : ∃ a, a = i % 4 := ⟨_, rfl⟩
              obtain ⟨c, hc⟩ : ∃ a, a = i / 4 := ⟨_, rfl⟩
              obtain ⟨cq, hcq⟩ : ∃ a, a = c + q := ⟨_, rfl⟩
              obtain ⟨d, hd⟩ : ∃ a, a = cq % 4 := ⟨_, rfl⟩
              obtain ⟨d4, hd4⟩ : ∃ a, a = 4 * d := ⟨_, rfl⟩
              obtain ⟨o, ho⟩ : ∃ a, a = d4 + q := ⟨_, rfl⟩
              have i1 : Int.tmod (i : Int) 4 = (q : Int) := by rw [Int.tmod_eq_emod_of_nonneg (by omega)]; omega
              have i1' : (i : Int) % 4 = (q : Int) := by omega
              have i2 : Int.tdiv (i : Int) 4 = (c : Int) := by rw [Int.tdiv_eq_ediv_of_nonneg (by omega)]; omega
              have i2' : (i : Int) / 4 = (c : Int) := by omega
              have i3 : (c : Int) + (q : Int) = (cq : Int) := by omega
              have i4 : Int.tmod (cq : Int) 4 = (d : Int) := by rw [Int.tmod_eq_emod_of_nonneg (by omega)]; omega
              have i4' : (cq : Int) % 4 = (d : Int) := by omega
              have i5 : (4 : Int) * (d : Int) = (d4 : Int) := by omega
              have i6 : (d4 : Int) + (q : Int) = (o : Int) := by omega
              have o16 : (o : Int) < 16 := by omega
              have bq : q < 4 := by omega
              have bc : c < 4 := by omega
              have bcq : cq < 8 := by omega
              have bd : d < 4 := by omega
              have bd4 : d4 < 16 := by omega
              have bo : o < 16 := by omega
              have HV := hide (HH.out.x0 k i hlt)
              rw [← hq, ← hc, ← hcq, ← hd, ← hd4, ← ho] at HV
              have c1 := HR.out.1.atB (i := o) (by rw [BB.out.len]; exact bo)
              have db := BB.out.lt o
              clear hq hc hcq hd hd4 ho
              generalize (B k).getD o 0 = y at *
              have y256 : (y : Int) < 256 := by omega
              have c2 := (HR.out.1.t.cell y).trans (u8s_at (by rw [SL.out]; exact db))
              have c3 := (HR.out.2.cell i).trans (u8s_at (by rw [part_length _ _ _ XB.out.len (by omega)]; exact hlt))
              have f3 := HR.out.2.frozen i
              have HO := hide (part_set (X k) 16 i XB.out.len hlt)
              rw [HV.out] at HO
              clear HV
              generalize s0.getD y 0 = z at *
              generalize (part (X k) 16 i).getD i 0 = old at *
              go_wp2
              go_roundg (16 - i)
              case measure => omega
              case rel =>
                refine ⟨i + 1, by go_num, by omega, by omega, ?_⟩
                have h := HR.out.2.set i (.int .u8 (z : Int))
                rw [u8s_set, HO.out] at h
                exact ⟨HR.out.1.far hg i z, h⟩
            · have e : i = 16 := by omega
              subst e
              rw [part_full _ _ XB.out.len] at HR
              have TT := hide (HH.out.bb (k + 1))
              have FF := hide (HH.out.fb n)
              have RG : Hid (∀ i, i < 16 → ∀ v : World, Hid (Arr v w.heap.size 54 (u8s L)) → v.cell? ⟨w.heap.size, n * 16 + i, none⟩ = some (.int .u8 (((f n).getD i 0 : Nat) : Int))) := fun i hi v h => flF_cell HH.out.fb (by have := h.out; rwa [HH.out.hL] at this) (by omega) hi
              have HR3 : Hid (StY w (wr.setRow (w.heap.size + 1 + 1) (u8s (X k)).toArray) L s0 (X k) ∧ Arr (wr.setRow (w.heap.size + 1 + 1) (u8s (X k)).toArray) g 22 (u8s (X k))) := ⟨HR.out.1.put (X k), HR.out.2.rowOther _ _ (by omega)⟩
              by_cases hn10 : n < 10
              · have n10 : (n : Int) < 10 := by omega
                go_upto_if 57 with (first
                  | (refine wpList_load_row rfl 22 _ rfl g rfl 22 _ (0, 0) _ HR.out.2 Try.underlying22 rfl (szb XB.out) ?_)
                  | (refine wpList_store_row rfl 22 _ _ rfl (w.heap.size + 1 + 1) _ rfl rfl 22 _ HR.out.1.b (szb XB.out) (szz BB.out XB.out) (one_u8s _) ?_))
                clear HR XB BB
                generalize World.setRow _ (w.heap.size + 1 + 1) (u8s (X k)).toArray = wp at *
                go_wp2
                go_loopg [13] 5 (fun f0 s13 wx => ∃ (c : Nat), s13 = .int .i64 c ∧ c ≤ 4 ∧ 4 - c < f0 ∧ Hid (StY w wx L s0 (over (Y k) (X k) (4 * c)) ∧ Arr wx g 22 (u8s (X k))))
                case atStart => exact ⟨0, rfl, by omega, by omega, by rw [Nat.mul_zero, over_zero]; exact ⟨HR3.out.1, HR3.out.2⟩⟩
                case round =>
                  clear HR3
                  obtain ⟨c, rfl, hc, hfc, HR⟩ := hrel
                  by_cases hc4 : c < 4
                  · have hc4' : (c : Int) < 4 := by omega
                    go_wp2
                    go_loopg [14] 5 (fun f0 s14 wx => ∃ (q : Nat), s14 = .int .i64 q ∧ q ≤ 4 ∧ 4 - q < f0 ∧ Hid (StY w wx L s0 (over (Y k) (X k) (4 * c + q)) ∧ Arr wx g 22 (u8s (X k))))
                    case atStart => exact ⟨0, rfl, by omega, by omega, HR⟩
                    case round =>
                      clear HR
                      obtain ⟨q, rfl, hq, hfq, HR⟩ := hrel
                      by_cases hq4 : q < 4
                      · have hq4' : (q : Int) < 4 := by omega
                        obtain ⟨c4, o0, k1, k2, k3, q1, q2, q3, o1, o2, o3, IX⟩ := idx_is c q hc4 hq4
                        have HIX := hide IX
                        obtain ⟨m0, m1, m2, m3⟩ := IX.ms
                        have ho0 := IX.h0
                        have ho1 := IX.h1
                        have ho2 := IX.h2
                        have ho3 := IX.h3
                        clear IX
                        have XB := hide (HH.out.xb k)
                        have YB := hide (HH.out.yb k)
                        have HV := hide (HH.out.y0 k c q hc4 hq4)
                        rw [← ho0, ← ho1, ← ho2, ← ho3] at HV
                        have HO := hide (over_set (Y k) (X k) 16 o0 YB.out.len XB.out.len m0)
                        rw [HV.out] at HO
                        rw [← ho0] at HR
                        have ca := HR.out.1.atB (i := o0) (by rw [over_length _ _ _ _ YB.out.len XB.out.len (Nat.le_of_lt m0)]; exact m0)
                        have fa := HR.out.1.b.frozen o0
                        generalize (over (Y k) (X k) o0).getD o0 0 = old at *
                        have LX : Hid (∀ o, o < 16 → ∀ v : World, Hid (Arr v g 22 (u8s (X k))) → v.cell? ⟨g, o, none⟩ = some (.int .u8 (((X k).getD o 0 : Nat) : Int))) := fun o ho v h => (h.out.cell o).trans (u8s_at (by rw [XB.out.len]; exact ho))
                        have L0 := hide (LX.out o0 m0)
                        have L1 := hide (LX.out o1 m1)
                        have L2 := hide (LX.out o2 m2)
                        have L3 := hide (LX.out o3 m3)
                        have d0 := XB.out.lt o0
                        have d1 := XB.out.lt o1
                        have d2 := XB.out.lt o2
                        have d3 := XB.out.lt o3
                        have ho0' := hide ho0
                        clear LX HV ho0 ho1 ho2 ho3
                        generalize (X k).getD o0 0 = x0 at *
                        generalize (X k).getD o1 0 = x1 at *
                        generalize (X k).getD o2 0 = x2 at *
                        generalize (X k).getD o3 0 = x3 at *
                        have T2 : Hid (∀ v, Calls Try.prog 31 #[.int .u8 2, .int .u8 x0] v fun e w' => e = .returned (.int .u8 ((tmF 2 x0 : Nat) : Int)) ∧ w' = v) := fun v => rtimes_any 2 x0 (by omega) d0 v
                        have T3 : Hid (∀ v, Calls Try.prog 31 #[.int .u8 3, .int .u8 x1] v fun e w' => e = .returned (.int .u8 ((tmF 3 x1 : Nat) : Int)) ∧ w' = v) := fun v => rtimes_any 3 x1 (by omega) d1 v
                        have l2 := tmF_lt x0 (show 2 < 256 by omega)
                        have l3 := tmF_lt x1 (show 3 < 256 by omega)
                        generalize tmF 2 x0 = t2 at *
                        generalize tmF 3 x1 = t3 at *
                        have e1 := u8_xor_nat t2 t3 l2 l3
                        have e2 := u8_xor_nat (t2 ^^^ t3) x2 (xor_lt8 l2 l3) d2
                        have e3 := u8_xor_nat ((t2 ^^^ t3) ^^^ x2) x3 (xor_lt8 (xor_lt8 l2 l3) d2) d3
                        generalize ((t2 ^^^ t3) ^^^ x2) ^^^ x3 = y3 at *
                        generalize (t2 ^^^ t3) ^^^ x2 = y2 at *
                        generalize t2 ^^^ t3 = y1 at *
                        obtain ⟨i1, i2, i3, i4, i5, i6, i7, i8⟩ := HIX.out.eqs
                        obtain ⟨j6, j7, j8, i9, i10, i11⟩ := HIX.out.eqs2
                        obtain ⟨w1, w2, w3, w4, w5, w6, w7, w8, w9, w10, w11⟩ := HIX.out.wraps
                        obtain ⟨n0, n1, n2, n3⟩ := HIX.out.lts
                        clear HIX
                        go_wp2_with fail
                        refine wp_region_held_drew (S := fun v => Hid (Arr v g 22 (u8s (X k)))) (by kernel_rfl) (hide HR.out.2) (fun hHeld => ?_)
                        refine take_dstH (i := 0) (d := 66) (v := ?_) rfl rfl (by kernel_rfl) (by kernel_rfl) (by kernel_rfl) (fun _ _ _ h => h) (by rfl) hHeld ?_ ?_
                        rotate_left
                        · intro wZ hSw; clear hSw; go_simp; first | (with_reducible rfl) | (rw [if_pos (by omega)]; with_reducible rfl) | skip
                        try simp only [Act.put, List.setIfInBounds_toArray, List.set_cons_zero, List.set_cons_succ]
                        refine take_dstH (i := 1) (d := 67) (v := ?_) rfl rfl (by kernel_rfl) (by kernel_rfl) (by kernel_rfl) (fun _ _ _ h => h) (by rfl) hHeld ?_ ?_
                        rotate_left
                        · intro wZ hSw; clear hSw; go_simp; first | (with_reducible rfl) | (rw [if_pos (by omega)]; with_reducible rfl) | skip
                        try simp only [Act.put, List.setIfInBounds_toArray, List.set_cons_zero, List.set_cons_succ]
                        refine take_dstH (i := 2) (d := 68) (v := ?_) rfl rfl (by kernel_rfl) (by kernel_rfl) (by kernel_rfl) (fun _ _ _ h => h) (by rfl) hHeld ?_ ?_
                        rotate_left
                        · intro wZ hSw; clear hSw; go_simp; first | (with_reducible rfl) | (rw [if_pos (by omega)]; with_reducible rfl) | skip
                        try simp only [Act.put, List.setIfInBounds_toArray, List.set_cons_zero, List.set_cons_succ]
                        refine take_dstH (i := 3) (d := 69) (v := ?_) rfl rfl (by kernel_rfl) (by kernel_rfl) (by kernel_rfl) (fun _ _ _ h => h) (by rfl) hHeld ?_ ?_
                        rotate_left
                        · intro wZ hSw; clear hSw; go_simp; first | (with_reducible rfl) | (rw [if_pos (by omega)]; with_reducible rfl) | skip
                        try simp only [Act.put, List.setIfInBounds_toArray, List.set_cons_zero, List.set_cons_succ]
                        refine take_dstH (i := 4) (d := 70) (v := ?_) rfl rfl (by kernel_rfl) (by kernel_rfl) (by kernel_rfl) (fun _ _ _ h => h) (by rfl) hHeld ?_ ?_
                        rotate_left
                        · intro wZ hSw; clear hSw; go_simp; first | (with_reducible rfl) | (rw [if_pos (by omega)]; with_reducible rfl) | skip
                        try simp only [Act.put, List.setIfInBounds_toArray, List.set_cons_zero, List.set_cons_succ]
                        refine take_dstH (i := 5) (d := 71) (v := ?_) rfl rfl (by kernel_rfl) (by kernel_rfl) (by kernel_rfl) (fun _ _ _ h => h) (by rfl) hHeld ?_ ?_
                        rotate_left
                        · intro wZ hSw; clear hSw; go_simp; first | (with_reducible rfl) | (rw [if_pos (by omega)]; with_reducible rfl) | skip
                        try simp only [Act.put, List.setIfInBounds_toArray, List.set_cons_zero, List.set_cons_succ]
                        refine take_dstH (i := 6) (d := 72) (v := ?_) rfl rfl (by kernel_rfl) (by kernel_rfl) (by kernel_rfl) (fun _ _ _ h => h) (by rfl) hHeld ?_ ?_
                        rotate_left
                        · intro wZ hSw; clear hSw; go_simp; first | (with_reducible rfl) | (rw [if_pos (by omega)]; with_reducible rfl) | skip
                        try simp only [Act.put, List.setIfInBounds_toArray, List.set_cons_zero, List.set_cons_succ]
                        refine take_dstH (i := 7) (d := 73) (v := ?_) rfl rfl (by kernel_rfl) (by kernel_rfl) (by kernel_rfl) (fun _ _ _ h => h) (by rfl) hHeld ?_ ?_
                        rotate_left
                        · intro wZ hSw; clear hSw; go_simp; first | (with_reducible rfl) | (rw [if_pos (by omega)]; with_reducible rfl) | skip
                        try simp only [Act.put, List.setIfInBounds_toArray, List.set_cons_zero, List.set_cons_succ]
                        refine take_dstH (i := 8) (d := 74) (v := ?_) rfl rfl (by kernel_rfl) (by kernel_rfl) (by kernel_rfl) (fun _ _ _ h => h) (by rfl) hHeld ?_ ?_
                        rotate_left
                        · intro wZ hSw; clear hSw; go_simp; first | (with_reducible rfl) | (rw [if_pos (by omega)]; with_reducible rfl) | skip
                        try simp only [Act.put, List.setIfInBounds_toArray, List.set_cons_zero, List.set_cons_succ]
                        refine take_dstH (i := 9) (d := 75) (v := ?_) rfl rfl (by kernel_rfl) (by kernel_rfl) (by kernel_rfl) (fun _ _ _ h => h) (by rfl) hHeld ?_ ?_
                        rotate_left
                        · intro wZ hSw; have hfS := L0.out wZ hSw; clear hSw; go_simp; first | (with_reducible rfl) | (rw [if_pos (by omega)]; with_reducible rfl) | skip
                        try simp only [Act.put, List.setIfInBounds_toArray, List.set_cons_zero, List.set_cons_succ]
                        refine take_dstH (i := 11) (d := 77) (v := ?_) rfl rfl (by kernel_rfl) (by kernel_rfl) (by kernel_rfl) (fun _ _ _ h => h) (by rfl) hHeld ?_ ?_
                        rotate_left
                        · intro wZ hSw; clear hSw; go_simp; first | (with_reducible rfl) | (rw [if_pos (by omega)]; with_reducible rfl) | skip
                        try simp only [Act.put, List.setIfInBounds_toArray, List.set_cons_zero, List.set_cons_succ]
                        refine take_dstH (i := 12) (d := 78) (v := ?_) rfl rfl (by kernel_rfl) (by kernel_rfl) (by kernel_rfl) (fun _ _ _ h => h) (by rfl) hHeld ?_ ?_
                        rotate_left
                        · intro wZ hSw; clear hSw; go_simp; first | (with_reducible rfl) | (rw [if_pos (by omega)]; with_reducible rfl) | skip
                        try simp only [Act.put, List.setIfInBounds_toArray, List.set_cons_zero, List.set_cons_succ]
                        refine take_dstH (i := 13) (d := 79) (v := ?_) rfl rfl (by kernel_rfl) (by kernel_rfl) (by kernel_rfl) (fun _ _ _ h => h) (by rfl) hHeld ?_ ?_
                        rotate_left
                        · intro wZ hSw; clear hSw; go_simp; first | (with_reducible rfl) | (rw [if_pos (by omega)]; with_reducible rfl) | skip
                        try simp only [Act.put, List.setIfInBounds_toArray, List.set_cons_zero, List.set_cons_succ]
                        refine take_dstH (i := 14) (d := 80) (v := ?_) rfl rfl (by kernel_rfl) (by kernel_rfl) (by kernel_rfl) (fun _ _ _ h => h) (by rfl) hHeld ?_ ?_
                        rotate_left
                        · intro wZ hSw; clear hSw; go_simp; first | (with_reducible rfl) | (rw [if_pos (by omega)]; with_reducible rfl) | skip
                        try simp only [Act.put, List.setIfInBounds_toArray, List.set_cons_zero, List.set_cons_succ]
                        refine take_dstH (i := 15) (d := 81) (v := ?_) rfl rfl (by kernel_rfl) (by kernel_rfl) (by kernel_rfl) (fun _ _ _ h => h) (by rfl) hHeld ?_ ?_
                        rotate_left
                        · intro wZ hSw; clear hSw; go_simp; first | (with_reducible rfl) | (rw [if_pos (by omega)]; with_reducible rfl) | skip
                        try simp only [Act.put, List.setIfInBounds_toArray, List.set_cons_zero, List.set_cons_succ]
                        refine take_dstH (i := 16) (d := 82) (v := ?_) rfl rfl (by kernel_rfl) (by kernel_rfl) (by kernel_rfl) (fun _ _ _ h => h) (by rfl) hHeld ?_ ?_
                        rotate_left
                        · intro wZ hSw; clear hSw; go_simp; first | (with_reducible rfl) | (rw [if_pos (by omega)]; with_reducible rfl) | skip
                        try simp only [Act.put, List.setIfInBounds_toArray, List.set_cons_zero, List.set_cons_succ]
                        refine take_dstH (i := 17) (d := 83) (v := ?_) rfl rfl (by kernel_rfl) (by kernel_rfl) (by kernel_rfl) (fun _ _ _ h => h) (by rfl) hHeld ?_ ?_
                        rotate_left
                        · intro wZ hSw; clear hSw; go_simp; first | (with_reducible rfl) | (rw [if_pos (by omega)]; with_reducible rfl) | skip
                        try simp only [Act.put, List.setIfInBounds_toArray, List.set_cons_zero, List.set_cons_succ]
                        refine take_dstH (i := 18) (d := 84) (v := ?_) rfl rfl (by kernel_rfl) (by kernel_rfl) (by kernel_rfl) (fun _ _ _ h => h) (by rfl) hHeld ?_ ?_
                        rotate_left
                        · intro wZ hSw; have hfS := L1.out wZ hSw; clear hSw; go_simp; first | (with_reducible rfl) | (rw [if_pos (by omega)]; with_reducible rfl) | skip
                        try simp only [Act.put, List.setIfInBounds_toArray, List.set_cons_zero, List.set_cons_succ]
                        refine take_dstH (i := 21) (d := 87) (v := ?_) rfl rfl (by kernel_rfl) (by kernel_rfl) (by kernel_rfl) (fun _ _ _ h => h) (by rfl) hHeld ?_ ?_
                        rotate_left
                        · intro wZ hSw; clear hSw; go_simp; first | (with_reducible rfl) | (rw [if_pos (by omega)]; with_reducible rfl) | skip
                        try simp only [Act.put, List.setIfInBounds_toArray, List.set_cons_zero, List.set_cons_succ]
                        refine take_dstH (i := 22) (d := 88) (v := ?_) rfl rfl (by kernel_rfl) (by kernel_rfl) (by kernel_rfl) (fun _ _ _ h => h) (by rfl) hHeld ?_ ?_
                        rotate_left
                        · intro wZ hSw; clear hSw; go_simp; first | (with_reducible rfl) | (rw [if_pos (by omega)]; with_reducible rfl) | skip
                        try simp only [Act.put, List.setIfInBounds_toArray, List.set_cons_zero, List.set_cons_succ]
                        refine take_dstH (i := 23) (d := 89) (v := ?_) rfl rfl (by kernel_rfl) (by kernel_rfl) (by kernel_rfl) (fun _ _ _ h => h) (by rfl) hHeld ?_ ?_
                        rotate_left
                        · intro wZ hSw; clear hSw; go_simp; first | (with_reducible rfl) | (rw [if_pos (by omega)]; with_reducible rfl) | skip
                        try simp only [Act.put, List.setIfInBounds_toArray, List.set_cons_zero, List.set_cons_succ]
                        refine take_dstH (i := 24) (d := 90) (v := ?_) rfl rfl (by kernel_rfl) (by kernel_rfl) (by kernel_rfl) (fun _ _ _ h => h) (by rfl) hHeld ?_ ?_
                        rotate_left
                        · intro wZ hSw; clear hSw; go_simp; first | (with_reducible rfl) | (rw [if_pos (by omega)]; with_reducible rfl) | skip
                        try simp only [Act.put, List.setIfInBounds_toArray, List.set_cons_zero, List.set_cons_succ]
                        refine take_dstH (i := 25) (d := 91) (v := ?_) rfl rfl (by kernel_rfl) (by kernel_rfl) (by kernel_rfl) (fun _ _ _ h => h) (by rfl) hHeld ?_ ?_
                        rotate_left
                        · intro wZ hSw; clear hSw; go_simp; first | (with_reducible rfl) | (rw [if_pos (by omega)]; with_reducible rfl) | skip
                        try simp only [Act.put, List.setIfInBounds_toArray, List.set_cons_zero, List.set_cons_succ]
                        refine take_dstH (i := 26) (d := 92) (v := ?_) rfl rfl (by kernel_rfl) (by kernel_rfl) (by kernel_rfl) (fun _ _ _ h => h) (by rfl) hHeld ?_ ?_
                        rotate_left
                        · intro wZ hSw; clear hSw; go_simp; first | (with_reducible rfl) | (rw [if_pos (by omega)]; with_reducible rfl) | skip
                        try simp only [Act.put, List.setIfInBounds_toArray, List.set_cons_zero, List.set_cons_succ]
                        refine take_dstH (i := 27) (d := 93) (v := ?_) rfl rfl (by kernel_rfl) (by kernel_rfl) (by kernel_rfl) (fun _ _ _ h => h) (by rfl) hHeld ?_ ?_
                        rotate_left
                        · intro wZ hSw; clear hSw; go_simp; first | (with_reducible rfl) | (rw [if_pos (by omega)]; with_reducible rfl) | skip
                        try simp only [Act.put, List.setIfInBounds_toArray, List.set_cons_zero, List.set_cons_succ]
                        refine take_dstH (i := 28) (d := 94) (v := ?_) rfl rfl (by kernel_rfl) (by kernel_rfl) (by kernel_rfl) (fun _ _ _ h => h) (by rfl) hHeld ?_ ?_
                        rotate_left
                        · intro wZ hSw; have hfS := L2.out wZ hSw; clear hSw; go_simp; first | (with_reducible rfl) | (rw [if_pos (by omega)]; with_reducible rfl) | skip
                        try simp only [Act.put, List.setIfInBounds_toArray, List.set_cons_zero, List.set_cons_succ]
                        refine take_dstH (i := 30) (d := 96) (v := ?_) rfl rfl (by kernel_rfl) (by kernel_rfl) (by kernel_rfl) (fun _ _ _ h => h) (by rfl) hHeld ?_ ?_
                        rotate_left
                        · intro wZ hSw; clear hSw; go_simp; first | (with_reducible rfl) | (rw [if_pos (by omega)]; with_reducible rfl) | skip
                        try simp only [Act.put, List.setIfInBounds_toArray, List.set_cons_zero, List.set_cons_succ]
                        refine take_dstH (i := 31) (d := 97) (v := ?_) rfl rfl (by kernel_rfl) (by kernel_rfl) (by kernel_rfl) (fun _ _ _ h => h) (by rfl) hHeld ?_ ?_
                        rotate_left
                        · intro wZ hSw; clear hSw; go_simp; first | (with_reducible rfl) | (rw [if_pos (by omega)]; with_reducible rfl) | skip
                        try simp only [Act.put, List.setIfInBounds_toArray, List.set_cons_zero, List.set_cons_succ]
                        refine take_dstH (i := 32) (d := 98) (v := ?_) rfl rfl (by kernel_rfl) (by kernel_rfl) (by kernel_rfl) (fun _ _ _ h => h) (by rfl) hHeld ?_ ?_
                        rotate_left
                        · intro wZ hSw; clear hSw; go_simp; first | (with_reducible rfl) | (rw [if_pos (by omega)]; with_reducible rfl) | skip
                        try simp only [Act.put, List.setIfInBounds_toArray, List.set_cons_zero, List.set_cons_succ]
                        refine take_dstH (i := 33) (d := 99) (v := ?_) rfl rfl (by kernel_rfl) (by kernel_rfl) (by kernel_rfl) (fun _ _ _ h => h) (by rfl) hHeld ?_ ?_
                        rotate_left
                        · intro wZ hSw; clear hSw; go_simp; first | (with_reducible rfl) | (rw [if_pos (by omega)]; with_reducible rfl) | skip
                        try simp only [Act.put, List.setIfInBounds_toArray, List.set_cons_zero, List.set_cons_succ]
                        refine take_dstH (i := 34) (d := 100) (v := ?_) rfl rfl (by kernel_rfl) (by kernel_rfl) (by kernel_rfl) (fun _ _ _ h => h) (by rfl) hHeld ?_ ?_
                        rotate_left
                        · intro wZ hSw; clear hSw; go_simp; first | (with_reducible rfl) | (rw [if_pos (by omega)]; with_reducible rfl) | skip
                        try simp only [Act.put, List.setIfInBounds_toArray, List.set_cons_zero, List.set_cons_succ]
                        refine take_dstH (i := 35) (d := 101) (v := ?_) rfl rfl (by kernel_rfl) (by kernel_rfl) (by kernel_rfl) (fun _ _ _ h => h) (by rfl) hHeld ?_ ?_
                        rotate_left
                        · intro wZ hSw; clear hSw; go_simp; first | (with_reducible rfl) | (rw [if_pos (by omega)]; with_reducible rfl) | skip
                        try simp only [Act.put, List.setIfInBounds_toArray, List.set_cons_zero, List.set_cons_succ]
                        refine take_dstH (i := 36) (d := 102) (v := ?_) rfl rfl (by kernel_rfl) (by kernel_rfl) (by kernel_rfl) (fun _ _ _ h => h) (by rfl) hHeld ?_ ?_
                        rotate_left
                        · intro wZ hSw; clear hSw; go_simp; first | (with_reducible rfl) | (rw [if_pos (by omega)]; with_reducible rfl) | skip
                        try simp only [Act.put, List.setIfInBounds_toArray, List.set_cons_zero, List.set_cons_succ]
                        refine take_dstH (i := 37) (d := 103) (v := ?_) rfl rfl (by kernel_rfl) (by kernel_rfl) (by kernel_rfl) (fun _ _ _ h => h) (by rfl) hHeld ?_ ?_
                        rotate_left
                        · intro wZ hSw; have hfS := L3.out wZ hSw; clear hSw; go_simp; first | (with_reducible rfl) | (rw [if_pos (by omega)]; with_reducible rfl) | skip
                        try simp only [Act.put, List.setIfInBounds_toArray, List.set_cons_zero, List.set_cons_succ]
                        refine wpAnyH_ready (rs := [10]) (by kernel_rfl) (by simp) ?_
                        refine (AllReadyH.cons rfl (fun K hK => ?_) AllReadyH.nil)
                        go_simp
                        refine (T2.out _).mono ?_; rintro e wa ⟨rfl, hwa⟩; subst hwa
                        go_wp2_with fail
                        refine hK.out _ _ ?_ (fun hHeld => ?_)
                        · exact hHeld
                        clear hK K
                        try simp only [Act.put, List.setIfInBounds_toArray, List.set_cons_zero, List.set_cons_succ]
                        refine wpAnyH_ready (rs := [19]) (by kernel_rfl) (by simp) ?_
                        refine (AllReadyH.cons rfl (fun K hK => ?_) AllReadyH.nil)
                        go_simp
                        refine (T3.out _).mono ?_; rintro e wa ⟨rfl, hwa⟩; subst hwa
                        go_wp2_with fail
                        refine hK.out _ _ ?_ (fun hHeld => ?_)
                        · exact hHeld
                        clear hK K
                        try simp only [Act.put, List.setIfInBounds_toArray, List.set_cons_zero, List.set_cons_succ]
                        refine take_dstH (i := 20) (d := 86) (v := ?_) rfl rfl (by kernel_rfl) (by kernel_rfl) (by kernel_rfl) (fun _ _ _ h => h) (by rfl) hHeld ?_ ?_
                        rotate_left
                        · intro wZ hSw; clear hSw; go_simp; first | (with_reducible rfl) | (rw [if_pos (by omega)]; with_reducible rfl) | skip
                        try simp only [Act.put, List.setIfInBounds_toArray, List.set_cons_zero, List.set_cons_succ]
                        refine take_dstH (i := 29) (d := 95) (v := ?_) rfl rfl (by kernel_rfl) (by kernel_rfl) (by kernel_rfl) (fun _ _ _ h => h) (by rfl) hHeld ?_ ?_
                        rotate_left
                        · intro wZ hSw; clear hSw; go_simp; first | (with_reducible rfl) | (rw [if_pos (by omega)]; with_reducible rfl) | skip
                        try simp only [Act.put, List.setIfInBounds_toArray, List.set_cons_zero, List.set_cons_succ]
                        refine take_dstH (i := 38) (d := 104) (v := ?_) rfl rfl (by kernel_rfl) (by kernel_rfl) (by kernel_rfl) (fun _ _ _ h => h) (by rfl) hHeld ?_ ?_
                        rotate_left
                        · intro wZ hSw; clear hSw; go_simp; first | (with_reducible rfl) | (rw [if_pos (by omega)]; with_reducible rfl) | skip
                        try simp only [Act.put, List.setIfInBounds_toArray, List.set_cons_zero, List.set_cons_succ]
                        refine take_dstH (i := 39) (d := 105) (v := ?_) rfl rfl (by kernel_rfl) (by kernel_rfl) (by kernel_rfl) (fun _ _ _ h => h) (by rfl) hHeld ?_ ?_
                        rotate_left
                        · intro wZ hSw; clear hSw; go_simp; first | (with_reducible rfl) | (rw [if_pos (by omega)]; with_reducible rfl) | skip
                        try simp only [Act.put, List.setIfInBounds_toArray, List.set_cons_zero, List.set_cons_succ]
                        refine wpAnyH_ready (rs := [40]) (by kernel_rfl) (by simp) ?_
                        refine (AllReadyH.cons rfl (fun K hK => ?_) AllReadyH.nil)
                        go_simp
                        refine hK.out _ _ ?_ (fun hHeld => ?_)
                        · exact hide (Arr.other (Hid.out hHeld) _ _ (show g ≠ w.heap.size + 1 + 1 by omega))
                        clear hK K
                        try simp only [Act.put, List.setIfInBounds_toArray, List.set_cons_zero, List.set_cons_succ]
                        refine wpAnyH_done (by kernel_rfl) ?_ _
                        all_goals
                          clear hHeld i1 i2 i3 i4 i5 i6 i7 i8 j6 j7 j8 i9 i10 i11 w1 w2 w3 w4 w5 w6 w7 w8 w9 w10 w11 n0 n1 n2 n3 e1 e2 e3
                          go_wp2
                          go_roundg (4 - q)
                          case measure => omega
                          case rel =>
                            refine ⟨q + 1, by go_num, by omega, by omega, ?_⟩
                            have h := (HR.out.1.set o0 y3).drew
                            rw [HO.out] at h
                            have e4 : 4 * c + (q + 1) = o0 + 1 := by rw [ho0'.out, Nat.add_assoc]
                            rw [e4]
                            exact ⟨h, Arr.other HR.out.2 _ _ (show g ≠ w.heap.size + 1 + 1 by omega)⟩
                      · have e : q = 4 := by omega
                        subst e
                        go_wp2
                        go_roundg (4 - c)
                        case measure => omega
                        case rel => exact ⟨c + 1, by go_num, by omega, by omega, HR⟩
                  · have e : c = 4 := by omega
                    subst e
                    have XB := hide (HH.out.xb k)
                    have YB := hide (HH.out.yb k)
                    rw [over_full _ _ _ YB.out.len XB.out.len] at HR
                    have HR3 := hide HR.out.1
                    have AA := YB
                    have HTT : Hid (∀ i, i < 16 → (B (k + 1)).getD i 0 = (Y k).getD i 0 ^^^ (f n).getD i 0) := by rw [HK.out]; exact HH.out.b1 k (by rw [← HK.out]; exact hn10)
                    clear HR XB YB
                    go_wp2
                    go_loopg [15] 17 (fun f0 s wx => ∃ (i : Nat), s = .int .i64 i ∧ i ≤ 16 ∧ 16 - i < f0 ∧ Hid (StY w wx L s0 (over (B (k + 1)) (Y k) i)))
                    case atStart =>
                      refine ⟨0, rfl, by omega, by omega, ?_⟩
                      rw [over_zero]
                      exact HR3
                    case round =>
                      clear HR3
                      obtain ⟨i, rfl, hi, hfi, HR⟩ := hrel
                      by_cases hlt : i < 16
                      · have hi16 : (i : Int) < 16 := by omega
                        have e1 := over_at (B (k + 1)) (Y k) 16 i i TT.out.len AA.out.len hlt
                        rw [if_neg (by omega)] at e1
                        have ca := HR.out.atB (i := i) (by rw [over_length _ _ _ _ TT.out.len AA.out.len (by omega)]; omega)
                        rw [e1] at ca
                        have fa := HR.out.b.frozen i
                        have RL := hide (RG.out i hlt)
                        have ex := u8_xor_nat _ _ (AA.out.lt i) (FF.out.lt i)
                        have HN := hide (HTT.out i hlt)
                        have HO := hide (over_set (B (k + 1)) (Y k) 16 i TT.out.len AA.out.len hlt)
                        rw [HN.out] at HO
                        clear e1 HN
                        generalize (Y k).getD i 0 = x at *
                        generalize (f n).getD i 0 = y at *
                        generalize x ^^^ y = z at *
                        go_wp2_with fail
                        refine wp_region_held_drew (S := fun v => Hid (Arr v w.heap.size 54 (u8s L))) (by kernel_rfl) (hide HR.out.r) (fun hHeld => ?_)
                        refine take_dstH (i := 0) (d := 110) (v := ?_) rfl rfl (by kernel_rfl) (by kernel_rfl) (by kernel_rfl) (fun _ _ _ h => h) (by rfl) hHeld ?_ ?_
                        rotate_left
                        · intro wZ hSw; clear hSw; go_simp; first | (with_reducible rfl) | (rw [if_pos (by omega)]; with_reducible rfl) | skip
                        try simp only [Act.put, List.setIfInBounds_toArray, List.set_cons_zero, List.set_cons_succ]
                        refine take_dstH (i := 1) (d := 111) (v := ?_) rfl rfl (by kernel_rfl) (by kernel_rfl) (by kernel_rfl) (fun _ _ _ h => h) (by rfl) hHeld ?_ ?_
                        rotate_left
                        · intro wZ hSw; clear hSw; go_simp; first | (with_reducible rfl) | (rw [if_pos (by omega)]; with_reducible rfl) | skip
                        try simp only [Act.put, List.setIfInBounds_toArray, List.set_cons_zero, List.set_cons_succ]
                        refine take_dstH (i := 2) (d := 112) (v := ?_) rfl rfl (by kernel_rfl) (by kernel_rfl) (by kernel_rfl) (fun _ _ _ h => h) (by rfl) hHeld ?_ ?_
                        rotate_left
                        · intro wZ hSw; clear hSw; go_simp; first | (with_reducible rfl) | (rw [if_pos (by omega)]; with_reducible rfl) | skip
                        try simp only [Act.put, List.setIfInBounds_toArray, List.set_cons_zero, List.set_cons_succ]
                        refine take_dstH (i := 4) (d := 114) (v := ?_) rfl rfl (by kernel_rfl) (by kernel_rfl) (by kernel_rfl) (fun _ _ _ h => h) (by rfl) hHeld ?_ ?_
                        rotate_left
                        · intro wZ hSw; clear hSw; go_simp; first | (with_reducible rfl) | (rw [if_pos (by omega)]; with_reducible rfl) | skip
                        try simp only [Act.put, List.setIfInBounds_toArray, List.set_cons_zero, List.set_cons_succ]
                        refine take_dstH (i := 5) (d := 115) (v := ?_) rfl rfl (by kernel_rfl) (by kernel_rfl) (by kernel_rfl) (fun _ _ _ h => h) (by rfl) hHeld ?_ ?_
                        rotate_left
                        · intro wZ hSw; clear hSw; go_simp; first | (with_reducible rfl) | (rw [if_pos (by omega)]; with_reducible rfl) | skip
                        try simp only [Act.put, List.setIfInBounds_toArray, List.set_cons_zero, List.set_cons_succ]
                        refine take_dstH (i := 6) (d := 116) (v := ?_) rfl rfl (by kernel_rfl) (by kernel_rfl) (by kernel_rfl) (fun _ _ _ h => h) (by rfl) hHeld ?_ ?_
                        rotate_left
                        · intro wZ hSw; clear hSw; go_simp; first | (with_reducible rfl) | (rw [if_pos (by omega)]; with_reducible rfl) | skip
                        try simp only [Act.put, List.setIfInBounds_toArray, List.set_cons_zero, List.set_cons_succ]
                        refine take_dstH (i := 7) (d := 117) (v := ?_) rfl rfl (by kernel_rfl) (by kernel_rfl) (by kernel_rfl) (fun _ _ _ h => h) (by rfl) hHeld ?_ ?_
                        rotate_left
                        · intro wZ hSw; clear hSw; go_simp; first | (with_reducible rfl) | (rw [if_pos (by omega)]; with_reducible rfl) | skip
                        try simp only [Act.put, List.setIfInBounds_toArray, List.set_cons_zero, List.set_cons_succ]
                        refine take_dstH (i := 8) (d := 118) (v := ?_) rfl rfl (by kernel_rfl) (by kernel_rfl) (by kernel_rfl) (fun _ _ _ h => h) (by rfl) hHeld ?_ ?_
                        rotate_left
                        · intro wZ hSw; have hfS := RL.out wZ hSw; clear hSw; go_simp; first | (with_reducible rfl) | (rw [if_pos (by omega)]; with_reducible rfl) | skip
                        try simp only [Act.put, List.setIfInBounds_toArray, List.set_cons_zero, List.set_cons_succ]
                        refine wpAnyH_ready (rs := [3]) (by kernel_rfl) (by simp) ?_
                        refine (AllReadyH.cons rfl (fun K hK => ?_) AllReadyH.nil)
                        go_simp
                        refine hK.out _ _ ?_ (fun hHeld => ?_)
                        · exact hHeld
                        clear hK K
                        try simp only [Act.put, List.setIfInBounds_toArray, List.set_cons_zero, List.set_cons_succ]
                        refine take_dstH (i := 9) (d := 119) (v := ?_) rfl rfl (by kernel_rfl) (by kernel_rfl) (by kernel_rfl) (fun _ _ _ h => h) (by rfl) hHeld ?_ ?_
                        rotate_left
                        · intro wZ hSw; clear hSw; go_simp; first | (with_reducible rfl) | (rw [if_pos (by omega)]; with_reducible rfl) | skip
                        try simp only [Act.put, List.setIfInBounds_toArray, List.set_cons_zero, List.set_cons_succ]
                        refine take_dstH (i := 10) (d := 120) (v := ?_) rfl rfl (by kernel_rfl) (by kernel_rfl) (by kernel_rfl) (fun _ _ _ h => h) (by rfl) hHeld ?_ ?_
                        rotate_left
                        · intro wZ hSw; clear hSw; go_simp; first | (with_reducible rfl) | (rw [if_pos (by omega)]; with_reducible rfl) | skip
                        try simp only [Act.put, List.setIfInBounds_toArray, List.set_cons_zero, List.set_cons_succ]
                        refine wpAnyH_ready (rs := [11]) (by kernel_rfl) (by simp) ?_
                        refine (AllReadyH.cons rfl (fun K hK => ?_) AllReadyH.nil)
                        go_simp
                        refine hK.out _ _ ?_ (fun hHeld => ?_)
                        · exact hide (Arr.other (Hid.out hHeld) _ _ (show w.heap.size ≠ w.heap.size + 1 + 1 by omega))
                        clear hK K
                        try simp only [Act.put, List.setIfInBounds_toArray, List.set_cons_zero, List.set_cons_succ]
                        refine wpAnyH_done (by kernel_rfl) ?_ _
                        clear hHeld
                        go_wp2
                        go_roundg (16 - i)
                        case measure => omega
                        case rel =>
                          refine ⟨i + 1, by go_num, by omega, by omega, ?_⟩
                          have := (HR.out.set i z).drew
                          rw [HO.out] at this
                          exact this
                      · have e : i = 16 := by omega
                        subst e
                        rw [over_full _ _ _ TT.out.len AA.out.len] at HR
                        clear TT AA FF RG HTT
                        go_wp2
                        go_roundg (11 - n)
                        case measure => omega
                        case rel => exact ⟨k + 1, n + 1, by go_num, (by show _ = _; rw [HK.out]), by omega, by omega, HR⟩
              · have n10 : ¬ (n : Int) < 10 := by omega
                have AA := XB
                have HTT : Hid (∀ i, i < 16 → (B (k + 1)).getD i 0 = (X k).getD i 0 ^^^ (f n).getD i 0) := by rw [HK.out]; exact HH.out.b2 k (by rw [← HK.out]; exact hn10)
                go_upto_if 57 with (first
                  | (refine wpList_load_row rfl 22 _ rfl g rfl 22 _ (0, 0) _ HR.out.2 Try.underlying22 rfl (szb XB.out) ?_)
                  | (refine wpList_store_row rfl 22 _ _ rfl (w.heap.size + 1 + 1) _ rfl rfl 22 _ HR.out.1.b (szb XB.out) (szz BB.out XB.out) (one_u8s _) ?_))
                clear HR XB BB
                generalize World.setRow _ (w.heap.size + 1 + 1) (u8s (X k)).toArray = wp at *
                replace HR3 := hide HR3.out.1
                go_wp2
                go_loopg [15] 17 (fun f0 s wx => ∃ (i : Nat), s = .int .i64 i ∧ i ≤ 16 ∧ 16 - i < f0 ∧ Hid (StY w wx L s0 (over (B (k + 1)) (X k) i)))
                case atStart =>
                  refine ⟨0, rfl, by omega, by omega, ?_⟩
                  rw [over_zero]
                  exact HR3
                case round =>
                  clear HR3
                  obtain ⟨i, rfl, hi, hfi, HR⟩ := hrel
                  by_cases hlt : i < 16
                  · have hi16 : (i : Int) < 16 := by omega
                    have e1 := over_at (B (k + 1)) (X k) 16 i i TT.out.len AA.out.len hlt
                    rw [if_neg (by omega)] at e1
                    have ca := HR.out.atB (i := i) (by rw [over_length _ _ _ _ TT.out.len AA.out.len (by omega)]; omega)
                    rw [e1] at ca
                    have fa := HR.out.b.frozen i
                    have RL := hide (RG.out i hlt)
                    have ex := u8_xor_nat _ _ (AA.out.lt i) (FF.out.lt i)
                    have HN := hide (HTT.out i hlt)
                    have HO := hide (over_set (B (k + 1)) (X k) 16 i TT.out.len AA.out.len hlt)
                    rw [HN.out] at HO
                    clear e1 HN
                    generalize (X k).getD i 0 = x at *
                    generalize (f n).getD i 0 = y at *
                    generalize x ^^^ y = z at *
                    go_wp2_with fail
                    refine wp_region_held_drew (S := fun v => Hid (Arr v w.heap.size 54 (u8s L))) (by kernel_rfl) (hide HR.out.r) (fun hHeld => ?_)
                    refine take_dstH (i := 0) (d := 110) (v := ?_) rfl rfl (by kernel_rfl) (by kernel_rfl) (by kernel_rfl) (fun _ _ _ h => h) (by rfl) hHeld ?_ ?_
                    rotate_left
                    · intro wZ hSw; clear hSw; go_simp; first | (with_reducible rfl) | (rw [if_pos (by omega)]; with_reducible rfl) | skip
                    try simp only [Act.put, List.setIfInBounds_toArray, List.set_cons_zero, List.set_cons_succ]
                    refine take_dstH (i := 1) (d := 111) (v := ?_) rfl rfl (by kernel_rfl) (by kernel_rfl) (by kernel_rfl) (fun _ _ _ h => h) (by rfl) hHeld ?_ ?_
                    rotate_left
                    · intro wZ hSw; clear hSw; go_simp; first | (with_reducible rfl) | (rw [if_pos (by omega)]; with_reducible rfl) | skip
                    try simp only [Act.put, List.setIfInBounds_toArray, List.set_cons_zero, List.set_cons_succ]
                    refine take_dstH (i := 2) (d := 112) (v := ?_) rfl rfl (by kernel_rfl) (by kernel_rfl) (by kernel_rfl) (fun _ _ _ h => h) (by rfl) hHeld ?_ ?_
                    rotate_left
                    · intro wZ hSw; clear hSw; go_simp; first | (with_reducible rfl) | (rw [if_pos (by omega)]; with_reducible rfl) | skip
                    try simp only [Act.put, List.setIfInBounds_toArray, List.set_cons_zero, List.set_cons_succ]
                    refine take_dstH (i := 4) (d := 114) (v := ?_) rfl rfl (by kernel_rfl) (by kernel_rfl) (by kernel_rfl) (fun _ _ _ h => h) (by rfl) hHeld ?_ ?_
                    rotate_left
                    · intro wZ hSw; clear hSw; go_simp; first | (with_reducible rfl) | (rw [if_pos (by omega)]; with_reducible rfl) | skip
                    try simp only [Act.put, List.setIfInBounds_toArray, List.set_cons_zero, List.set_cons_succ]
                    refine take_dstH (i := 5) (d := 115) (v := ?_) rfl rfl (by kernel_rfl) (by kernel_rfl) (by kernel_rfl) (fun _ _ _ h => h) (by rfl) hHeld ?_ ?_
                    rotate_left
                    · intro wZ hSw; clear hSw; go_simp; first | (with_reducible rfl) | (rw [if_pos (by omega)]; with_reducible rfl) | skip
                    try simp only [Act.put, List.setIfInBounds_toArray, List.set_cons_zero, List.set_cons_succ]
                    refine take_dstH (i := 6) (d := 116) (v := ?_) rfl rfl (by kernel_rfl) (by kernel_rfl) (by kernel_rfl) (fun _ _ _ h => h) (by rfl) hHeld ?_ ?_
                    rotate_left
                    · intro wZ hSw; clear hSw; go_simp; first | (with_reducible rfl) | (rw [if_pos (by omega)]; with_reducible rfl) | skip
                    try simp only [Act.put, List.setIfInBounds_toArray, List.set_cons_zero, List.set_cons_succ]
                    refine take_dstH (i := 7) (d := 117) (v := ?_) rfl rfl (by kernel_rfl) (by kernel_rfl) (by kernel_rfl) (fun _ _ _ h => h) (by rfl) hHeld ?_ ?_
                    rotate_left
                    · intro wZ hSw; clear hSw; go_simp; first | (with_reducible rfl) | (rw [if_pos (by omega)]; with_reducible rfl) | skip
                    try simp only [Act.put, List.setIfInBounds_toArray, List.set_cons_zero, List.set_cons_succ]
                    refine take_dstH (i := 8) (d := 118) (v := ?_) rfl rfl (by kernel_rfl) (by kernel_rfl) (by kernel_rfl) (fun _ _ _ h => h) (by rfl) hHeld ?_ ?_
                    rotate_left
                    · intro wZ hSw; have hfS := RL.out wZ hSw; clear hSw; go_simp; first | (with_reducible rfl) | (rw [if_pos (by omega)]; with_reducible rfl) | skip
                    try simp only [Act.put, List.setIfInBounds_toArray, List.set_cons_zero, List.set_cons_succ]
                    refine wpAnyH_ready (rs := [3]) (by kernel_rfl) (by simp) ?_
                    refine (AllReadyH.cons rfl (fun K hK => ?_) AllReadyH.nil)
                    go_simp
                    refine hK.out _ _ ?_ (fun hHeld => ?_)
                    · exact hHeld
                    clear hK K
                    try simp only [Act.put, List.setIfInBounds_toArray, List.set_cons_zero, List.set_cons_succ]
                    refine take_dstH (i := 9) (d := 119) (v := ?_) rfl rfl (by kernel_rfl) (by kernel_rfl) (by kernel_rfl) (fun _ _ _ h => h) (by rfl) hHeld ?_ ?_
                    rotate_left
                    · intro wZ hSw; clear hSw; go_simp; first | (with_reducible rfl) | (rw [if_pos (by omega)]; with_reducible rfl) | skip
                    try simp only [Act.put, List.setIfInBounds_toArray, List.set_cons_zero, List.set_cons_succ]
                    refine take_dstH (i := 10) (d := 120) (v := ?_) rfl rfl (by kernel_rfl) (by kernel_rfl) (by kernel_rfl) (fun _ _ _ h => h) (by rfl) hHeld ?_ ?_
                    rotate_left
                    · intro wZ hSw; clear hSw; go_simp; first | (with_reducible rfl) | (rw [if_pos (by omega)]; with_reducible rfl) | skip
                    try simp only [Act.put, List.setIfInBounds_toArray, List.set_cons_zero, List.set_cons_succ]
                    refine wpAnyH_ready (rs := [11]) (by kernel_rfl) (by simp) ?_
                    refine (AllReadyH.cons rfl (fun K hK => ?_) AllReadyH.nil)
                    go_simp
                    refine hK.out _ _ ?_ (fun hHeld => ?_)
                    · exact hide (Arr.other (Hid.out hHeld) _ _ (show w.heap.size ≠ w.heap.size + 1 + 1 by omega))
                    clear hK K
                    try simp only [Act.put, List.setIfInBounds_toArray, List.set_cons_zero, List.set_cons_succ]
                    refine wpAnyH_done (by kernel_rfl) ?_ _
                    clear hHeld
                    go_wp2
                    go_roundg (16 - i)
                    case measure => omega
                    case rel =>
                      refine ⟨i + 1, by go_num, by omega, by omega, ?_⟩
                      have := (HR.out.set i z).drew
                      rw [HO.out] at this
                      exact this
                  · have e : i = 16 := by omega
                    subst e
                    rw [over_full _ _ _ TT.out.len AA.out.len] at HR
                    clear TT AA FF RG HTT
                    go_wp2
                    go_roundg (11 - n)
                    case measure => omega
                    case rel => exact ⟨k + 1, n + 1, by go_num, (by show _ = _; rw [HK.out]), by omega, by omega, HR⟩
        · have e : n = 11 := by omega
          subst e
          have e : k = 10 := by have := HK.out; omega
          subst e
          have BT := hide (HH.out.bb 10)
          have K0 := hide HR.out.b
          have K2 := hide HR.out.o
          have KB := hide HR.out.bl
          clear HR
          go_wp2_with (first
            | (refine wpList_load_row rfl 22 _ rfl (w.heap.size + 1 + 1) rfl 22 _ (0, 0) _ K0.out Try.underlying22 rfl (szb BT.out) ?_)
            | (refine wpList_store_row rfl 22 _ _ rfl (w.heap.size + 1 + 1 + 1) _ rfl rfl 22 _ K2.out (szb BT.out) (szz ZZ.out BT.out) (one_u8s _) ?_))
          exact bodyPost_ret (v := .agg (u8s (B 10)).toArray) (results_cell_row Try.results32 _ _ (w.heap.size + 1 + 1 + 1) 22 _ (0, 0) _ rfl (K2.out.row _) Try.underlying22 rfl (szb BT.out)) rfl ⟨rfl, below_setRow KB.out (by omega) K2.out.lt _⟩

end Go.Proofs.Ytflakgigekfgcaa
