/-
  Walks: a byte more.
-/
import Derived.Test.YtijjifdgmffenaaDoorUE
namespace Go.Proofs.YtijjifdgmffenaaDoor
open Go.RowKit

theorem openF_cases (l : Nat) (h : l ≤ 3) : l = 0 ∧ openF l = 1 ∨ l = 1 ∧ openF l = 64 ∨ l = 2 ∧ openF l = 4096 ∨ l = 3 ∧ openF l = 262144 := by
  match l, h with
  | 0, _ => exact Or.inl ⟨rfl, rfl⟩
  | 1, _ => exact Or.inr (Or.inl ⟨rfl, rfl⟩)
  | 2, _ => exact Or.inr (Or.inr (Or.inl ⟨rfl, rfl⟩))
  | 3, _ => exact Or.inr (Or.inr (Or.inr ⟨rfl, rfl⟩))
theorem Dc.ok_v {d : Dc} (h : d.ok) (h0 : d.h ≠ 0) : d.l ≤ 3 ∧ d.v * openF d.l ≤ 1114111 := by
  rcases h with rfl | ⟨h1, h2, h3, h4⟩
  · exact absurd rfl h0
  · unfold Dc.begins at h4
    simp only [decide_eq_true_eq] at h4
    have := topF_le (d.h + d.l)
    omega
theorem Dc.ok_h (d : Dc) (h : d.ok) : d.h ≤ 3 ∧ d.l ≤ 3 ∧ d.v ≤ 1114111 := by
  rcases h with rfl | ⟨h1, h2, h3, h4⟩
  · exact ⟨Nat.zero_le _, Nat.zero_le _, Nat.zero_le _⟩
  · have hv := Dc.ok_v (d := d) (Or.inr ⟨h1, h2, h3, h4⟩) (by omega)
    have hq := openF_cases d.l hv.1
    refine ⟨by omega, hv.1, ?_⟩
    have h5 : 1 ≤ openF d.l := by omega
    have h6 := Nat.le_mul_of_pos_right d.v h5
    omega
theorem next_small {d : Dc} (h : d.ok) {b : Nat} (hb : b < 256) : 1 ≤ (d.next b).h ∧ (d.next b).h + (d.next b).l ≤ 4 ∧ (d.next b).v * openF (d.next b).l + openF (d.next b).l ≤ 4194304 ∧ (d.next b).v < 134217728 := by
  unfold Dc.next
  by_cases h0 : d.h = 0
  · rw [if_pos h0]
    have hs := begunF_size b
    refine ⟨by omega, by omega, ?_⟩
    unfold begunF
    split
    · show b * 1 + 1 ≤ 4194304 ∧ b < _; omega
    · split
      · show b % 64 * 64 + 64 ≤ 4194304 ∧ b % 64 < _; omega
      · split
        · show b % 32 * 4096 + 4096 ≤ 4194304 ∧ b % 32 < _; omega
        · show b % 16 * 262144 + 262144 ≤ 4194304 ∧ b % 16 < _; omega
  · rw [if_neg h0]
    have hv := Dc.ok_v h h0
    rcases h with rfl | ⟨h1, h2, h3, _⟩
    · exact absurd rfl h0
    · have hq := openF_cases d.l hv.1
      refine ⟨by show 1 ≤ d.h + 1; omega, by show d.h + 1 + (d.l - 1) ≤ 4; omega, ?_⟩
      show (d.v * 64 + b % 64) * openF (d.l - 1) + openF (d.l - 1) ≤ 4194304 ∧ d.v * 64 + b % 64 < 134217728
      have hr : b % 64 < 64 := Nat.mod_lt _ (by omega)
      rcases hq with ⟨e, _⟩ | ⟨e, e2⟩ | ⟨e, e2⟩ | ⟨e, e2⟩
      · omega
      · rw [e2] at hv
        rw [e]
        show (d.v * 64 + b % 64) * 1 + 1 ≤ 4194304 ∧ _
        omega
      · rw [e2] at hv
        rw [e]
        show (d.v * 64 + b % 64) * 64 + 64 ≤ 4194304 ∧ _
        omega
      · rw [e2] at hv
        rw [e]
        show (d.v * 64 + b % 64) * 4096 + 4096 ≤ 4194304 ∧ _
        omega

theorem grown_rowU (w : World) (X : Nat) (us : Array Value) : w.grownBy (w.setRow X us) (some X) :=
  ⟨rfl, rfl, rfl, by simp, fun k _ hk => setRow_other w X k us (fun e => hk (by rw [e]))⟩

/-- what lies in memory while a byte is looked at -/
structure BhS (w v : World) (X : Nat) (d N : Dc) : Prop where
  b : Arr v w.heap.size 41 (dcC d)
  r : ∃ z : Dc, Arr v (w.heap.size + 1) 41 (dcC z)
  n : Arr v X 41 (dcC N)
  l : LaidU v
  lo : Below w.heap.size w v
  ne : w.heap.size + 1 < X
theorem BhS.kept {w v v' : World} {X : Nat} {d N : Dc} (h : BhS w v X d N) (hb : Below v.heap.size v v') : BhS w v' X d N :=
  ⟨h.b.kept hb, h.r.elim fun z hz => ⟨z, hz.kept hb⟩, h.n.kept hb, h.l.kept hb, h.lo.trans (hb.mono h.lo.size), h.ne⟩
theorem BhS.store {w v : World} {X : Nat} {d N : Dc} (h : BhS w v X d N) (M : Dc) : BhS w (v.setRow (w.heap.size + 1) (dcC M).toArray) X d N ∧ Arr (v.setRow (w.heap.size + 1) (dcC M).toArray) (w.heap.size + 1) 41 (dcC M) := by
  obtain ⟨z, hz⟩ := h.r
  have hb := below_setRow h.lo (Nat.le_succ _) hz.lt (dcC M).toArray
  exact ⟨⟨h.b.rowOther _ _ (by omega), ⟨M, hz.row _⟩, h.n.rowOther _ _ (by have := h.ne; omega), (h.l.grown (grown_rowU v (w.heap.size + 1) _) (by omega)), hb, h.ne⟩, hz.row _⟩
theorem BhS.next {w v : World} {X : Nat} {d N : Dc} (h : BhS w v X d N) (M : Dc) : BhS w (v.setRow X (dcC M).toArray) X d M := by
  have hb := below_setRow h.lo (by have := h.ne; omega) h.n.lt (dcC M).toArray
  obtain ⟨z, hz⟩ := h.r
  exact ⟨h.b.rowOther _ _ (by have := h.ne; omega), ⟨z, hz.rowOther _ _ (by have := h.ne; omega)⟩, h.n.row _, (h.l.grown (grown_rowU v X _) (by have := h.ne; omega)), hb, h.ne⟩

set_option maxHeartbeats 8000000 in
set_option maxRecDepth 100000 in
theorem behind_any (d : Dc) (b : Nat) (w : World) (hd : d.ok) (hb : b < 256) (hL : LaidU w) : Calls Tryd.prog 30 #[dcV d, .int .u8 (b : Int)] w fun e w' => e = .returned (.tuple #[dcV (d.next b), .bool (d.may b)]) ∧ Below w.heap.size w w' := by
  obtain ⟨n1, n2, n3, _⟩ := next_small hd hb
  have HBE : Hid (∀ v : World, LaidU v → Calls Tryd.prog 33 #[dcV (d.next b)] v fun e w' => e = .returned (.bool (d.next b).begins) ∧ Below v.heap.size v w') := fun v hl => begins_any _ v hl n1 n2 n3
  have HIP : Hid (∀ v : World, Calls Tryd.prog 32 #[.int .u8 (b : Int)] v fun e w' => e = .returned (.bool (isPartF b)) ∧ w' = v) := fun v => isPart_any b v hb
  have HBG : Hid (∀ v : World, Calls Tryd.prog 31 #[.int .u8 (b : Int)] v fun e w' => e = .returned (dcV (begunF b)) ∧ Below v.heap.size v w') := fun v => begun_any b v hb
  have A1 := hide (boxes w (dcC d) dcZ 41 41)
  have HL := hide hL
  have HD := hide (d.ok_h hd)
  have HLP : Hid (d.h ≠ 0 → 1 ≤ d.l) := fun h0 => by rcases hd with rfl | ⟨_, h, _⟩; exact absurd rfl h0; exact h
  have HBB := hide hb
  obtain ⟨N, hN⟩ : ∃ N, d.next b = N := ⟨_, rfl⟩
  obtain ⟨z, hz⟩ : ∃ z, decide (0 < d.h) = z := ⟨_, rfl⟩
  have hmay : d.may b = ((isPartF b == z) && N.begins) := by rw [← hz, ← hN]; rfl
  rw [hN, hmay]
  rw [hN] at HBE
  obtain ⟨q, hq⟩ : ∃ q, isPartF b = q := ⟨_, rfl⟩
  obtain ⟨bg, hbg⟩ : ∃ bg, N.begins = bg := ⟨_, rfl⟩
  rw [hq, hbg]
  rw [hq] at HIP
  rw [hbg] at HBE
  have HNN := hide hN
  have HZ := hide hz
  clear n1 n2 n3 hL hd hb hN hmay hz hq hbg
  go_enter Tryd.func30, Tryd.ntmps30
  go_upto_region 1 with fail
  generalize (w.alloc (Obj.cells #[Value.int .i64 (d.h : Int), Value.int .i64 (d.l : Int), Value.int .i32 (d.v : Int)] 41)).alloc (Obj.cells #[Value.int .i64 0, Value.int .i64 0, Value.int .i32 0] 41) = w1 at *
  go_wp2_with fail
  refine (HBG.out w1).mono ?_
  rintro r w2 ⟨rfl, hb⟩
  have A2 := hide (And.intro (A1.out.1.kept hb) (And.intro (A1.out.2.1.kept hb) (And.intro (A1.out.2.2.trans (hb.mono A1.out.2.2.size)) hb.size)))
  have HS1 := hide A1.out.2.1.lt
  clear hb A1 HBG
  go_upto_region 2 with fail
  have HS0 : Hid (BhS w (w2.alloc (Obj.cells (dcC (begunF b)).toArray 41)) w2.heap.size d (begunF b)) :=
    ⟨A2.out.1.alloc _, ⟨Dc.no, A2.out.2.1.alloc _⟩, Arr.new _ _ _, (HL.out.keptB HL.out.size A2.out.2.2.1).kept ((Below.refl _ _).alloc (Nat.le_refl _) _), A2.out.2.2.1.alloc A2.out.2.2.1.size _, Nat.lt_of_lt_of_le HS1.out A2.out.2.2.2⟩
  clear A2 HS1 HL
  simp only [dcC] at HS0
  generalize w2.alloc (Obj.cells #[Value.int .i64 ((begunF b).h : Int), Value.int .i64 ((begunF b).l : Int), Value.int .i32 ((begunF b).v : Int)] 41) = w3 at *
  generalize w2.heap.size = X at *
  have x0 : w3.cell? ⟨w.heap.size, 0, none⟩ = some (.int .i64 (d.h : Int)) := HS0.out.b.cell 0
  have x1 : w3.cell? ⟨w.heap.size, 1, none⟩ = some (.int .i64 (d.l : Int)) := HS0.out.b.cell 1
  have x2 : w3.cell? ⟨w.heap.size, 2, none⟩ = some (.int .i32 (d.v : Int)) := HS0.out.b.cell 2
  go_upto_if 11 with fail
  rw [HZ.out]
  go_cut [6] (fun s6 wx => s6 = .pointer (some ⟨X, 0, none⟩) ∧ Hid (BhS w wx X d N))
  case first => as_aux_lemma =>
    clear HBE HIP
    cases z
    · have h0 : d.h = 0 := by have := of_decide_eq_false HZ.out; omega
      have e : d.next b = begunF b := by unfold Dc.next; rw [if_pos h0]
      have HSR : Hid (BhS w w3 X d N) := by rw [← HNN.out, e]; exact HS0.out
      clear h0 e HS0
      go_wp2_with fail
      go_meet
      case rel => exact ⟨rfl, HSR⟩
    · have h0 : d.h ≠ 0 := by have := of_decide_eq_true HZ.out; omega
      obtain ⟨n1, n2, n3⟩ := HD.out
      obtain ⟨H1, hH1⟩ : ∃ H1, H1 = d.h + 1 := ⟨_, rfl⟩
      obtain ⟨L1, hL1⟩ : ∃ L1, L1 = d.l - 1 := ⟨_, rfl⟩
      obtain ⟨V1, hV1⟩ : ∃ V1, V1 = d.v * 64 := ⟨_, rfl⟩
      obtain ⟨R, hR⟩ : ∃ R, R = b % 64 := ⟨_, rfl⟩
      obtain ⟨V2, hV2⟩ : ∃ V2, V2 = V1 + R := ⟨_, rfl⟩
      have hRl : R < 64 := by rw [hR]; exact Nat.mod_lt _ (by omega)
      have hl0 : 1 ≤ d.l := HLP.out h0
      have q1 : V1 < 2147483648 := by rw [hV1]; omega
      have q2 : R < 2147483648 := Nat.lt_trans hRl (by decide)
      have e1 : wrap64 ((d.h : Int) + 1) = (H1 : Int) := by unfold wrap64; omega
      have e2 : wrap64 ((d.l : Int) - 1) = (L1 : Int) := by unfold wrap64; omega
      have e3 : wrap32 ((d.v : Int) * 64) = (V1 : Int) := by unfold wrap32; omega
      have e3' : IntKind.i32.wrap ((d.v : Int) * 64) = (V1 : Int) := by rw [wrap_i32 _ (by omega) (by omega)]; omega
      have e4 : bits .and .u8 (b : Int) 63 = (R : Int) := by
        have h1 := u8_and_nat b 63 HBB.out (by omega)
        rw [show (63 : Int) = ((63 : Nat) : Int) from rfl, h1, nat_mask6, hR]
      have e5 : wrap32 (R : Int) = (R : Int) := by unfold wrap32; omega
      have e6 : bits .or .i32 (V1 : Int) (R : Int) = (V2 : Int) := by
        rw [i32_or V1 R q1 q2, nat_join 6 V1 R (by rw [hV1]; exact Nat.mul_mod_left _ _) hRl, hV2]
      have HN : Hid (N = ⟨H1, L1, V2⟩) := by show _ = _; rw [← HNN.out]; unfold Dc.next; rw [if_neg h0, hH1, hL1, hV2, hV1, hR]
      clear q1 q2 n1 n2 n3 hH1 hL1 hV1 hR hV2 hRl h0 hl0
      go_upto_region 3 with fail
      go_wp2_with (refine wpList_store_row rfl 41 _ _ rfl X (dcC ⟨H1, L1, V2⟩).toArray rfl rfl 41 (dcC (begunF b)).toArray HS0.out.n infoDc rfl (one_dcC _) ?_)
      go_meet
      case rel => exact ⟨rfl, by rw [HN.out]; exact HS0.out.next _⟩
  case rest =>
    obtain ⟨rfl, HSC⟩ := hcut
    clear HS0 x0 x1 x2 HD HBB HLP
    have HS1 : Hid (BhS w wc.drew X d N) := HSC.out.kept (Below.refl _ _).drew
    have KN : Hid (∀ v, Hid (BhS w v X d N) → Arr v X 41 (dcC N)) := fun v h => h.out.n
    have K0 : Hid (∀ v, Hid (BhS w v X d N) → v.cell? ⟨w.heap.size, 0, none⟩ = some (.int .i64 (d.h : Int))) := fun v h => h.out.b.cell 0
    have hz := HZ.out
    have hz2 : decide ((0 : Int) < (d.h : Int)) = z := by rw [← hz]; exact decide_eq_decide.2 (by omega)
    clear HZ HNN
    go_upto_region 4 with fail
    clear HSC
    cases q
    · cases z
      · skip
        refine wp_region_held_drew (S := fun v => Hid (BhS w v X d N)) (by kernel_rfl) (HS1) (fun hHeld => ?_)
        refine take_dstH (i := 0) (d := 26) (v := ?_) rfl rfl (by kernel_rfl) (by kernel_rfl) (by kernel_rfl) (fun _ _ _ h => h) (by rfl) hHeld ?_ ?_
        rotate_left
        · intro wZ hSw; refine exec_load_all 41 (.tmp 6) ?_ X ?_ 41 (dcC N) _ (KN.out wZ hSw) Tryd.underlying41 rfl infoDc <;> rfl
        try simp only [Act.put, List.setIfInBounds_toArray, List.set_cons_zero, List.set_cons_succ]
        refine take_dstH (i := 1) (d := 27) (v := ?_) rfl rfl (by kernel_rfl) (by kernel_rfl) (by kernel_rfl) (fun _ _ _ h => h) (by rfl) hHeld ?_ ?_
        rotate_left
        · intro wZ hSw; clear hSw; go_simp; first | (with_reducible rfl) | (rw [if_pos (by omega)]; with_reducible rfl) | skip
        try simp only [Act.put, List.setIfInBounds_toArray, List.set_cons_zero, List.set_cons_succ]
        refine take_dstH (i := 3) (d := 29) (v := ?_) rfl rfl (by kernel_rfl) (by kernel_rfl) (by kernel_rfl) (fun _ _ _ h => h) (by rfl) hHeld ?_ ?_
        rotate_left
        · intro wZ hSw; clear hSw; go_simp; first | (with_reducible rfl) | (rw [if_pos (by omega)]; with_reducible rfl) | skip
        try simp only [Act.put, List.setIfInBounds_toArray, List.set_cons_zero, List.set_cons_succ]
        refine take_dstH (i := 4) (d := 30) (v := ?_) rfl rfl (by kernel_rfl) (by kernel_rfl) (by kernel_rfl) (fun _ _ _ h => h) (by rfl) hHeld ?_ ?_
        rotate_left
        · intro wZ hSw; have hfS := K0.out wZ hSw; clear hSw; go_simp; first | (with_reducible rfl) | (rw [if_pos (by omega)]; with_reducible rfl) | skip
        try simp only [Act.put, List.setIfInBounds_toArray, List.set_cons_zero, List.set_cons_succ]
        refine take_dstH (i := 5) (d := 31) (v := ?_) rfl rfl (by kernel_rfl) (by kernel_rfl) (by kernel_rfl) (fun _ _ _ h => h) (by rfl) hHeld ?_ ?_
        rotate_left
        · intro wZ hSw; clear hSw; go_simp; first | (with_reducible rfl) | (rw [if_pos (by omega)]; with_reducible rfl) | skip
        try simp only [Act.put, List.setIfInBounds_toArray, List.set_cons_zero, List.set_cons_succ]
        refine wpAnyH_ready (rs := [2]) (by kernel_rfl) (by simp) ?_
        refine (AllReadyH.cons rfl (fun K hK => ?_) AllReadyH.nil)
        go_simp
        refine Calls.mono (HIP.out _) ?_; rintro e wa ⟨rfl, rfl⟩
        go_wp2_with fail
        refine hK.out _ _ ?_ (fun hHeld => ?_)
        · exact hHeld
        clear hK K
        try simp only [Act.put, List.setIfInBounds_toArray, List.set_cons_zero, List.set_cons_succ]
        refine take_dstH (i := 6) (d := 32) (v := ?_) rfl rfl (by kernel_rfl) (by kernel_rfl) (by kernel_rfl) (fun _ _ _ h => h) (by rfl) hHeld ?_ ?_
        rotate_left
        · intro wZ hSw; clear hSw; go_simp; first | (with_reducible rfl) | (rw [if_pos (by omega)]; with_reducible rfl) | skip
        try simp only [Act.put, List.setIfInBounds_toArray, List.set_cons_zero, List.set_cons_succ]
        refine take_dstH (i := 7) (d := 33) (v := ?_) rfl rfl (by kernel_rfl) (by kernel_rfl) (by kernel_rfl) (fun _ _ _ h => h) (by rfl) hHeld ?_ ?_
        rotate_left
        · intro wZ hSw; clear hSw; go_simp; first | (with_reducible rfl) | (rw [if_pos (by omega)]; with_reducible rfl) | skip
        try simp only [Act.put, List.setIfInBounds_toArray, List.set_cons_zero, List.set_cons_succ]
        refine take_dstH (i := 8) (d := 34) (v := ?_) rfl rfl (by kernel_rfl) (by kernel_rfl) (by kernel_rfl) (fun _ _ _ h => h) (by rfl) hHeld ?_ ?_
        rotate_left
        · intro wZ hSw; refine exec_load_all 41 (.tmp 6) ?_ X ?_ 41 (dcC N) _ (KN.out wZ hSw) Tryd.underlying41 rfl infoDc <;> rfl
        try simp only [Act.put, List.setIfInBounds_toArray, List.set_cons_zero, List.set_cons_succ]
        refine wpAnyH_ready (rs := [9]) (by kernel_rfl) (by simp) ?_
        refine (AllReadyH.cons rfl (fun K hK => ?_) AllReadyH.nil)
        go_simp
        refine Calls.mono (HBE.out _ (Hid.out hHeld).l) ?_; rintro e wb ⟨rfl, hbb⟩; have HSb : Hid (BhS w wb X d N) := (Hid.out hHeld).kept hbb; clear hbb
        go_wp2_with fail
        refine hK.out _ _ ?_ (fun hHeld => ?_)
        · exact HSb
        clear hK K
        try simp only [Act.put, List.setIfInBounds_toArray, List.set_cons_zero, List.set_cons_succ]
        refine take_dstH (i := 10) (d := 36) (v := ?_) rfl rfl (by kernel_rfl) (by kernel_rfl) (by kernel_rfl) (fun _ _ _ h => h) (by rfl) hHeld ?_ ?_
        rotate_left
        · intro wZ hSw; clear hSw; go_simp; first | (with_reducible rfl) | (rw [if_pos (by omega)]; with_reducible rfl) | skip
        try simp only [Act.put, List.setIfInBounds_toArray, List.set_cons_zero, List.set_cons_succ]
        refine wpAnyH_ready (rs := [11]) (by kernel_rfl) (by simp) ?_
        refine (AllReadyH.cons rfl (fun K hK => ?_) AllReadyH.nil)
        obtain ⟨z0, hz0⟩ := (Hid.out hHeld).r; have HZ0 := hide hz0; clear hz0; refine wp_store_dst rfl 41 (.tmp 4) (.tmp 26) rfl (w.heap.size + 1) (dcC N).toArray rfl rfl 41 _ HZ0.out infoDc rfl (one_dcC _) ?_
        refine hK.out _ _ ?_ (fun hHeld => ?_)
        · exact ((Hid.out hHeld).store N).1
        clear hK K
        try simp only [Act.put, List.setIfInBounds_toArray, List.set_cons_zero, List.set_cons_succ]
        refine take_dstH (i := 12) (d := 5) (v := ?_) rfl rfl (by kernel_rfl) (by kernel_rfl) (by kernel_rfl) (fun _ _ _ h => h) (by rfl) hHeld ?_ ?_
        rotate_left
        · intro wZ hSw; clear hSw; go_simp; first | (with_reducible rfl) | (rw [if_pos (by omega)]; with_reducible rfl) | skip
        try simp only [Act.put, List.setIfInBounds_toArray, List.set_cons_zero, List.set_cons_succ]
        refine wpAnyH_done (by kernel_rfl) ?_ _
        all_goals
          have AN := hide (HZ0.out.row (dcC N).toArray)
          have BN := hide (Hid.out hHeld).lo
          go_wp2_with fail
          exact bodyPost_ret (results_ct Tryd.results30 _ _ (w.heap.size + 1) (dcC N) rfl AN.out Tryd.underlying41 rfl infoDc) rfl ⟨rfl, BN.out⟩
      · skip
        refine wp_region_held_drew (S := fun v => Hid (BhS w v X d N)) (by kernel_rfl) (HS1) (fun hHeld => ?_)
        refine take_dstH (i := 0) (d := 26) (v := ?_) rfl rfl (by kernel_rfl) (by kernel_rfl) (by kernel_rfl) (fun _ _ _ h => h) (by rfl) hHeld ?_ ?_
        rotate_left
        · intro wZ hSw; refine exec_load_all 41 (.tmp 6) ?_ X ?_ 41 (dcC N) _ (KN.out wZ hSw) Tryd.underlying41 rfl infoDc <;> rfl
        try simp only [Act.put, List.setIfInBounds_toArray, List.set_cons_zero, List.set_cons_succ]
        refine take_dstH (i := 1) (d := 27) (v := ?_) rfl rfl (by kernel_rfl) (by kernel_rfl) (by kernel_rfl) (fun _ _ _ h => h) (by rfl) hHeld ?_ ?_
        rotate_left
        · intro wZ hSw; clear hSw; go_simp; first | (with_reducible rfl) | (rw [if_pos (by omega)]; with_reducible rfl) | skip
        try simp only [Act.put, List.setIfInBounds_toArray, List.set_cons_zero, List.set_cons_succ]
        refine take_dstH (i := 3) (d := 29) (v := ?_) rfl rfl (by kernel_rfl) (by kernel_rfl) (by kernel_rfl) (fun _ _ _ h => h) (by rfl) hHeld ?_ ?_
        rotate_left
        · intro wZ hSw; clear hSw; go_simp; first | (with_reducible rfl) | (rw [if_pos (by omega)]; with_reducible rfl) | skip
        try simp only [Act.put, List.setIfInBounds_toArray, List.set_cons_zero, List.set_cons_succ]
        refine take_dstH (i := 4) (d := 30) (v := ?_) rfl rfl (by kernel_rfl) (by kernel_rfl) (by kernel_rfl) (fun _ _ _ h => h) (by rfl) hHeld ?_ ?_
        rotate_left
        · intro wZ hSw; have hfS := K0.out wZ hSw; clear hSw; go_simp; first | (with_reducible rfl) | (rw [if_pos (by omega)]; with_reducible rfl) | skip
        try simp only [Act.put, List.setIfInBounds_toArray, List.set_cons_zero, List.set_cons_succ]
        refine take_dstH (i := 5) (d := 31) (v := ?_) rfl rfl (by kernel_rfl) (by kernel_rfl) (by kernel_rfl) (fun _ _ _ h => h) (by rfl) hHeld ?_ ?_
        rotate_left
        · intro wZ hSw; clear hSw; go_simp; first | (with_reducible rfl) | (rw [if_pos (by omega)]; with_reducible rfl) | skip
        try simp only [Act.put, List.setIfInBounds_toArray, List.set_cons_zero, List.set_cons_succ]
        refine wpAnyH_ready (rs := [2]) (by kernel_rfl) (by simp) ?_
        refine (AllReadyH.cons rfl (fun K hK => ?_) AllReadyH.nil)
        go_simp
        refine Calls.mono (HIP.out _) ?_; rintro e wa ⟨rfl, rfl⟩
        go_wp2_with fail
        refine hK.out _ _ ?_ (fun hHeld => ?_)
        · exact hHeld
        clear hK K
        try simp only [Act.put, List.setIfInBounds_toArray, List.set_cons_zero, List.set_cons_succ]
        refine take_dstH (i := 6) (d := 32) (v := ?_) rfl rfl (by kernel_rfl) (by kernel_rfl) (by kernel_rfl) (fun _ _ _ h => h) (by rfl) hHeld ?_ ?_
        rotate_left
        · intro wZ hSw; clear hSw; go_simp; first | (with_reducible rfl) | (rw [if_pos (by omega)]; with_reducible rfl) | skip
        try simp only [Act.put, List.setIfInBounds_toArray, List.set_cons_zero, List.set_cons_succ]
        refine take_dstH (i := 7) (d := 33) (v := ?_) rfl rfl (by kernel_rfl) (by kernel_rfl) (by kernel_rfl) (fun _ _ _ h => h) (by rfl) hHeld ?_ ?_
        rotate_left
        · intro wZ hSw; clear hSw; go_simp; first | (with_reducible rfl) | (rw [if_pos (by omega)]; with_reducible rfl) | skip
        try simp only [Act.put, List.setIfInBounds_toArray, List.set_cons_zero, List.set_cons_succ]
        refine skip_dstH (i := 8) (d := 34) rfl rfl (by kernel_rfl) (by kernel_rfl) (by kernel_rfl) (fun _ _ _ h => h) (by rfl) hHeld ?_
        try simp only [Act.put, List.setIfInBounds_toArray, List.set_cons_zero, List.set_cons_succ]
        refine skip_dstH (i := 9) (d := 35) rfl rfl (by kernel_rfl) (by kernel_rfl) (by kernel_rfl) (fun _ _ _ h => h) (by rfl) hHeld ?_
        try simp only [Act.put, List.setIfInBounds_toArray, List.set_cons_zero, List.set_cons_succ]
        refine take_dstH (i := 10) (d := 36) (v := ?_) rfl rfl (by kernel_rfl) (by kernel_rfl) (by kernel_rfl) (fun _ _ _ h => h) (by rfl) hHeld ?_ ?_
        rotate_left
        · intro wZ hSw; clear hSw; go_simp; first | (with_reducible rfl) | (rw [if_pos (by omega)]; with_reducible rfl) | skip
        try simp only [Act.put, List.setIfInBounds_toArray, List.set_cons_zero, List.set_cons_succ]
        refine wpAnyH_ready (rs := [11]) (by kernel_rfl) (by simp) ?_
        refine (AllReadyH.cons rfl (fun K hK => ?_) AllReadyH.nil)
        obtain ⟨z0, hz0⟩ := (Hid.out hHeld).r; have HZ0 := hide hz0; clear hz0; refine wp_store_dst rfl 41 (.tmp 4) (.tmp 26) rfl (w.heap.size + 1) (dcC N).toArray rfl rfl 41 _ HZ0.out infoDc rfl (one_dcC _) ?_
        refine hK.out _ _ ?_ (fun hHeld => ?_)
        · exact ((Hid.out hHeld).store N).1
        clear hK K
        try simp only [Act.put, List.setIfInBounds_toArray, List.set_cons_zero, List.set_cons_succ]
        refine take_dstH (i := 12) (d := 5) (v := ?_) rfl rfl (by kernel_rfl) (by kernel_rfl) (by kernel_rfl) (fun _ _ _ h => h) (by rfl) hHeld ?_ ?_
        rotate_left
        · intro wZ hSw; clear hSw; go_simp; first | (with_reducible rfl) | (rw [if_pos (by omega)]; with_reducible rfl) | skip
        try simp only [Act.put, List.setIfInBounds_toArray, List.set_cons_zero, List.set_cons_succ]
        refine wpAnyH_done (by kernel_rfl) ?_ _
        all_goals
          have AN := hide (HZ0.out.row (dcC N).toArray)
          have BN := hide (Hid.out hHeld).lo
          go_wp2_with fail
          exact bodyPost_ret (results_ct Tryd.results30 _ _ (w.heap.size + 1) (dcC N) rfl AN.out Tryd.underlying41 rfl infoDc) rfl ⟨rfl, BN.out⟩
    · cases z
      · skip
        refine wp_region_held_drew (S := fun v => Hid (BhS w v X d N)) (by kernel_rfl) (HS1) (fun hHeld => ?_)
        refine take_dstH (i := 0) (d := 26) (v := ?_) rfl rfl (by kernel_rfl) (by kernel_rfl) (by kernel_rfl) (fun _ _ _ h => h) (by rfl) hHeld ?_ ?_
        rotate_left
        · intro wZ hSw; refine exec_load_all 41 (.tmp 6) ?_ X ?_ 41 (dcC N) _ (KN.out wZ hSw) Tryd.underlying41 rfl infoDc <;> rfl
        try simp only [Act.put, List.setIfInBounds_toArray, List.set_cons_zero, List.set_cons_succ]
        refine take_dstH (i := 1) (d := 27) (v := ?_) rfl rfl (by kernel_rfl) (by kernel_rfl) (by kernel_rfl) (fun _ _ _ h => h) (by rfl) hHeld ?_ ?_
        rotate_left
        · intro wZ hSw; clear hSw; go_simp; first | (with_reducible rfl) | (rw [if_pos (by omega)]; with_reducible rfl) | skip
        try simp only [Act.put, List.setIfInBounds_toArray, List.set_cons_zero, List.set_cons_succ]
        refine take_dstH (i := 3) (d := 29) (v := ?_) rfl rfl (by kernel_rfl) (by kernel_rfl) (by kernel_rfl) (fun _ _ _ h => h) (by rfl) hHeld ?_ ?_
        rotate_left
        · intro wZ hSw; clear hSw; go_simp; first | (with_reducible rfl) | (rw [if_pos (by omega)]; with_reducible rfl) | skip
        try simp only [Act.put, List.setIfInBounds_toArray, List.set_cons_zero, List.set_cons_succ]
        refine take_dstH (i := 4) (d := 30) (v := ?_) rfl rfl (by kernel_rfl) (by kernel_rfl) (by kernel_rfl) (fun _ _ _ h => h) (by rfl) hHeld ?_ ?_
        rotate_left
        · intro wZ hSw; have hfS := K0.out wZ hSw; clear hSw; go_simp; first | (with_reducible rfl) | (rw [if_pos (by omega)]; with_reducible rfl) | skip
        try simp only [Act.put, List.setIfInBounds_toArray, List.set_cons_zero, List.set_cons_succ]
        refine take_dstH (i := 5) (d := 31) (v := ?_) rfl rfl (by kernel_rfl) (by kernel_rfl) (by kernel_rfl) (fun _ _ _ h => h) (by rfl) hHeld ?_ ?_
        rotate_left
        · intro wZ hSw; clear hSw; go_simp; first | (with_reducible rfl) | (rw [if_pos (by omega)]; with_reducible rfl) | skip
        try simp only [Act.put, List.setIfInBounds_toArray, List.set_cons_zero, List.set_cons_succ]
        refine wpAnyH_ready (rs := [2]) (by kernel_rfl) (by simp) ?_
        refine (AllReadyH.cons rfl (fun K hK => ?_) AllReadyH.nil)
        go_simp
        refine Calls.mono (HIP.out _) ?_; rintro e wa ⟨rfl, rfl⟩
        go_wp2_with fail
        refine hK.out _ _ ?_ (fun hHeld => ?_)
        · exact hHeld
        clear hK K
        try simp only [Act.put, List.setIfInBounds_toArray, List.set_cons_zero, List.set_cons_succ]
        refine take_dstH (i := 6) (d := 32) (v := ?_) rfl rfl (by kernel_rfl) (by kernel_rfl) (by kernel_rfl) (fun _ _ _ h => h) (by rfl) hHeld ?_ ?_
        rotate_left
        · intro wZ hSw; clear hSw; go_simp; first | (with_reducible rfl) | (rw [if_pos (by omega)]; with_reducible rfl) | skip
        try simp only [Act.put, List.setIfInBounds_toArray, List.set_cons_zero, List.set_cons_succ]
        refine take_dstH (i := 7) (d := 33) (v := ?_) rfl rfl (by kernel_rfl) (by kernel_rfl) (by kernel_rfl) (fun _ _ _ h => h) (by rfl) hHeld ?_ ?_
        rotate_left
        · intro wZ hSw; clear hSw; go_simp; first | (with_reducible rfl) | (rw [if_pos (by omega)]; with_reducible rfl) | skip
        try simp only [Act.put, List.setIfInBounds_toArray, List.set_cons_zero, List.set_cons_succ]
        refine skip_dstH (i := 8) (d := 34) rfl rfl (by kernel_rfl) (by kernel_rfl) (by kernel_rfl) (fun _ _ _ h => h) (by rfl) hHeld ?_
        try simp only [Act.put, List.setIfInBounds_toArray, List.set_cons_zero, List.set_cons_succ]
        refine skip_dstH (i := 9) (d := 35) rfl rfl (by kernel_rfl) (by kernel_rfl) (by kernel_rfl) (fun _ _ _ h => h) (by rfl) hHeld ?_
        try simp only [Act.put, List.setIfInBounds_toArray, List.set_cons_zero, List.set_cons_succ]
        refine take_dstH (i := 10) (d := 36) (v := ?_) rfl rfl (by kernel_rfl) (by kernel_rfl) (by kernel_rfl) (fun _ _ _ h => h) (by rfl) hHeld ?_ ?_
        rotate_left
        · intro wZ hSw; clear hSw; go_simp; first | (with_reducible rfl) | (rw [if_pos (by omega)]; with_reducible rfl) | skip
        try simp only [Act.put, List.setIfInBounds_toArray, List.set_cons_zero, List.set_cons_succ]
        refine wpAnyH_ready (rs := [11]) (by kernel_rfl) (by simp) ?_
        refine (AllReadyH.cons rfl (fun K hK => ?_) AllReadyH.nil)
        obtain ⟨z0, hz0⟩ := (Hid.out hHeld).r; have HZ0 := hide hz0; clear hz0; refine wp_store_dst rfl 41 (.tmp 4) (.tmp 26) rfl (w.heap.size + 1) (dcC N).toArray rfl rfl 41 _ HZ0.out infoDc rfl (one_dcC _) ?_
        refine hK.out _ _ ?_ (fun hHeld => ?_)
        · exact ((Hid.out hHeld).store N).1
        clear hK K
        try simp only [Act.put, List.setIfInBounds_toArray, List.set_cons_zero, List.set_cons_succ]
        refine take_dstH (i := 12) (d := 5) (v := ?_) rfl rfl (by kernel_rfl) (by kernel_rfl) (by kernel_rfl) (fun _ _ _ h => h) (by rfl) hHeld ?_ ?_
        rotate_left
        · intro wZ hSw; clear hSw; go_simp; first | (with_reducible rfl) | (rw [if_pos (by omega)]; with_reducible rfl) | skip
        try simp only [Act.put, List.setIfInBounds_toArray, List.set_cons_zero, List.set_cons_succ]
        refine wpAnyH_done (by kernel_rfl) ?_ _
        all_goals
          have AN := hide (HZ0.out.row (dcC N).toArray)
          have BN := hide (Hid.out hHeld).lo
          go_wp2_with fail
          exact bodyPost_ret (results_ct Tryd.results30 _ _ (w.heap.size + 1) (dcC N) rfl AN.out Tryd.underlying41 rfl infoDc) rfl ⟨rfl, BN.out⟩
      · skip
        refine wp_region_held_drew (S := fun v => Hid (BhS w v X d N)) (by kernel_rfl) (HS1) (fun hHeld => ?_)
        refine take_dstH (i := 0) (d := 26) (v := ?_) rfl rfl (by kernel_rfl) (by kernel_rfl) (by kernel_rfl) (fun _ _ _ h => h) (by rfl) hHeld ?_ ?_
        rotate_left
        · intro wZ hSw; refine exec_load_all 41 (.tmp 6) ?_ X ?_ 41 (dcC N) _ (KN.out wZ hSw) Tryd.underlying41 rfl infoDc <;> rfl
        try simp only [Act.put, List.setIfInBounds_toArray, List.set_cons_zero, List.set_cons_succ]
        refine take_dstH (i := 1) (d := 27) (v := ?_) rfl rfl (by kernel_rfl) (by kernel_rfl) (by kernel_rfl) (fun _ _ _ h => h) (by rfl) hHeld ?_ ?_
        rotate_left
        · intro wZ hSw; clear hSw; go_simp; first | (with_reducible rfl) | (rw [if_pos (by omega)]; with_reducible rfl) | skip
        try simp only [Act.put, List.setIfInBounds_toArray, List.set_cons_zero, List.set_cons_succ]
        refine take_dstH (i := 3) (d := 29) (v := ?_) rfl rfl (by kernel_rfl) (by kernel_rfl) (by kernel_rfl) (fun _ _ _ h => h) (by rfl) hHeld ?_ ?_
        rotate_left
        · intro wZ hSw; clear hSw; go_simp; first | (with_reducible rfl) | (rw [if_pos (by omega)]; with_reducible rfl) | skip
        try simp only [Act.put, List.setIfInBounds_toArray, List.set_cons_zero, List.set_cons_succ]
        refine take_dstH (i := 4) (d := 30) (v := ?_) rfl rfl (by kernel_rfl) (by kernel_rfl) (by kernel_rfl) (fun _ _ _ h => h) (by rfl) hHeld ?_ ?_
        rotate_left
        · intro wZ hSw; have hfS := K0.out wZ hSw; clear hSw; go_simp; first | (with_reducible rfl) | (rw [if_pos (by omega)]; with_reducible rfl) | skip
        try simp only [Act.put, List.setIfInBounds_toArray, List.set_cons_zero, List.set_cons_succ]
        refine take_dstH (i := 5) (d := 31) (v := ?_) rfl rfl (by kernel_rfl) (by kernel_rfl) (by kernel_rfl) (fun _ _ _ h => h) (by rfl) hHeld ?_ ?_
        rotate_left
        · intro wZ hSw; clear hSw; go_simp; first | (with_reducible rfl) | (rw [if_pos (by omega)]; with_reducible rfl) | skip
        try simp only [Act.put, List.setIfInBounds_toArray, List.set_cons_zero, List.set_cons_succ]
        refine wpAnyH_ready (rs := [2]) (by kernel_rfl) (by simp) ?_
        refine (AllReadyH.cons rfl (fun K hK => ?_) AllReadyH.nil)
        go_simp
        refine Calls.mono (HIP.out _) ?_; rintro e wa ⟨rfl, rfl⟩
        go_wp2_with fail
        refine hK.out _ _ ?_ (fun hHeld => ?_)
        · exact hHeld
        clear hK K
        try simp only [Act.put, List.setIfInBounds_toArray, List.set_cons_zero, List.set_cons_succ]
        refine take_dstH (i := 6) (d := 32) (v := ?_) rfl rfl (by kernel_rfl) (by kernel_rfl) (by kernel_rfl) (fun _ _ _ h => h) (by rfl) hHeld ?_ ?_
        rotate_left
        · intro wZ hSw; clear hSw; go_simp; first | (with_reducible rfl) | (rw [if_pos (by omega)]; with_reducible rfl) | skip
        try simp only [Act.put, List.setIfInBounds_toArray, List.set_cons_zero, List.set_cons_succ]
        refine take_dstH (i := 7) (d := 33) (v := ?_) rfl rfl (by kernel_rfl) (by kernel_rfl) (by kernel_rfl) (fun _ _ _ h => h) (by rfl) hHeld ?_ ?_
        rotate_left
        · intro wZ hSw; clear hSw; go_simp; first | (with_reducible rfl) | (rw [if_pos (by omega)]; with_reducible rfl) | skip
        try simp only [Act.put, List.setIfInBounds_toArray, List.set_cons_zero, List.set_cons_succ]
        refine take_dstH (i := 8) (d := 34) (v := ?_) rfl rfl (by kernel_rfl) (by kernel_rfl) (by kernel_rfl) (fun _ _ _ h => h) (by rfl) hHeld ?_ ?_
        rotate_left
        · intro wZ hSw; refine exec_load_all 41 (.tmp 6) ?_ X ?_ 41 (dcC N) _ (KN.out wZ hSw) Tryd.underlying41 rfl infoDc <;> rfl
        try simp only [Act.put, List.setIfInBounds_toArray, List.set_cons_zero, List.set_cons_succ]
        refine wpAnyH_ready (rs := [9]) (by kernel_rfl) (by simp) ?_
        refine (AllReadyH.cons rfl (fun K hK => ?_) AllReadyH.nil)
        go_simp
        refine Calls.mono (HBE.out _ (Hid.out hHeld).l) ?_; rintro e wb ⟨rfl, hbb⟩; have HSb : Hid (BhS w wb X d N) := (Hid.out hHeld).kept hbb; clear hbb
        go_wp2_with fail
        refine hK.out _ _ ?_ (fun hHeld => ?_)
        · exact HSb
        clear hK K
        try simp only [Act.put, List.setIfInBounds_toArray, List.set_cons_zero, List.set_cons_succ]
        refine take_dstH (i := 10) (d := 36) (v := ?_) rfl rfl (by kernel_rfl) (by kernel_rfl) (by kernel_rfl) (fun _ _ _ h => h) (by rfl) hHeld ?_ ?_
        rotate_left
        · intro wZ hSw; clear hSw; go_simp; first | (with_reducible rfl) | (rw [if_pos (by omega)]; with_reducible rfl) | skip
        try simp only [Act.put, List.setIfInBounds_toArray, List.set_cons_zero, List.set_cons_succ]
        refine wpAnyH_ready (rs := [11]) (by kernel_rfl) (by simp) ?_
        refine (AllReadyH.cons rfl (fun K hK => ?_) AllReadyH.nil)
        obtain ⟨z0, hz0⟩ := (Hid.out hHeld).r; have HZ0 := hide hz0; clear hz0; refine wp_store_dst rfl 41 (.tmp 4) (.tmp 26) rfl (w.heap.size + 1) (dcC N).toArray rfl rfl 41 _ HZ0.out infoDc rfl (one_dcC _) ?_
        refine hK.out _ _ ?_ (fun hHeld => ?_)
        · exact ((Hid.out hHeld).store N).1
        clear hK K
        try simp only [Act.put, List.setIfInBounds_toArray, List.set_cons_zero, List.set_cons_succ]
        refine take_dstH (i := 12) (d := 5) (v := ?_) rfl rfl (by kernel_rfl) (by kernel_rfl) (by kernel_rfl) (fun _ _ _ h => h) (by rfl) hHeld ?_ ?_
        rotate_left
        · intro wZ hSw; clear hSw; go_simp; first | (with_reducible rfl) | (rw [if_pos (by omega)]; with_reducible rfl) | skip
        try simp only [Act.put, List.setIfInBounds_toArray, List.set_cons_zero, List.set_cons_succ]
        refine wpAnyH_done (by kernel_rfl) ?_ _
        all_goals
          have AN := hide (HZ0.out.row (dcC N).toArray)
          have BN := hide (Hid.out hHeld).lo
          go_wp2_with fail
          exact bodyPost_ret (results_ct Tryd.results30 _ _ (w.heap.size + 1) (dcC N) rfl AN.out Tryd.underlying41 rfl infoDc) rfl ⟨rfl, BN.out⟩

end Go.Proofs.YtijjifdgmffenaaDoor
