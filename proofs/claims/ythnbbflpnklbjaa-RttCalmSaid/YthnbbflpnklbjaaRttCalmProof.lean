/-
  RttCalm: where all samples are the same, the mean is that, and what they are off falls till it is at most 3 (a sample heard 100 times; of what is no sample nothing is asked but the known rows): the law returns true. No condition.
-/
import Derived.Test.YthnbbflpnklbjaaTH
namespace Go.Proofs.Ythnbbflpnklbjaa
namespace RttCalmProof
open Go.ChangeShapes Go.WideShapes Go.ChangeAt Go.WideMaps Go.WideElems Go.RowKit
set_option linter.unusedVariables false

/-- how far off, behind so many more -/
def ofF (x : Int) : Nat → Int
  | 0 => x
  | k + 1 => ofF x k - ofF x k / 4
/-- a meter behind the same sample so many times -/
def calF (s : Int) : Nat → Me
  | 0 => Me.none
  | k + 1 => (calF s k).one s
theorem ofF_le (x : Int) (h : 0 ≤ x) : ∀ k, 0 ≤ ofF x k ∧ ofF x k ≤ x
  | 0 => ⟨h, Int.le_refl _⟩
  | k + 1 => by have := ofF_le x h k; simp only [ofF]; omega
theorem ofF_mono {x y : Int} (h : x ≤ y) : ∀ k, ofF x k ≤ ofF y k
  | 0 => h
  | k + 1 => by have := ofF_mono h k; simp only [ofF]; omega
theorem ofF_end : ofF 120000 99 ≤ 3 := by decide +kernel
theorem calF_is (s : Int) (hs : Samp s) : ∀ k, k < 1073741824 → calF s (k + 1) = ⟨(k : Int) + 1, 8 * s, ofF (2 * s) k⟩
  | 0, _ => by simp [calF, Me.one, Me.none, ofF]
  | k + 1, hk => by
    have ih := calF_is s hs k (by omega)
    obtain ⟨h1, h2⟩ := hs
    have hq : 8 * s / 8 = s := by omega
    have hb := ofF_le (2 * s) (by omega) k
    have ha : absF (s - s) = 0 := by simp [absF]
    rw [calF, ih, Me.one, if_neg (by simp only; omega)]
    simp only [hq, ha]
    rw [if_pos (by omega), if_neg (by omega), ofF]
    simp only [Me.mk.injEq]
    omega
theorem calF_may (s : Int) (hs : Samp s) : ∀ k, (calF s k).may
  | 0 => by simp [calF, Me.none, Me.may]
  | k + 1 => (Me.may_one (calF_may s hs k) hs).1
/-- what the law keeps -/
def offS (s : Int) : Nat → Int
  | 0 => 2 * s
  | k + 1 => (calF s (k + 1)).c
theorem off_le (s : Int) (hs : Samp s) (k : Nat) (hk : k < 1073741824) : (calF s (k + 1)).c ≤ offS s k := by
  rw [calF_is s hs k hk]
  cases k with
  | zero => simp [ofF, offS]
  | succ k =>
    rw [offS, calF_is s hs k (by omega)]
    have := ofF_le (2 * s) (by have := hs.1; omega) k
    simp only [ofF]
    omega
theorem cal_mean (s : Int) (hs : Samp s) (k : Nat) (hk : k < 1073741824) : meanF (calF s (k + 1)) = s := by
  rw [meanF, if_pos (calF_may s hs _), calF_is s hs k hk]
  simp only; omega
theorem cal_hear (s : Int) (hs : Samp s) (k : Nat) : hearM (calF s k) [s] = calF s (k + 1) ∧ hearE (calF s k) [s] = 0 := by
  have h : (calF s k).may ∧ ∀ x ∈ [s], Samp x := ⟨calF_may s hs k, fun x hx => by simp at hx; rw [hx]; exact hs⟩
  exact ⟨(if_pos h).trans rfl, if_pos h⟩

theorem box0 (w : World) : Arr (w.alloc (Obj.cells #[Value.int .i64 0, Value.int .i64 0, Value.int .i64 0] 23)) w.heap.size 23 (meC Me.none) ∧ Below w.heap.size w (w.alloc (Obj.cells #[Value.int .i64 0, Value.int .i64 0, Value.int .i64 0] 23)) := ⟨Arr.new w _ _, (Below.refl _ _).alloc (Nat.le_refl _) _⟩

set_option maxHeartbeats 8000000 in
set_option maxRecDepth 100000 in
theorem walk_no (s : Int) (w : World) (hno : s < 0 ∨ 60000 < s) :
    Calls Try.prog 6 #[.int .i64 s] w fun e w' => e = .returned (.bool true) ∧ Below w.heap.size w w' := by
  have HNO := hide hno
  clear hno
  go_enter Try.func6, Try.ntmps6
  go_wp2_with fail
  refine (known_any w).mono ?_
  rintro e w2 ⟨rfl, hb⟩
  have A2 := hide hb
  clear hb
  by_cases g1 : s < 0
  · go_wp2
    go_ret
    exact ⟨rfl, A2.out⟩
  have g2 : 60000 < s := by
    rcases HNO.out with h | h
    all_goals omega
  go_wp2
  go_ret
  exact ⟨rfl, A2.out⟩

/-- what lies in memory -/
def StC (w wr : World) (g3 : Nat) (m : Me) : Prop := Arr wr g3 23 (meC m) ∧ Below w.heap.size w wr ∧ w.heap.size ≤ g3
theorem StC.kept {w wr w' : World} {g3 : Nat} {m : Me} (h : StC w wr g3 m) (hb : Below wr.heap.size wr w') : StC w w' g3 m := ⟨h.1.kept hb, h.2.1.trans (hb.mono h.2.1.size), h.2.2⟩
theorem StC.drew {w wr : World} {g3 : Nat} {m : Me} (h : StC w wr g3 m) : StC w wr.drew g3 m := h.kept (Below.refl _ _).drew
theorem StC.store {w wr : World} {g3 : Nat} {m : Me} (h : StC w wr g3 m) (n : Me) : StC w (wr.setRow g3 (meC n).toArray) g3 n := ⟨h.1.row _, below_setRow h.2.1 h.2.2 h.1.lt _, h.2.2⟩

set_option maxHeartbeats 8000000 in
set_option maxRecDepth 100000 in
theorem walk_yes (s : Int) (w : World) (hs : Samp s) :
    Calls Try.prog 6 #[.int .i64 s] w fun e w' => e = .returned (.bool true) ∧ Below w.heap.size w w' := by
  have HS := hide hs
  obtain ⟨hs1, hs2⟩ := hs
  go_enter Try.func6, Try.ntmps6
  go_wp2_with fail
  refine (known_any w).mono ?_
  rintro e w2 ⟨rfl, hb⟩
  have A2 : Hid (StC w (w2.alloc (Obj.cells #[Value.int .i64 0, Value.int .i64 0, Value.int .i64 0] 23)) w2.heap.size (calF s 0)) := ⟨Arr.new w2 _ _, hb.alloc hb.size _, hb.size⟩
  clear hb
  go_upto_region 6 with fail
  generalize w2.alloc (Obj.cells #[Value.int .i64 0, Value.int .i64 0, Value.int .i64 0] 23) = w3 at *
  generalize w2.heap.size = g3 at *
  go_wp2_with fail
  go_loopg [4, 5] 101 (fun f s4 s5 wr => ∃ (k : Nat), s4 = .int .i64 (offS s k) ∧ s5 = .int .i64 (k : Int) ∧ k ≤ 100 ∧ 100 - k < f ∧ Hid (StC w wr g3 (calF s k)))
  case atStart => exact ⟨0, rfl, rfl, by omega, by omega, A2⟩
  case round =>
    obtain ⟨k, rfl, rfl, hk, hf, HT⟩ := hrel
    clear A2
    by_cases hkn : k < 100
    · have HH : Hid (∀ (g : Nat) (v : World), v.cell? ⟨g, 0, none⟩ = some (.int .i64 s) → Calls Try.prog 9 #[meV (calF s k), .slice (some ⟨g, 0, none⟩) 1 1] v fun e w' => e = .returned (.tuple #[meV (calF s (k + 1)), .int .i64 0]) ∧ Below v.heap.size v w') := fun g v hc => by
        have h := hear_one (calF s k) s g v hc
        rwa [(cal_hear s HS.out k).1, (cal_hear s HS.out k).2] at h
      have HM : Hid (∀ v : World, Calls Try.prog 13 #[meV (calF s (k + 1))] v fun e w' => e = .returned (.int .i64 s) ∧ Below v.heap.size v w') := fun v => by
        have h := mean_any (calF s (k + 1)) v
        rwa [cal_mean s HS.out k (by omega)] at h
      have HO := hide (off_le s HS.out k (by omega))
      have HOE : Hid (offS s (k + 1) = (calF s (k + 1)).c) := rfl
      generalize hX : calF s (k + 1) = x at *
      generalize calF s k = m at *
      generalize offS s k = off at *
      have A3 : Hid (Arr (wr.alloc (Obj.cells #[Value.int .i64 s] 3)) g3 23 (meC m) ∧ StC w (wr.alloc (Obj.cells #[Value.int .i64 s] 3)) g3 m) := ⟨HT.out.1.alloc _, HT.out.kept ((Below.refl _ _).alloc (Nat.le_refl _) _)⟩
      have HXX := hide hX
      clear hX
      go_wp2_with (refine wpList_exec (by rfl) _ (exec_load_all 23 (.tmp 3) rfl g3 rfl 23 (meC m) _ HT.out.1 Try.underlying23 rfl infoM) ?_)
      refine (HH.out _ _ (by simp)).mono ?_
      rintro e w4 ⟨rfl, hb⟩
      have hb' : Below (wr.alloc (Obj.cells #[Value.int .i64 s] 3)).heap.size (wr.alloc (Obj.cells #[Value.int .i64 s] 3)) (w4.alloc (Obj.cells #[Value.int .i64 x.a, Value.int .i64 x.b, Value.int .i64 x.c] 23)) := hb.alloc hb.size _
      have A5 : Hid (StC w (w4.alloc (Obj.cells #[Value.int .i64 x.a, Value.int .i64 x.b, Value.int .i64 x.c] 23)) g3 m ∧ Arr (w4.alloc (Obj.cells #[Value.int .i64 x.a, Value.int .i64 x.b, Value.int .i64 x.c] 23)) w4.heap.size 23 (meC x) ∧ g3 < w4.heap.size) := ⟨A3.out.2.kept hb', Arr.new w4 _ _, Nat.lt_of_lt_of_le A3.out.1.lt hb.size⟩
      clear hb hb' A3 HH HT
      go_upto_region 11 with fail
      generalize w4.alloc (Obj.cells #[Value.int .i64 x.a, Value.int .i64 x.b, Value.int .i64 x.c] 23) = w5 at *
      generalize w4.heap.size = g6 at *
      go_wp2_with (refine wpList_exec (by rfl) _ (exec_load_all 23 (.tmp 6) rfl g6 rfl 23 (meC x) _ A5.out.2.1 Try.underlying23 rfl infoM) ?_)
      refine (HM.out w5).mono ?_
      rintro e w6 ⟨rfl, hb⟩
      have A6 : Hid (StC w w6 g3 m ∧ Arr w6 g6 23 (meC x) ∧ g3 < g6) := ⟨A5.out.1.kept hb, A5.out.2.1.kept hb, A5.out.2.2⟩
      clear hb A5 HM
      have c2 := A6.out.2.1.cell 2
      simp only [List.getElem?_cons_zero, List.getElem?_cons_succ] at c2
      have ho : ¬ off < x.c := by have := HO.out; omega
      have hne : (s != s) = false := by simp
      go_upto_region 13 with fail
      refine wp_region_held_drew (S := fun v => Hid (Arr v g6 23 (meC x))) (by kernel_rfl) (hide A6.out.2.1) (fun hHeld => ?_)
      refine take_dstH (i := 0) (d := 44) (v := ?_) rfl rfl (by kernel_rfl) (by kernel_rfl) (by kernel_rfl) (fun _ _ _ h => h) (by rfl) hHeld ?_ ?_
      rotate_left
      · intro wZ hSw; refine exec_load_all 23 (.tmp 6) ?_ g6 ?_ 23 (meC x) _ (Hid.out hSw) Try.underlying23 rfl infoM <;> rfl
      try simp only [Act.put, List.setIfInBounds_toArray, List.set_cons_zero, List.set_cons_succ]
      refine take_dstH (i := 1) (d := 45) (v := ?_) rfl rfl (by kernel_rfl) (by kernel_rfl) (by kernel_rfl) (fun _ _ _ h => h) (by rfl) hHeld ?_ ?_
      rotate_left
      · intro wZ hSw; clear hSw; go_simp; first | (with_reducible rfl) | (rw [if_pos (by omega)]; with_reducible rfl) | skip
      try simp only [Act.put, List.setIfInBounds_toArray, List.set_cons_zero, List.set_cons_succ]
      refine take_dstH (i := 2) (d := 46) (v := ?_) rfl rfl (by kernel_rfl) (by kernel_rfl) (by kernel_rfl) (fun _ _ _ h => h) (by rfl) hHeld ?_ ?_
      rotate_left
      · intro wZ hSw; have hfS := (fun (v : World) (hv : Hid (Arr v g6 23 (meC x))) => show v.cell? ⟨g6, 2, none⟩ = some (.int .i64 x.c) from hv.out.cell 2) wZ hSw; clear hSw; go_simp; first | (with_reducible rfl) | (rw [if_pos (by omega)]; with_reducible rfl) | skip
      try simp only [Act.put, List.setIfInBounds_toArray, List.set_cons_zero, List.set_cons_succ]
      refine wpAnyH_ready (rs := [3]) (by kernel_rfl) (by simp) ?_
      refine (AllReadyH.cons rfl (fun K hK => ?_) AllReadyH.nil)
      refine wp_store_dst rfl 23 (.tmp 3) (.tmp 44) rfl g3 (meC x).toArray rfl rfl 23 (meC m).toArray A6.out.1.1 infoM rfl (one_meC _) ?_
      refine hK.out _ _ ?_ (fun hHeld => ?_)
      · exact hide ((show Arr w6.drew g6 23 (meC x) from A6.out.2.1).rowOther _ _ (by have := A6.out.2.2; omega))
      clear hK K
      try simp only [Act.put, List.setIfInBounds_toArray, List.set_cons_zero, List.set_cons_succ]
      refine take_dstH (i := 4) (d := 4) (v := ?_) rfl rfl (by kernel_rfl) (by kernel_rfl) (by kernel_rfl) (fun _ _ _ h => h) (by rfl) hHeld ?_ ?_
      rotate_left
      · intro wZ hSw; clear hSw; go_simp; first | (with_reducible rfl) | (rw [if_pos (by omega)]; with_reducible rfl) | skip
      try simp only [Act.put, List.setIfInBounds_toArray, List.set_cons_zero, List.set_cons_succ]
      refine wpAnyH_done (by kernel_rfl) ?_ _
      go_wp2_with fail
      go_roundg (100 - k)
      case measure => omega
      case rel =>
        refine ⟨k + 1, ?_, by simp, by omega, by omega, ?_⟩
        · rw [HOE.out]
        · rw [HXX.out]; exact A6.out.1.drew.store x
    · have hkn' : k = 100 := by omega
      subst hkn'
      have HI := hide (calF_is s HS.out 99 (by omega))
      have HW := hide (fun v : World => wait_any (calF s 100) v)
      have HY := hide (calF_may s HS.out 100)
      have HV : Hid (waitF (calF s 100) = if (if 1000 < s + (calF s 100).c then 1000 else s + (calF s 100).c) > 50 then (if 1000 < s + (calF s 100).c then 1000 else s + (calF s 100).c) else 50) := by
        show _ = _
        have e : calF s 100 = _ := HI.out
        rw [waitF, if_pos ⟨HY.out, by rw [e]; simp only; omega⟩, e]
        simp only [clF]
        have hq : 8 * s / 8 = s := by omega
        rw [hq]
        repeat' split
        all_goals omega
      have HC3 : Hid (0 ≤ (calF s 100).c ∧ (calF s 100).c ≤ 3 ∧ (calF s 100).a = 100) := by
        have e : calF s 100 = _ := HI.out
        rw [e]
        have h1 := ofF_mono (x := 2 * s) (y := 120000) (by omega) 99
        have h2 := ofF_end
        have h3 := ofF_le (2 * s) (by omega) 99
        exact ⟨h3.1, Int.le_trans h1 h2, rfl⟩
      clear HI HY HS
      generalize waitF (calF s 100) = wt at *
      generalize calF s 100 = m at *
      obtain ⟨hc0, hc3, ha⟩ := HC3.out
      have HA := hide ha
      clear ha HC3
      obtain ⟨z, hz⟩ : ∃ z, s + m.c = z := ⟨_, rfl⟩
      rw [hz] at HV
      obtain ⟨mn, hmn⟩ : ∃ mn, (if 1000 < z then 1000 else z) = mn := ⟨_, rfl⟩
      rw [hmn] at HV
      obtain ⟨mx, hmx⟩ : ∃ mx, (if mn > 50 then mn else 50) = mx := ⟨_, rfl⟩
      rw [hmx] at HV
      obtain rfl : wt = mx := HV.out
      have HMN := hide hmn
      have HMX := hide hmx
      have hle : decide (m.c ≤ 3) = true := by simp; omega
      have hae : (m.a == 100) = true := by rw [HA.out]; rfl
      have hzw : IntKind.i64.wrap z = z := by simp [IntKind.wrap, IntKind.bits, IntKind.signed]; omega
      clear hmn hmx HV HA
      go_upto_region 14 with fail
      refine wp_region_held_drew (S := fun v => Hid (StC w v g3 m)) (by kernel_rfl) (hide HT.out.drew) (fun hHeld => ?_)
      refine take_dstH (i := 0) (d := 47) (v := ?_) rfl rfl (by kernel_rfl) (by kernel_rfl) (by kernel_rfl) (fun _ _ _ h => h) (by rfl) hHeld ?_ ?_
      rotate_left
      · intro wZ hSw; clear hSw; go_simp; first | (with_reducible rfl) | (rw [if_pos (by omega)]; with_reducible rfl) | skip
      try simp only [Act.put, List.setIfInBounds_toArray, List.set_cons_zero, List.set_cons_succ]
      refine take_dstH (i := 1) (d := 48) (v := ?_) rfl rfl (by kernel_rfl) (by kernel_rfl) (by kernel_rfl) (fun _ _ _ h => h) (by rfl) hHeld ?_ ?_
      rotate_left
      · intro wZ hSw; have hfS := (fun (v : World) (hv : Hid (StC w v g3 m)) => show v.cell? ⟨g3, 2, none⟩ = some (.int .i64 m.c) from hv.out.1.cell 2) wZ hSw; clear hSw; go_simp; first | (with_reducible rfl) | (rw [if_pos (by omega)]; with_reducible rfl) | skip
      try simp only [Act.put, List.setIfInBounds_toArray, List.set_cons_zero, List.set_cons_succ]
      refine take_dstH (i := 2) (d := 49) (v := ?_) rfl rfl (by kernel_rfl) (by kernel_rfl) (by kernel_rfl) (fun _ _ _ h => h) (by rfl) hHeld ?_ ?_
      rotate_left
      · intro wZ hSw; clear hSw; go_simp; first | (with_reducible rfl) | (rw [if_pos (by omega)]; with_reducible rfl) | skip
      try simp only [Act.put, List.setIfInBounds_toArray, List.set_cons_zero, List.set_cons_succ]
      refine take_dstH (i := 3) (d := 50) (v := ?_) rfl rfl (by kernel_rfl) (by kernel_rfl) (by kernel_rfl) (fun _ _ _ h => h) (by rfl) hHeld ?_ ?_
      rotate_left
      · intro wZ hSw; clear hSw; go_simp; first | (with_reducible rfl) | (rw [if_pos (by omega)]; with_reducible rfl) | skip
      try simp only [Act.put, List.setIfInBounds_toArray, List.set_cons_zero, List.set_cons_succ]
      refine take_dstH (i := 4) (d := 51) (v := ?_) rfl rfl (by kernel_rfl) (by kernel_rfl) (by kernel_rfl) (fun _ _ _ h => h) (by rfl) hHeld ?_ ?_
      rotate_left
      · intro wZ hSw; clear hSw; go_simp; first | (with_reducible rfl) | (rw [if_pos (by omega)]; with_reducible rfl) | skip
      try simp only [Act.put, List.setIfInBounds_toArray, List.set_cons_zero, List.set_cons_succ]
      refine take_dstH (i := 5) (d := 52) (v := ?_) rfl rfl (by kernel_rfl) (by kernel_rfl) (by kernel_rfl) (fun _ _ _ h => h) (by rfl) hHeld ?_ ?_
      rotate_left
      · intro wZ hSw; have hfS := (fun (v : World) (hv : Hid (StC w v g3 m)) => show v.cell? ⟨g3, 0, none⟩ = some (.int .i64 m.a) from hv.out.1.cell 0) wZ hSw; clear hSw; go_simp; first | (with_reducible rfl) | (rw [if_pos (by omega)]; with_reducible rfl) | skip
      try simp only [Act.put, List.setIfInBounds_toArray, List.set_cons_zero, List.set_cons_succ]
      refine take_dstH (i := 6) (d := 53) (v := ?_) rfl rfl (by kernel_rfl) (by kernel_rfl) (by kernel_rfl) (fun _ _ _ h => h) (by rfl) hHeld ?_ ?_
      rotate_left
      · intro wZ hSw; clear hSw; go_simp; first | (with_reducible rfl) | (rw [if_pos (by omega)]; with_reducible rfl) | skip
      try simp only [Act.put, List.setIfInBounds_toArray, List.set_cons_zero, List.set_cons_succ]
      refine take_dstH (i := 7) (d := 54) (v := ?_) rfl rfl (by kernel_rfl) (by kernel_rfl) (by kernel_rfl) (fun _ _ _ h => h) (by rfl) hHeld ?_ ?_
      rotate_left
      · intro wZ hSw; clear hSw; go_simp; first | (with_reducible rfl) | (rw [if_pos (by omega)]; with_reducible rfl) | skip
      try simp only [Act.put, List.setIfInBounds_toArray, List.set_cons_zero, List.set_cons_succ]
      refine take_dstH (i := 8) (d := 55) (v := ?_) rfl rfl (by kernel_rfl) (by kernel_rfl) (by kernel_rfl) (fun _ _ _ h => h) (by rfl) hHeld ?_ ?_
      rotate_left
      · intro wZ hSw; clear hSw; go_simp; first | (with_reducible rfl) | (rw [if_pos (by omega)]; with_reducible rfl) | skip
      try simp only [Act.put, List.setIfInBounds_toArray, List.set_cons_zero, List.set_cons_succ]
      refine take_dstH (i := 9) (d := 56) (v := ?_) rfl rfl (by kernel_rfl) (by kernel_rfl) (by kernel_rfl) (fun _ _ _ h => h) (by rfl) hHeld ?_ ?_
      rotate_left
      · intro wZ hSw; refine exec_load_all 23 (.tmp 3) ?_ g3 ?_ 23 (meC m) _ (Hid.out hSw).1 Try.underlying23 rfl infoM <;> rfl
      try simp only [Act.put, List.setIfInBounds_toArray, List.set_cons_zero, List.set_cons_succ]
      refine take_dstH (i := 11) (d := 58) (v := ?_) rfl rfl (by kernel_rfl) (by kernel_rfl) (by kernel_rfl) (fun _ _ _ h => h) (by rfl) hHeld ?_ ?_
      rotate_left
      · intro wZ hSw; clear hSw; go_simp; first | (with_reducible rfl) | (rw [if_pos (by omega)]; with_reducible rfl) | skip
      try simp only [Act.put, List.setIfInBounds_toArray, List.set_cons_zero, List.set_cons_succ]
      refine take_dstH (i := 12) (d := 59) (v := ?_) rfl rfl (by kernel_rfl) (by kernel_rfl) (by kernel_rfl) (fun _ _ _ h => h) (by rfl) hHeld ?_ ?_
      rotate_left
      · intro wZ hSw; clear hSw; go_simp; first | (with_reducible rfl) | (rw [if_pos (by omega)]; with_reducible rfl) | skip
      try simp only [Act.put, List.setIfInBounds_toArray, List.set_cons_zero, List.set_cons_succ]
      refine take_dstH (i := 13) (d := 60) (v := ?_) rfl rfl (by kernel_rfl) (by kernel_rfl) (by kernel_rfl) (fun _ _ _ h => h) (by rfl) hHeld ?_ ?_
      rotate_left
      · intro wZ hSw; have hfS := (fun (v : World) (hv : Hid (StC w v g3 m)) => show v.cell? ⟨g3, 2, none⟩ = some (.int .i64 m.c) from hv.out.1.cell 2) wZ hSw; clear hSw; go_simp; first | (with_reducible rfl) | (rw [if_pos (by omega)]; with_reducible rfl) | skip
      try simp only [Act.put, List.setIfInBounds_toArray, List.set_cons_zero, List.set_cons_succ]
      refine take_dstH (i := 14) (d := 61) (v := ?_) rfl rfl (by kernel_rfl) (by kernel_rfl) (by kernel_rfl) (fun _ _ _ h => h) (by rfl) hHeld ?_ ?_
      rotate_left
      · intro wZ hSw; clear hSw; go_simp; first | (with_reducible rfl) | (rw [if_pos (by omega)]; with_reducible rfl) | skip
      try simp only [Act.put, List.setIfInBounds_toArray, List.set_cons_zero, List.set_cons_succ]
      refine take_dstH (i := 15) (d := 62) (v := ?_) rfl rfl (by kernel_rfl) (by kernel_rfl) (by kernel_rfl) (fun _ _ _ h => h) (by rfl) hHeld ?_ ?_
      rotate_left
      · intro wZ hSw; refine exec_min (.tmp 61) (.const (.int .i64 1000)) #[3, 3] ?_ .i64 z 1000 mn ?_ ?_ HMN.out <;> rfl
      try simp only [Act.put, List.setIfInBounds_toArray, List.set_cons_zero, List.set_cons_succ]
      refine take_dstH (i := 16) (d := 63) (v := ?_) rfl rfl (by kernel_rfl) (by kernel_rfl) (by kernel_rfl) (fun _ _ _ h => h) (by rfl) hHeld ?_ ?_
      rotate_left
      · intro wZ hSw; refine exec_max (.const (.int .i64 50)) (.tmp 62) #[3, 3] ?_ .i64 50 mn wt ?_ ?_ HMX.out <;> rfl
      try simp only [Act.put, List.setIfInBounds_toArray, List.set_cons_zero, List.set_cons_succ]
      refine wpAnyH_ready (rs := [10]) (by kernel_rfl) (by simp) ?_
      refine (AllReadyH.cons rfl (fun K hK => ?_) AllReadyH.nil)
      go_simp
      refine (HW.out _).mono ?_; rintro e wa ⟨rfl, hba⟩; have HK : Hid (StC w wa g3 m) := (Hid.out hHeld).kept hba; clear hba
      go_wp2_with fail
      refine hK.out _ _ ?_ (fun hHeld => ?_)
      · exact HK
      clear hK K
      try simp only [Act.put, List.setIfInBounds_toArray, List.set_cons_zero, List.set_cons_succ]
      refine take_dstH (i := 17) (d := 64) (v := ?_) rfl rfl (by kernel_rfl) (by kernel_rfl) (by kernel_rfl) (fun _ _ _ h => h) (by rfl) hHeld ?_ ?_
      rotate_left
      · intro wZ hSw; clear hSw; go_simp; first | (with_reducible rfl) | (rw [if_pos (by omega)]; with_reducible rfl) | skip
      try simp only [Act.put, List.setIfInBounds_toArray, List.set_cons_zero, List.set_cons_succ]
      refine take_dstH (i := 18) (d := 65) (v := ?_) rfl rfl (by kernel_rfl) (by kernel_rfl) (by kernel_rfl) (fun _ _ _ h => h) (by rfl) hHeld ?_ ?_
      rotate_left
      · intro wZ hSw; clear hSw; go_simp; first | (with_reducible rfl) | (rw [if_pos (by omega)]; with_reducible rfl) | skip
      try simp only [Act.put, List.setIfInBounds_toArray, List.set_cons_zero, List.set_cons_succ]
      refine take_dstH (i := 19) (d := 2) (v := ?_) rfl rfl (by kernel_rfl) (by kernel_rfl) (by kernel_rfl) (fun _ _ _ h => h) (by rfl) hHeld ?_ ?_
      rotate_left
      · intro wZ hSw; clear hSw; go_simp; first | (with_reducible rfl) | (rw [if_pos (by omega)]; with_reducible rfl) | skip
      try simp only [Act.put, List.setIfInBounds_toArray, List.set_cons_zero, List.set_cons_succ]
      refine wpAnyH_done (by kernel_rfl) ?_ _
      go_wp2
      go_ret
      exact ⟨rfl, hHeld.out.2.1⟩

theorem walk (s : Int) (w : World) (w1 : (Lit.int .i64 s).wf = true) :
    Calls Try.prog 6 #[.int .i64 s] w fun e w' => e = .returned (.bool true) ∧ Below w.heap.size w w' := by
  by_cases h : Samp s
  · exact walk_yes s w h
  · exact walk_no s w (by omega)

theorem own : ownKnob Try.prog.godebug = none := by kernel_rfl
theorem laidOut : laidOutB Try.prog = true := by kernel_rfl
set_option maxRecDepth 100000 in
theorem lifted (os : Os) (started : os.Started) (H : Type) (enc : TypeId × Value → H) :
    ReturnsInHanded {} Try.checked os 6 .any (Rows.rttCalmSpec.pre6 enc Try.prog Try.f6 Rows.rttCalmRow.domain false) (Rows.rttCalmSpec.post enc Try.prog Try.f6 false true false false) := by
  refine returnsInHanded_of_change (C := Try.checked) own started (by kernel_rfl) Try.func6
    (ChangeSpec.witness6 (enc := enc) (C := Try.checked) false ⟨#[], #[.int .i64 0], []⟩ 8 (by kernel_rfl) (by kernel_rfl) (by kernel_rfl) (by kernel_rfl)) ?_
  intro W base args ds gs before hval0 hW hcnd _
  have hval : ∀ (j : Nat) t v, Try.f6.params[j]? = some t → args[j]? = some v → Value.okWide Try.prog W .any base t v := hval0
  have hW' := hW
  obtain ⟨p, q, hA0, hV, rfl, hfz, hnd⟩ := hW
  have hA : DataW.TrodAll enc Try.prog W 0 (fun _ => true) true Try.f6.params.toList args.toList ds p := hA0
  rw [Try.params6] at hA hval
  obtain ⟨v0, vs0, d0, ds0, p0, q0, hargs, rfl, rfl, h0, r0⟩ := trodAll_cons hA
  obtain ⟨rfl, rfl, rfl⟩ := trodAll_nil r0
  obtain rfl : args = #[v0] := by cases args; simp_all
  obtain ⟨rfl, rfl⟩ := trodVars_none hV
  obtain ⟨a0, rfl, rfl, rfl, w0⟩ := open_int Try.underlying3 (hval 0 3 v0 rfl rfl) h0
  clear hA0 hval0
  refine (walk a0 W w0).mono fun e W' ⟨he, bel⟩ => ?_
  subst he
  exact ⟨_, rfl, _, _, _, [], _, [], hW', trodAll_mk1 (shut_bool Try.underlying4 _), (trodAll_cons_mk (shut_int Try.underlying3 w0) trodAll_mk0), rfl, bel.frame _, fun h => by cases h⟩

theorem over : Rows.rttCalmRow.holds Try.pinned (OpenSpec.ofChange Rows.rttCalmSpec) :=
  OpenClaim.holds_of_wide 6 Try.f6 rfl rfl rfl rfl rfl rfl rfl ⟨rfl, rfl, rfl, rfl, rfl⟩ rfl rfl rfl rfl rfl (by kernel_rfl) Try.func6 (by kernel_rfl)
    (of_decide_eq_true (by kernel_rfl)) (by unfold Func.isWrapper; first | (rw [if_pos (by decide +kernel)]; kernel_rfl) | (rw [if_neg (by decide +kernel)]; exact ⟨rfl, rfl⟩))
    (fun os started H enc _ => lifted os started H enc)

end RttCalmProof

/-- Where all samples are the same, the mean is that, and what they are off falls till it is at most 3. -/
theorem rttCalm_holds : Rows.RttCalmSaid := RttCalmProof.over

#print axioms rttCalm_holds
end Go.Proofs.Ythnbbflpnklbjaa
