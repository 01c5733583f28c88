/-
  Several texts, joined: IV, IW.
-/
import Derived.Test.YtbmjlofehbbkbaaDoorKF
import Derived.Test.YtbmjlofehbbkbaaDoorJX

/- The reference's end of a way: Time, Place, Send. -/
namespace Go.Proofs.YtbmjlofehbbkbaaDoor
open Go.RowKit

set_option maxHeartbeats 1000000 in
theorem rtime_any (a : Int) (w : World) : Calls Tryd.prog 22 #[.int .i64 a] w fun e w' => e = .returned (.bool (decide (IsTime a))) ∧ w' = w := by
  by_cases h1 : 0 ≤ a
  · have d1 : decide (0 ≤ a) = true := by simpa using h1
    by_cases h2 : a ≤ 1099511627776
    · rw [decide_eq_true (show IsTime a from ⟨h1, h2⟩)]
      have d2 : decide (a ≤ 1099511627776) = true := by simpa using h2
      clear h1 h2
      go_enter Tryd.func22, Tryd.ntmps22
      go_wp2
      go_ret
      exact ⟨rfl, rfl⟩
    · rw [decide_eq_false (show ¬ IsTime a from fun h => h2 h.2)]
      have d2 : decide (a ≤ 1099511627776) = false := by simpa using h2
      clear h1 h2
      go_enter Tryd.func22, Tryd.ntmps22
      go_wp2
      go_ret
      exact ⟨rfl, rfl⟩
  · rw [decide_eq_false (show ¬ IsTime a from fun h => h1 h.1)]
    have d1 : decide (0 ≤ a) = false := by simpa using h1
    clear h1
    go_enter Tryd.func22, Tryd.ntmps22
    go_wp2
    go_ret
    exact ⟨rfl, rfl⟩
set_option maxHeartbeats 1000000 in
theorem rplace_any (a : Int) (w : World) : Calls Tryd.prog 6 #[.int .i64 a] w fun e w' => e = .returned (.bool (decide (IsAddr a))) ∧ w' = w := by
  by_cases h1 : 0 ≤ a
  · have d1 : decide (0 ≤ a) = true := by simpa using h1
    by_cases h2 : a ≤ 65535
    · rw [decide_eq_true (show IsAddr a from ⟨h1, h2⟩)]
      have d2 : decide (a ≤ 65535) = true := by simpa using h2
      clear h1 h2
      go_enter Tryd.func6, Tryd.ntmps6
      go_wp2
      go_ret
      exact ⟨rfl, rfl⟩
    · rw [decide_eq_false (show ¬ IsAddr a from fun h => h2 h.2)]
      have d2 : decide (a ≤ 65535) = false := by simpa using h2
      clear h1 h2
      go_enter Tryd.func6, Tryd.ntmps6
      go_wp2
      go_ret
      exact ⟨rfl, rfl⟩
  · rw [decide_eq_false (show ¬ IsAddr a from fun h => h1 h.1)]
    have d1 : decide (0 ≤ a) = false := by simpa using h1
    clear h1
    go_enter Tryd.func6, Tryd.ntmps6
    go_wp2
    go_ret
    exact ⟨rfl, rfl⟩

/-- the reference's cells: the echo's numbers are whatever, where there is none -/
abbrev rlC (L : Lk) (s t : Int) : List Value := [.bool L.down, .int .u64 (L.next : Int), .int .i64 L.addr, .bool L.heard, .int .u64 (L.newest : Int), .int .i64 L.m.a, .int .i64 L.m.b, .int .i64 L.m.c, .bool L.is, .int .i64 s, .int .i64 t]
structure RL (w : World) (g : Nat) (L : Lk) (s t : Int) : Prop where
  a : Arr w g 38 (rlC L s t)
  e : L.is = true → s = L.stamp ∧ t = L.told
  ok : L.ok
theorem RL.kept {w w' : World} {g : Nat} {L : Lk} {s t : Int} (h : RL w g L s t) (hb : Below w.heap.size w w') : RL w' g L s t := ⟨h.a.kept hb, h.e, h.ok⟩
theorem RL.grown {w w' : World} {g k : Nat} {L : Lk} {s t : Int} (h : RL w g L s t) (hg : w.grownBy w' (some k)) (hne : g ≠ k) : RL w' g L s t := ⟨h.a.grown hg hne, h.e, h.ok⟩

theorem reffix2 (x : Nat) (hx : x < 18446744073709551616) (w : World) : Calls Tryd.prog 23 #[.int .u64 (x : Int), .int .i64 2] w fun e w' => ∃ v, e = .returned v ∧ w'.ownsRow w.heap.size 5 1 v 2 (u8s (fx2 x)) ∧ Below w.heap.size w w' := by
  have h := reffix_in x 2 hx (by omega) (by omega) w
  rw [fixF2, ofNat_map] at h
  exact h

/-- what an echo is for a time: the three ways -/
theorem at_cases (L : Lk) (s t now : Int) (h : L.is = true → s = L.stamp ∧ t = L.told) : (L.is = false ∧ L.at now = 65535) ∨ (L.is = true ∧ decide (t ≤ now) = false ∧ L.at now = 65535) ∨ (L.is = true ∧ decide (t ≤ now) = true ∧ decide (now - t ≤ 1000) = false ∧ L.at now = 65535) ∨ (L.is = true ∧ decide (t ≤ now) = true ∧ decide (now - t ≤ 1000) = true ∧ L.at now = (s + now - t) % 65535 ∧ t ≤ now ∧ now - t ≤ 1000) := by
  unfold Lk.at atF
  cases e : L.is
  · exact Or.inl ⟨rfl, by simp⟩
  · obtain ⟨rfl, rfl⟩ := h e
    right
    simp only [decide_eq_true_eq, decide_eq_false_iff_not]
    by_cases h1 : L.told ≤ now
    · right
      by_cases h2 : now - L.told ≤ 1000
      · right
        exact ⟨trivial, h1, h2, by rw [if_pos ⟨trivial, h1, h2⟩]; congr 1; omega, h1, h2⟩
      · left
        exact ⟨trivial, h1, h2, by rw [if_neg (fun h => h2 h.2.2)]⟩
    · left
      exact ⟨trivial, h1, by rw [if_neg (fun h => h1 h.2.1)]⟩

set_option maxHeartbeats 4000000 in
set_option maxRecDepth 100000 in
theorem rsend_bad (g : Nat) (L : Lk) (s t : Int) (p : Option Addr) (c n : Nat) (now : Int) (w : World) (h : RL w g L s t) (hE : seE L now n ≠ 0) :
    Calls Tryd.prog 8 #[.pointer (some ⟨g, 0, none⟩), .int .i64 now, .slice p n c] w fun e w' => e = .returned (.tuple #[.int .u64 0, .slice none 0 0, .int .i64 (seE L now n)]) ∧ w' = w := by
  have HI := hide (fun v : World => rtime_any now v)
  have c1 : w.cell? ⟨g, 1, none⟩ = some (.int .u64 (L.next : Int)) := h.a.cell 1
  unfold seE at hE ⊢
  by_cases ht : IsTime now
  · rw [decide_eq_true ht] at HI
    rw [if_pos ht] at hE ⊢
    by_cases h1 : 1196 < n
    · rw [if_pos h1]
      have d1 : decide ((1196 : Int) < (n : Int)) = true := by simp; omega
      clear ht h h1 hE
      go_enter Tryd.func8, Tryd.ntmps8
      go_wp2_with (refine (HI.out _).mono ?_; rintro r w2 ⟨rfl, rfl⟩)
      go_ret3
      exact ⟨rfl, rfl⟩
    · rw [if_neg h1] at hE ⊢
      have d1 : decide ((1196 : Int) < (n : Int)) = false := by simp; omega
      by_cases h2 : L.next = 9223372036854775808
      · rw [if_pos h2]
        rw [h2] at c1
        clear ht h h1 hE h2
        go_enter Tryd.func8, Tryd.ntmps8
        go_wp2_with (refine (HI.out _).mono ?_; rintro r w2 ⟨rfl, rfl⟩)
        go_ret3
        exact ⟨rfl, rfl⟩
      · rw [if_neg h2] at hE
        exact absurd rfl hE
  · rw [decide_eq_false ht] at HI
    rw [if_neg ht]
    clear ht h hE c1
    go_enter Tryd.func8, Tryd.ntmps8
    go_wp2_with (refine (HI.out _).mono ?_; rintro r w2 ⟨rfl, rfl⟩)
    go_ret3
    exact ⟨rfl, rfl⟩

theorem tail_grown {w w1 w2 : World} {g : Nat} {r : Option Nat} {B : Nat} (h : w.grownBy w1 (some g)) (k : w1.grownBy w2 r) (hB : w.heap.size ≤ B) (hr : ∀ j, r = some j → B ≤ j) : w.grownBy w2 (some g) :=
  ⟨k.os.trans h.os, k.tape.trans h.tape, k.output.trans h.output, Nat.le_trans h.size k.size, fun j hj hne => (k.block j (Nat.lt_of_lt_of_le hj h.size) (fun e => by have := hr j e.symm; omega)).trans (h.block j hj hne)⟩
theorem rlC_next (L : Lk) (s t : Int) (n : Nat) : (rlC L s t).set 1 (.int .u64 (n : Int)) = rlC { L with next := n } s t := rfl
theorem rlC_is (L : Lk) (s t : Int) (b : Bool) : (rlC L s t).set 8 (.bool b) = rlC { L with is := b } s t := rfl

set_option maxHeartbeats 8000000 in
set_option maxRecDepth 100000 in
theorem rsend_of (g : Nat) (L : Lk) (s t : Int) (p : Option Addr) (c n N1 N2 nx : Nat) (text : List Nat) (now : Int) (w : World) (h : RL w g L s t) (ht : IsTime now) (hn2 : n ≤ 1196) (hx : L.next < 9223372036854775808) (hP : Piece w p c text) (hn : text.length = n) (h1 : now % 65535 = (N1 : Int)) (h2 : L.at now = (N2 : Int)) (hnx : nx = L.next + 1) (hne : ∀ a, p = some a → text ≠ [] → a.block ≠ g) :
    Calls Tryd.prog 8 #[.pointer (some ⟨g, 0, none⟩), .int .i64 now, .slice p n c] w fun e w' => ∃ v, e = .returned (.tuple #[.int .u64 (L.next : Int), v, .int .i64 0]) ∧ w'.ownsRow w.heap.size 5 1 v (n + 4) (u8s (fx2 N1 ++ fx2 N2 ++ text)) ∧ Arr w' g 38 (rlC { ({ L with next := nx } : Lk) with is := false } s t) ∧ w.grownBy w' (some g) := by
  have HI := hide (fun v : World => rtime_any now v)
  rw [decide_eq_true ht] at HI
  have hb1 : N1 < 65536 := by omega
  have hb2 : N2 < 65536 := by have : 0 ≤ L.at now ∧ L.at now ≤ 65535 := atF_in L.is L.stamp L.told now; omega
  have HC := hide (at_cases L s t now h.e)
  have HS0 : Hid (L.is = true → 0 ≤ s ∧ s ≤ 65534 ∧ 0 ≤ t ∧ t ≤ 1099511627776) := fun e => by
    obtain ⟨e1, e2⟩ := h.e e
    rw [e1, e2]
    exact ⟨h.ok.s0, h.ok.s1, h.ok.t0, h.ok.t1⟩
  have HA := hide h.a
  have HT := hide ht
  have HF1 := hide (fun v : World => reffix2 N1 (by omega) v)
  have HF2 := hide (fun v : World => reffix2 N2 (by omega) v)
  have HP := hide hP
  have HN := hide hn
  have HN2 := hide hn2
  have L1 := hide (fx2_length N1)
  have L2 := hide (fx2_length N2)
  have B1 := hide (fx2_bytes N1)
  have B2 := hide (fx2_bytes N2)
  have d1 : decide ((1196 : Int) < (n : Int)) = false := by simp; omega
  have d2 : ((L.next : Int) == 9223372036854775808) = false := by simp; omega
  have hm : Int.tmod now 65535 = (N1 : Int) := by rw [Int.tmod_eq_emod_of_nonneg ht.1]; exact h1
  have hw1 : IntKind.u64.wrap (N1 : Int) = (N1 : Int) := by rw [(show ∀ n : Int, IntKind.u64.wrap n = n % 18446744073709551616 from fun n => by simp [IntKind.wrap, IntKind.bits, IntKind.signed])]; omega
  have hw2 : IntKind.u64.wrap (N2 : Int) = (N2 : Int) := by rw [(show ∀ n : Int, IntKind.u64.wrap n = n % 18446744073709551616 from fun n => by simp [IntKind.wrap, IntKind.bits, IntKind.signed])]; omega
  have hw3 : wrap64 (N1 : Int) = (N1 : Int) := by unfold wrap64; omega
  have hwx : IntKind.u64.wrap ((L.next : Int) + 1) = (nx : Int) := by rw [(show ∀ n : Int, IntKind.u64.wrap n = n % 18446744073709551616 from fun n => by simp [IntKind.wrap, IntKind.bits, IntKind.signed])]; omega
  have HH2 := hide h2
  have HNE := hide hne
  have c1 : w.cell? ⟨g, 1, none⟩ = some (.int .u64 (L.next : Int)) := h.a.cell 1
  clear h ht hn2 hx hP hn h1 h2 hnx hb1 hb2 hne
  generalize fx2 N1 = F1 at *
  generalize fx2 N2 = F2 at *
  go_enter Tryd.func8, Tryd.ntmps8
  go_upto_region 8 with (refine (HI.out _).mono ?_; rintro r w2 ⟨rfl, rfl⟩)
  clear HI d1 d2 c1
  obtain ⟨b, hb⟩ : ∃ b, b = (L.is && decide (t ≤ now) && decide (now - t ≤ 1000)) := ⟨_, rfl⟩
  have HBV := hide hb
  clear hb
  go_cut [46] (fun s46 wx => s46 = .bool b ∧ wx = w2)
  case first =>
    have c8 : w2.cell? ⟨g, 8, none⟩ = some (.bool L.is) := HA.out.cell 8
    have c10 : w2.cell? ⟨g, 10, none⟩ = some (.int .i64 t) := HA.out.cell 10
    rcases HC.out with ⟨e1, e2⟩ | ⟨e1, h1, e2⟩ | ⟨e1, h1, h2, e2⟩ | ⟨e1, h1, h2, e2, h3, h4⟩
    · rw [e1] at c8
      go_wp2
      go_meet
      case rel => exact ⟨by rw [HBV.out, e1]; rfl, rfl⟩
    · rw [e1] at c8
      go_wp2
      go_meet
      case rel => exact ⟨by rw [HBV.out, e1, h1]; rfl, rfl⟩
    · rw [e1] at c8
      have hwt : wrap64 (now - t) = now - t := by
        have h5 := HT.out
        have h6 := HS0.out e1
        unfold wrap64; omega
      go_wp2
      go_meet
      case rel => exact ⟨by rw [HBV.out, e1, h1, h2]; rfl, rfl⟩
    · rw [e1] at c8
      have hwt : wrap64 (now - t) = now - t := by
        have h5 := HT.out
        have h6 := HS0.out e1
        unfold wrap64; omega
      go_wp2
      go_meet
      case rel => exact ⟨by rw [HBV.out, e1, h1, h2]; rfl, rfl⟩
  case rest =>
    obtain ⟨rfl, hwc⟩ := hcut
    obtain rfl : w2 = wc := hwc.symm
    go_upto_if 46 with fail
    go_cut [9] (fun s9 wx => s9 = .int .i64 (N2 : Int) ∧ Hid (Below w2.heap.size w2 wx))
    case first =>
      cases hbb : b
      · have hN : (65535 : Int) = (N2 : Int) := by
          rw [← HH2.out]
          rcases HC.out with ⟨e1, e2⟩ | ⟨e1, h1, e2⟩ | ⟨e1, h1, h2, e2⟩ | ⟨e1, h1, h2, e2, h3, h4⟩
          · exact e2.symm
          · exact e2.symm
          · exact e2.symm
          · have := HBV.out; rw [hbb, e1, h1, h2] at this; cases this
        go_wp2
        go_meet
        case rel => exact ⟨rfl, Below.refl _ _⟩
      · have HF4 : Hid (IntKind.i64.wrap (s + now) = s + now ∧ IntKind.i64.wrap (s + now - t) = s + now - t ∧ Int.tmod (s + now - t) 65535 = (N2 : Int) ∧ IntKind.i64.wrap (N2 : Int) = (N2 : Int)) := by
          have h5 := HT.out
          rcases HC.out with ⟨e1, e2⟩ | ⟨e1, h1, e2⟩ | ⟨e1, h1, h2, e2⟩ | ⟨e1, h1, h2, e2, h3, h4⟩
          · have := HBV.out; rw [hbb, e1] at this; cases this
          · have := HBV.out; rw [hbb, e1, h1] at this; cases this
          · have := HBV.out; rw [hbb, e1, h1, h2] at this; cases this
          · have h6 := HS0.out e1
            have h7 := HH2.out
            rw [e2] at h7
            refine ⟨by rw [IntKind.wrap_i64]; omega, by rw [IntKind.wrap_i64]; omega, by rw [Int.tmod_eq_emod_of_nonneg (by omega)]; exact h7, by rw [IntKind.wrap_i64]; omega⟩
        obtain ⟨f1, f2, f3, f4⟩ := HF4.out
        have hs9 : Hid (∀ v, Hid (v = w2.drew) → v.cell? ⟨g, 9, none⟩ = some (.int .i64 s)) := fun v hv => by rw [hv.out]; exact HA.out.cell 9
        have ht10 : Hid (∀ v, Hid (v = w2.drew) → v.cell? ⟨g, 10, none⟩ = some (.int .i64 t)) := fun v hv => by rw [hv.out]; exact HA.out.cell 10
        go_upto_region 9 with fail
        refine wp_region_held_drew (S := fun v => Hid (v = w2.drew)) (by kernel_rfl) (hide rfl) (fun hHeld => ?_)
        refine take_dstH (i := 0) (d := 47) (v := ?_) rfl rfl (by kernel_rfl) (by kernel_rfl) (by kernel_rfl) (fun _ _ _ h => h) (by rfl) hHeld ?_ ?_
        rotate_left
        · intro wZ hSw; clear hSw; go_simp; first | (with_reducible rfl) | (rw [if_pos (by omega)]; with_reducible rfl) | skip
        try simp only [Act.put, List.setIfInBounds_toArray, List.set_cons_zero, List.set_cons_succ]
        refine take_dstH (i := 1) (d := 48) (v := ?_) rfl rfl (by kernel_rfl) (by kernel_rfl) (by kernel_rfl) (fun _ _ _ h => h) (by rfl) hHeld ?_ ?_
        rotate_left
        · intro wZ hSw; clear hSw; go_simp; first | (with_reducible rfl) | (rw [if_pos (by omega)]; with_reducible rfl) | skip
        try simp only [Act.put, List.setIfInBounds_toArray, List.set_cons_zero, List.set_cons_succ]
        refine take_dstH (i := 2) (d := 49) (v := ?_) rfl rfl (by kernel_rfl) (by kernel_rfl) (by kernel_rfl) (fun _ _ _ h => h) (by rfl) hHeld ?_ ?_
        rotate_left
        · intro wZ hSw; clear hSw; go_simp; first | (with_reducible rfl) | (rw [if_pos (by omega)]; with_reducible rfl) | skip
        try simp only [Act.put, List.setIfInBounds_toArray, List.set_cons_zero, List.set_cons_succ]
        refine take_dstH (i := 3) (d := 50) (v := ?_) rfl rfl (by kernel_rfl) (by kernel_rfl) (by kernel_rfl) (fun _ _ _ h => h) (by rfl) hHeld ?_ ?_
        rotate_left
        · intro wZ hSw; have hfS := hs9.out wZ hSw; clear hSw; go_simp; first | (with_reducible rfl) | (rw [if_pos (by omega)]; with_reducible rfl) | skip
        try simp only [Act.put, List.setIfInBounds_toArray, List.set_cons_zero, List.set_cons_succ]
        refine take_dstH (i := 4) (d := 51) (v := ?_) rfl rfl (by kernel_rfl) (by kernel_rfl) (by kernel_rfl) (fun _ _ _ h => h) (by rfl) hHeld ?_ ?_
        rotate_left
        · intro wZ hSw; clear hSw; go_simp; first | (with_reducible rfl) | (rw [if_pos (by omega)]; with_reducible rfl) | skip
        try simp only [Act.put, List.setIfInBounds_toArray, List.set_cons_zero, List.set_cons_succ]
        refine take_dstH (i := 5) (d := 52) (v := ?_) rfl rfl (by kernel_rfl) (by kernel_rfl) (by kernel_rfl) (fun _ _ _ h => h) (by rfl) hHeld ?_ ?_
        rotate_left
        · intro wZ hSw; clear hSw; go_simp; first | (with_reducible rfl) | (rw [if_pos (by omega)]; with_reducible rfl) | skip
        try simp only [Act.put, List.setIfInBounds_toArray, List.set_cons_zero, List.set_cons_succ]
        refine take_dstH (i := 6) (d := 53) (v := ?_) rfl rfl (by kernel_rfl) (by kernel_rfl) (by kernel_rfl) (fun _ _ _ h => h) (by rfl) hHeld ?_ ?_
        rotate_left
        · intro wZ hSw; clear hSw; go_simp; first | (with_reducible rfl) | (rw [if_pos (by omega)]; with_reducible rfl) | skip
        try simp only [Act.put, List.setIfInBounds_toArray, List.set_cons_zero, List.set_cons_succ]
        refine take_dstH (i := 7) (d := 54) (v := ?_) rfl rfl (by kernel_rfl) (by kernel_rfl) (by kernel_rfl) (fun _ _ _ h => h) (by rfl) hHeld ?_ ?_
        rotate_left
        · intro wZ hSw; clear hSw; go_simp; first | (with_reducible rfl) | (rw [if_pos (by omega)]; with_reducible rfl) | skip
        try simp only [Act.put, List.setIfInBounds_toArray, List.set_cons_zero, List.set_cons_succ]
        refine take_dstH (i := 8) (d := 55) (v := ?_) rfl rfl (by kernel_rfl) (by kernel_rfl) (by kernel_rfl) (fun _ _ _ h => h) (by rfl) hHeld ?_ ?_
        rotate_left
        · intro wZ hSw; clear hSw; go_simp; first | (with_reducible rfl) | (rw [if_pos (by omega)]; with_reducible rfl) | skip
        try simp only [Act.put, List.setIfInBounds_toArray, List.set_cons_zero, List.set_cons_succ]
        refine take_dstH (i := 9) (d := 56) (v := ?_) rfl rfl (by kernel_rfl) (by kernel_rfl) (by kernel_rfl) (fun _ _ _ h => h) (by rfl) hHeld ?_ ?_
        rotate_left
        · intro wZ hSw; have hfS := ht10.out wZ hSw; clear hSw; go_simp; first | (with_reducible rfl) | (rw [if_pos (by omega)]; with_reducible rfl) | skip
        try simp only [Act.put, List.setIfInBounds_toArray, List.set_cons_zero, List.set_cons_succ]
        refine take_dstH (i := 10) (d := 57) (v := ?_) rfl rfl (by kernel_rfl) (by kernel_rfl) (by kernel_rfl) (fun _ _ _ h => h) (by rfl) hHeld ?_ ?_
        rotate_left
        · intro wZ hSw; clear hSw; go_simp; first | (with_reducible rfl) | (rw [if_pos (by omega)]; with_reducible rfl) | skip
        try simp only [Act.put, List.setIfInBounds_toArray, List.set_cons_zero, List.set_cons_succ]
        refine take_dstH (i := 11) (d := 58) (v := ?_) rfl rfl (by kernel_rfl) (by kernel_rfl) (by kernel_rfl) (fun _ _ _ h => h) (by rfl) hHeld ?_ ?_
        rotate_left
        · intro wZ hSw; clear hSw; go_simp; first | (with_reducible rfl) | (rw [if_pos (by omega)]; with_reducible rfl) | skip
        try simp only [Act.put, List.setIfInBounds_toArray, List.set_cons_zero, List.set_cons_succ]
        refine take_dstH (i := 12) (d := 9) (v := ?_) rfl rfl (by kernel_rfl) (by kernel_rfl) (by kernel_rfl) (fun _ _ _ h => h) (by rfl) hHeld ?_ ?_
        rotate_left
        · intro wZ hSw; clear hSw; go_simp; first | (with_reducible rfl) | (rw [if_pos (by omega)]; with_reducible rfl) | skip
        try simp only [Act.put, List.setIfInBounds_toArray, List.set_cons_zero, List.set_cons_succ]
        refine wpAnyH_done (by kernel_rfl) ?_ _
        go_wp2_with fail
        go_meet
        case rel => exact ⟨rfl, (Below.refl _ _).drew⟩
    case rest =>
      obtain ⟨rfl, HWB⟩ := hcut
      have HAB := hide (HA.out.kept HWB.out)
      have HPB := hide (HP.out.kept HWB.out)
      have HPN := HNE
      clear HC HS0 HBV HT HH2 HA HP
      go_wp2_with fail
      refine (HF1.out _).mono ?_
      rintro r w3 ⟨v1, rfl, ho1, hb3⟩
      have O1 := hide ho1
      have HB3 := hide hb3
      clear ho1 hb3
      go_wp2_with fail
      refine (HF2.out w3).mono ?_
      rintro r w4 ⟨v2, rfl, ho2, hb4⟩
      have O2 : Hid (w4.ownsRow w3.heap.size 5 1 v2 2 (u8s F2)) := ho2
      have O1' : Hid (w4.ownsRow wc.heap.size 5 1 v1 2 (u8s F1)) := own_below O1.out hb4
      have HB4 : Hid (Below wc.heap.size wc w4) := HB3.out.trans (hb4.mono HB3.out.size)
      clear ho2 hb4 O1 HB3
      obtain ⟨p2, c2, rfl, hp2, _⟩ := own_piece_n O2.out L2.out B2.out
      have P2 := hide hp2
      clear hp2
      have HL12 : Hid ((F1 ++ F2).length = 4) := by show _ = _; rw [List.length_append, L1.out, L2.out]
      go_upto_region 11 with (at_builtin; refine wpList_append_bytes rfl (.tmp 62) (.tmp 65) rfl wc.heap.size v1 F1 rfl 2 L1.out O1'.out p2 2 c2 F2 L2.out rfl P2.out.1 P2.out.2.1 (by omega) HB4.out.size ?_; intro v5 w5 hown hgrow; have O5 := hide hown; have HB5 : Hid (Below wc.heap.size wc w5) := HB4.out.grown hgrow HB4.out.size (fun k hk => (O1'.out.lt k hk).1); clear hown hgrow)
      have HA5 := hide (HAB.out.kept HB5.out)
      have c1 : w5.cell? ⟨g, 1, none⟩ = some (.int .u64 (L.next : Int)) := HA5.out.cell 1
      have f1 := HA5.out.frozen 1
      have HA6 := hide (HA5.out.set 1 (.int .u64 (nx : Int)))
      rw [rlC_next] at HA6
      have HG6 : Hid (wc.grownBy (w5.setCell ⟨g, 1, none⟩ (.int .u64 (nx : Int))) (some g)) := grown_trans (below_grown HB5.out _) (lk_grown_set _ _ _ _)
      have O6 := hide (O5.out.kept (lk_grown_set w5 g 1 (.int .u64 (nx : Int))) (.inr (own_ne_arr O5.out HA5.out (by decide))))
      go_upto_region 13 with fail
      clear c1 f1 O5 HA5 HB5
      generalize w5.setCell ⟨g, 1, none⟩ (.int .u64 (nx : Int)) = w6 at *
      have c8 : w6.cell? ⟨g, 8, none⟩ = some (.bool L.is) := HA6.out.cell 8
      have f8 := HA6.out.frozen 8
      have HA7 := hide (HA6.out.set 8 (.bool false))
      rw [rlC_is] at HA7
      have HG7 : Hid (wc.grownBy (w6.setCell ⟨g, 8, none⟩ (.bool false)) (some g)) := grown_trans HG6.out (lk_grown_set _ _ _ _)
      have O7 := hide (O6.out.kept (lk_grown_set w6 g 8 (.bool false)) (.inr (own_ne_arr O6.out HA6.out (by decide))))
      have HP7 : Hid (BI (w6.setCell ⟨g, 8, none⟩ (.bool false)) p text ∧ (p = none → c = 0)) := ⟨bi_grown (HPB.out.1) HG7.out HPN.out, HPB.out.2.1⟩
      go_upto_region 14 with fail
      clear c8 f8 O6 HA6 HG6
      generalize w6.setCell ⟨g, 8, none⟩ (.bool false) = w7 at *
      go_wp2_with (at_builtin; refine wpList_append_bytes rfl (.tmp 82) (.tmp 83) rfl wc.heap.size v5 (F1 ++ F2) rfl 4 HL12.out O7.out p n c text HN.out rfl HP7.out.1 HP7.out.2 (by have := HN2.out; omega) HG7.out.size ?_; intro v8 w8 hown hgrow; have O8 := hide hown; have HG8 := hide hgrow; clear hown hgrow)
      go_ret3
      exact ⟨v8, rfl, own_base (show World.ownsRow _ _ _ _ _ _ _ by rw [Nat.add_comm, ← List.append_assoc]; exact O8.out) HWB.out.size, HA7.out.keptR HG8.out (own_ne_any O7.out HA7.out (by decide)), tail_grown (grown_trans (below_grown HWB.out _) HG7.out) HG8.out HWB.out.size (fun k hk => (O7.out.lt k hk).1)⟩

/-- the reference's Send, whole -/
theorem rsend_ok (g : Nat) (L : Lk) (s t : Int) (p : Option Addr) (c n : Nat) (text : List Nat) (now : Int) (w : World) (h : RL w g L s t) (hP : Piece w p c text) (hn : text.length = n) (hE : seE L now n = 0) (hne : ∀ a, p = some a → text ≠ [] → a.block ≠ g) :
    Calls Tryd.prog 8 #[.pointer (some ⟨g, 0, none⟩), .int .i64 now, .slice p n c] w fun e w' => ∃ v, e = .returned (.tuple #[.int .u64 (L.next : Int), v, .int .i64 0]) ∧ w'.ownsRow w.heap.size 5 1 v (n + 4) (u8s (sndT L now text)) ∧ RL w' g L.sent s t ∧ w.grownBy w' (some g) := by
  have ht : IsTime now := by
    by_cases ht : IsTime now
    · exact ht
    · unfold seE at hE; rw [if_neg ht] at hE; cases hE
  unfold seE at hE
  rw [if_pos ht] at hE
  have h1 : ¬ 1196 < n := fun h1 => by rw [if_pos h1] at hE; cases hE
  rw [if_neg h1] at hE
  have h2 : L.next ≠ 9223372036854775808 := fun h2 => by rw [if_pos h2] at hE; cases hE
  have hx : L.next < 9223372036854775808 := by have := h.ok.next; omega
  have hi : 0 ≤ L.at now ∧ L.at now ≤ 65535 := atF_in L.is L.stamp L.told now
  have hR := rsend_of g L s t p c n (now % 65535).toNat (L.at now).toNat (L.next + 1) text now w h ht (by omega) hx hP hn (by omega) (by omega) rfl hne
  refine hR.mono ?_
  rintro e w' ⟨v, h3, h4, h5, h6⟩
  exact ⟨v, h3, h4, ⟨h5, (fun e => by cases e), Lk.sent_ok h.ok hx⟩, h6⟩

end Go.Proofs.YtbmjlofehbbkbaaDoor

/- The reference's Hear. -/
namespace Go.Proofs.YtbmjlofehbbkbaaDoor
open Go.RowKit

set_option maxHeartbeats 4000000 in
set_option maxRecDepth 100000 in
theorem rhear_arg (g : Nat) (d : Bool) (m : Nat) (p : Option Addr) (n c : Nat) (E now frm : Int) (w : World) (h : ¬ (IsTime now ∧ IsAddr frm)) :
    Calls Tryd.prog 31 #[.pointer (some ⟨g, 0, none⟩), .int .i64 now, .int .i64 frm, noV d m, .slice p n c, .int .i64 E] w fun e w' => e = .returned (.tuple #[.slice none 0 0, .bool false, .int .i64 2]) ∧ Below w.heap.size w w' := by
  have HI := hide (fun v : World => rtime_any now v)
  have HJ := hide (fun v : World => rplace_any frm v)
  have HB : Hid (Below w.heap.size w (w.alloc (Obj.cells #[Value.bool d, Value.int .u64 (m : Int)] 41))) := (Below.refl _ _).alloc (Nat.le_refl _) _
  by_cases h1 : IsTime now
  · have h2 : ¬ IsAddr frm := fun e => h ⟨h1, e⟩
    rw [decide_eq_true h1] at HI
    rw [decide_eq_false h2] at HJ
    clear h1 h2 h
    go_enter Tryd.func31, Tryd.ntmps31
    go_upto_region 1 with fail
    generalize w.alloc (Obj.cells #[Value.bool d, Value.int .u64 (m : Int)] 41) = w1 at *
    go_wp2_with (first
      | (refine (HI.out _).mono ?_; rintro r w2 ⟨rfl, rfl⟩)
      | (refine (HJ.out _).mono ?_; rintro r w3 ⟨rfl, rfl⟩))
    go_ret3
    exact ⟨rfl, HB.out⟩
  · rw [decide_eq_false h1] at HI
    clear h1 h HJ
    go_enter Tryd.func31, Tryd.ntmps31
    go_upto_region 1 with fail
    generalize w.alloc (Obj.cells #[Value.bool d, Value.int .u64 (m : Int)] 41) = w1 at *
    go_wp2_with (refine (HI.out _).mono ?_; rintro r w2 ⟨rfl, rfl⟩)
    go_ret3
    exact ⟨rfl, HB.out⟩

set_option maxHeartbeats 4000000 in
set_option maxRecDepth 100000 in
theorem rhear_err (g : Nat) (d : Bool) (m : Nat) (p : Option Addr) (n c : Nat) (E now frm : Int) (w : World) (h1 : IsTime now) (h2 : IsAddr frm) (hE : E ≠ 0) :
    Calls Tryd.prog 31 #[.pointer (some ⟨g, 0, none⟩), .int .i64 now, .int .i64 frm, noV d m, .slice p n c, .int .i64 E] w fun e w' => e = .returned (.tuple #[.slice none 0 0, .bool false, .int .i64 E]) ∧ Below w.heap.size w w' := by
  have HI := hide (fun v : World => rtime_any now v)
  have HJ := hide (fun v : World => rplace_any frm v)
  have HB : Hid (Below w.heap.size w (w.alloc (Obj.cells #[Value.bool d, Value.int .u64 (m : Int)] 41))) := (Below.refl _ _).alloc (Nat.le_refl _) _
  rw [decide_eq_true h1] at HI
  rw [decide_eq_true h2] at HJ
  have e1 : (E != 0) = true := by simpa using hE
  clear h1 h2 hE
  go_enter Tryd.func31, Tryd.ntmps31
  go_upto_region 1 with fail
  generalize w.alloc (Obj.cells #[Value.bool d, Value.int .u64 (m : Int)] 41) = w1 at *
  go_wp2_with (first
    | (refine (HI.out _).mono ?_; rintro r w2 ⟨rfl, rfl⟩)
    | (refine (HJ.out _).mono ?_; rintro r w3 ⟨rfl, rfl⟩))
  go_ret3
  exact ⟨rfl, HB.out⟩

/-- what lies in memory while the reference takes a packet -/
structure RkS (w wx : World) (g G : Nat) (K : Lk) (s t : Int) (d : Bool) (m : Nat) : Prop where
  l : Arr wx g 38 (rlC K s t)
  p : Arr wx G 41 (noC d m)
  b : w.grownBy wx (some g)
theorem RkS.set {w wx : World} {g G : Nat} {K : Lk} {s t : Int} {d : Bool} {m : Nat} (h : RkS w wx g G K s t d m) (i : Nat) (v : Value) {K' : Lk} {s' t' : Int} (hv : (rlC K s t).set i v = rlC K' s' t') : RkS w (wx.setCell ⟨g, i, none⟩ v) g G K' s' t' d m := by
  have h1 := h.l.set i v
  rw [hv] at h1
  exact ⟨h1, h.p.grown (lk_grown_set _ _ _ _) (arr_ne h.p h.l (by decide)), grown_trans h.b (lk_grown_set _ _ _ _)⟩
theorem RkS.kept {w wx w' : World} {g G : Nat} {K : Lk} {s t : Int} {d : Bool} {m : Nat} (h : RkS w wx g G K s t d m) (hb : Below wx.heap.size wx w') : RkS w w' g G K s t d m := ⟨h.l.kept hb, h.p.kept hb, grown_trans h.b (below_grown hb _)⟩
theorem rlC_met (K : Lk) (s t : Int) (m : Me) : (rlC K s t).take 5 ++ (meC m).toArray.toList ++ (rlC K s t).drop (5 + (meC m).toArray.size) = rlC { K with m := m } s t := rfl
theorem rl_met {w : World} {g : Nat} {K : Lk} {s t : Int} (h : Arr w g 38 (rlC K s t)) : w.rangeAt g 5 (meC K.m) := fun j v hv => by
  have hj : j < 3 := (List.getElem?_eq_some_iff.1 hv).1
  rw [h.cell, ← hv]
  match j, hj with
  | 0, _ => rfl
  | 1, _ => rfl
  | 2, _ => rfl

/-- the error of a packet's direction and parts -/
def rhE (L : Lk) (d : Bool) (T : List Nat) : Int := if d = L.down then 90 else partsE T

theorem took_eq' {T : Lk} {n : Nat} (hf : T.fresh n = true) (s x now frm : Int) : T.took n s x now frm = { T with heard := true, newest := n, addr := if T.down then frm else T.addr, is := true, stamp := s, told := now, m := metF T.m x now } := by unfold Lk.took; rw [if_pos hf]
/-- two bytes reckoned -/
theorem two_bytes {T : List Nat} (hb : BytesN T) (i : Nat) : ∃ x y : Nat, T.getD i 0 = x ∧ T.getD (i + 1) 0 = y ∧ x < 256 ∧ y < 256 ∧ wrap64 (x : Int) = (x : Int) ∧ wrap64 (y : Int) = (y : Int) ∧ IntKind.i64.wrap (x : Int) = (x : Int) ∧ IntKind.i64.wrap (y : Int) = (y : Int) ∧ IntKind.i64.wrap ((x : Int) * 256) = (x : Int) * 256 ∧ IntKind.i64.wrap ((x : Int) * 256 + (y : Int)) = rd2 T i := by
  refine ⟨_, _, rfl, rfl, getD_byte hb i, getD_byte hb (i + 1), ?_⟩
  have h1 := getD_byte hb i
  have h2 := getD_byte hb (i + 1)
  unfold rd2
  refine ⟨by unfold wrap64; omega, by unfold wrap64; omega, by rw [IntKind.wrap_i64]; omega, by rw [IntKind.wrap_i64]; omega, by rw [IntKind.wrap_i64]; omega, by rw [IntKind.wrap_i64]; omega⟩

/-- how the reference reckons a way -/
theorem ref_way (now X : Int) (hn : IsTime now) (hX : 0 ≤ X ∧ X ≤ 65535) (hx : ¬ X = 65535) : ∃ tk way : Int, wrap64 (now - X) = now - X ∧ Int.tmod (now - X) 65535 = tk ∧ wrap64 tk = tk ∧ ((now - X) % 65535 = way ∧ (0 ≤ way ∧ way < 65535) ∧ ((decide (tk < 0) = false ∧ tk = way) ∨ (decide (tk < 0) = true ∧ wrap64 (tk + 65535) = way))) := by
  have h0 := hn.1
  have h1 := hn.2
  have h2 := hX.1
  have h3 := hX.2
  by_cases h : X ≤ now
  · have e : Int.tmod (now - X) 65535 = (now - X) % 65535 := Int.tmod_eq_emod_of_nonneg (by omega)
    refine ⟨_, _, by unfold wrap64; omega, e, by unfold wrap64; omega, rfl, by omega, Or.inl ⟨by simp; omega, rfl⟩⟩
  · have e : Int.tmod (now - X) 65535 = now - X := by
      rw [show now - X = -(X - now) by omega, Int.neg_tmod, Int.tmod_eq_emod_of_nonneg (by omega), Int.emod_eq_of_lt (by omega) (by omega)]
    refine ⟨_, (now - X) % 65535, by unfold wrap64; omega, e, by unfold wrap64; omega, rfl, by omega, Or.inr ⟨by simp; omega, by unfold wrap64; omega⟩⟩

set_option maxHeartbeats 16000000 in
set_option maxRecDepth 100000 in
theorem rhear_of (g : Nat) (L LT : Lk) (s t S X E : Int) (d : Bool) (m : Nat) (p : Option Addr) (c n : Nat) (T : List Nat) (now frm : Int) (w : World) (h : RL w g L s t) (h1 : IsTime now) (h2 : IsAddr frm) (hP : Piece w p c T) (hn : T.length = n) (hn2 : n ≤ 90000) (hS : rd2 T 0 = S) (hX : rd2 T 2 = X) (hLT : L.took m S X now frm = LT) (hm : m < 9223372036854775808) (hEE : rhE L d T = E) :
    Calls Tryd.prog 31 #[.pointer (some ⟨g, 0, none⟩), .int .i64 now, .int .i64 frm, noV d m, .slice p n c, .int .i64 0] w fun e w' =>
      (E ≠ 0 → e = .returned (.tuple #[.slice none 0 0, .bool false, .int .i64 E]) ∧ Below w.heap.size w w') ∧ (E = 0 → e = .returned (.tuple #[.slice (cutP p 4 c) (n - 4) (c - 4), .bool (L.fresh m), .int .i64 0]) ∧ (∃ s' t', RL w' g LT s' t') ∧ w.grownBy w' (some g)) := by
  have HI := hide (fun v : World => rtime_any now v)
  have HJ := hide (fun v : World => rplace_any frm v)
  rw [decide_eq_true h1] at HI
  rw [decide_eq_true h2] at HJ
  have A1 : Hid (Arr (w.alloc (Obj.cells #[Value.bool d, Value.int .u64 (m : Int)] 41)) w.heap.size 41 (noC d m) ∧ Below w.heap.size w (w.alloc (Obj.cells #[Value.bool d, Value.int .u64 (m : Int)] 41))) := ⟨Arr.new w _ _, (Below.refl _ _).alloc (Nat.le_refl _) _⟩
  have HRL := hide h
  have HR := hide (fun (v : World) (hb : Below w.heap.size w v) => (h.kept hb).a)
  have HPv := hide (fun (v : World) (hb : Below w.heap.size w v) => hP.kept hb)
  have HN := hide hn
  have HN2 := hide hn2
  have HD : Hid ((d == L.down) = decide (d = L.down)) := by cases d <;> cases L.down <;> rfl
  have HT := hide h1
  have HAD := hide h2
  have HTN := hide h1
  have HXB : Hid (0 ≤ X ∧ X ≤ 65535) := by
    have := rd2_in hP.2.2.1 2
    rw [hX] at this
    show _ ∧ _
    omega
  have HTB := hide hP.2.2.1
  have HSX := hide (And.intro hS hX)
  have HLT := hide hLT
  have HM := hide hm
  clear h h1 h2 hP hn hn2 hS hX hLT hm
  go_enter Tryd.func31, Tryd.ntmps31
  go_upto_region 1 with fail
  generalize w.alloc (Obj.cells #[Value.bool d, Value.int .u64 (m : Int)] 41) = w1 at *
  go_upto_region 5 with (first
    | (refine (HI.out _).mono ?_; rintro r w2 ⟨rfl, rfl⟩)
    | (refine (HJ.out _).mono ?_; rintro r w3 ⟨rfl, rfl⟩))
  clear HI HJ
  have A3 := A1
  clear A1
  have hn0 : Hid (∀ v, Hid (Below w.heap.size w v ∧ Arr v w.heap.size 41 (noC d m)) → v.cell? ⟨w.heap.size, 0, none⟩ = some (.bool d)) := fun v hv => hv.out.2.cell 0
  have hn1 : Hid (∀ v, Hid (Below w.heap.size w v ∧ Arr v w.heap.size 41 (noC d m)) → v.cell? ⟨w.heap.size, 1, none⟩ = some (.int .u64 (m : Int))) := fun v hv => hv.out.2.cell 1
  have hl0 : Hid (∀ v, Hid (Below w.heap.size w v ∧ Arr v w.heap.size 41 (noC d m)) → v.cell? ⟨g, 0, none⟩ = some (.bool L.down)) := fun v hv => (HR.out v hv.out.1).cell 0
  refine wp_region_held_drew (S := fun v => Hid (Below w.heap.size w v ∧ Arr v w.heap.size 41 (noC d m))) (by kernel_rfl) (hide ⟨A3.out.2.drew, A3.out.1⟩) (fun hHeld => ?_)
  refine take_dstH (i := 0) (d := 29) (v := ?_) rfl rfl (by kernel_rfl) (by kernel_rfl) (by kernel_rfl) (fun _ _ _ h => h) (by rfl) hHeld ?_ ?_
  rotate_left
  · intro wZ hSw; clear hSw; go_simp; first | (with_reducible rfl) | (rw [if_pos (by omega)]; with_reducible rfl) | skip
  try simp only [Act.put, List.setIfInBounds_toArray, List.set_cons_zero, List.set_cons_succ]
  refine take_dstH (i := 1) (d := 30) (v := ?_) rfl rfl (by kernel_rfl) (by kernel_rfl) (by kernel_rfl) (fun _ _ _ h => h) (by rfl) hHeld ?_ ?_
  rotate_left
  · intro wZ hSw; have hfS := hn0.out wZ hSw; clear hSw; go_simp; first | (with_reducible rfl) | (rw [if_pos (by omega)]; with_reducible rfl) | skip
  try simp only [Act.put, List.setIfInBounds_toArray, List.set_cons_zero, List.set_cons_succ]
  refine take_dstH (i := 2) (d := 31) (v := ?_) rfl rfl (by kernel_rfl) (by kernel_rfl) (by kernel_rfl) (fun _ _ _ h => h) (by rfl) hHeld ?_ ?_
  rotate_left
  · intro wZ hSw; clear hSw; go_simp; first | (with_reducible rfl) | (rw [if_pos (by omega)]; with_reducible rfl) | skip
  try simp only [Act.put, List.setIfInBounds_toArray, List.set_cons_zero, List.set_cons_succ]
  refine take_dstH (i := 3) (d := 32) (v := ?_) rfl rfl (by kernel_rfl) (by kernel_rfl) (by kernel_rfl) (fun _ _ _ h => h) (by rfl) hHeld ?_ ?_
  rotate_left
  · intro wZ hSw; clear hSw; go_simp; first | (with_reducible rfl) | (rw [if_pos (by omega)]; with_reducible rfl) | skip
  try simp only [Act.put, List.setIfInBounds_toArray, List.set_cons_zero, List.set_cons_succ]
  refine take_dstH (i := 4) (d := 33) (v := ?_) rfl rfl (by kernel_rfl) (by kernel_rfl) (by kernel_rfl) (fun _ _ _ h => h) (by rfl) hHeld ?_ ?_
  rotate_left
  · intro wZ hSw; clear hSw; go_simp; first | (with_reducible rfl) | (rw [if_pos (by omega)]; with_reducible rfl) | skip
  try simp only [Act.put, List.setIfInBounds_toArray, List.set_cons_zero, List.set_cons_succ]
  refine take_dstH (i := 5) (d := 34) (v := ?_) rfl rfl (by kernel_rfl) (by kernel_rfl) (by kernel_rfl) (fun _ _ _ h => h) (by rfl) hHeld ?_ ?_
  rotate_left
  · intro wZ hSw; have hfS := hl0.out wZ hSw; clear hSw; go_simp; first | (with_reducible rfl) | (rw [if_pos (by omega)]; with_reducible rfl) | skip
  try simp only [Act.put, List.setIfInBounds_toArray, List.set_cons_zero, List.set_cons_succ]
  refine take_dstH (i := 6) (d := 35) (v := ?_) rfl rfl (by kernel_rfl) (by kernel_rfl) (by kernel_rfl) (fun _ _ _ h => h) (by rfl) hHeld ?_ ?_
  rotate_left
  · intro wZ hSw; clear hSw; go_simp; first | (with_reducible rfl) | (rw [if_pos (by omega)]; with_reducible rfl) | skip
  try simp only [Act.put, List.setIfInBounds_toArray, List.set_cons_zero, List.set_cons_succ]
  refine wpAnyH_done (by kernel_rfl) ?_ _
  have H5 := hHeld
  clear hHeld A3 hl0
  generalize w3.drew = w5 at *
  obtain ⟨r, hr⟩ : ∃ r, decide (d = L.down) = r := ⟨_, rfl⟩
  have hdr := HD.out
  rw [hr] at hdr
  have HRE : Hid (E = if r = true then 90 else partsE T) := by show E = _; rw [← hEE]; unfold rhE; rw [← hr]; simp
  clear hr HD hEE
  simp only [hdr]
  clear hdr
  cases r
  · have HEP : Hid (E = partsE T) := HRE.out.trans (if_neg (by decide))
    clear HRE
    by_cases h4 : n < 4
    · have d1 : decide ((n : Int) < 4) = true := by simp; omega
      have HE4 : Hid (E = 4) := by show E = _; rw [HEP.out]; unfold partsE; rw [if_pos (Or.inl (by rw [HN.out]; exact h4))]
      clear h4
      go_wp2
      go_ret3
      obtain rfl : E = 4 := HE4.out
      exact ⟨fun _ => ⟨rfl, H5.out.1⟩, fun e => absurd e (by decide)⟩
    · have d1 : decide ((n : Int) < 4) = false := by simp; omega
      have HN4 : Hid (4 ≤ n) := by show 4 ≤ n; omega
      obtain ⟨q, o, rfl, hcell⟩ : ∃ q o, p = some ⟨q, o, none⟩ ∧ ∀ v, Hid (Below w.heap.size w v ∧ Arr v w.heap.size 41 (noC d m)) → ∀ i, i < n → v.cell? ⟨q, o + i, none⟩ = some (.int .u8 ((T.getD i 0 : Nat) : Int)) := by
        have h0 := (HPv.out w (Below.refl _ _)).1
        rcases h0 with h0 | ⟨q, o, hq, hc⟩
        · have := HN.out; rw [h0] at this; simp at this; omega
        · exact ⟨q, o, hq, fun v hv i hi => (hv.out.1.cell (p := ⟨q, o + i, none⟩) (block_lt_of_cell (hc i (by rw [HN.out]; exact hi)))).trans (hc i (by rw [HN.out]; exact hi))⟩
      obtain ⟨b0, b1, e0, e1, _, _, u1, u2, u3, u4, u5, u6⟩ := two_bytes HTB.out 0
      obtain ⟨b2, b3, e2, e3, _, _, u7, u8, u9, u10, u11, u12⟩ := two_bytes HTB.out 2
      rw [HSX.out.1] at u6
      rw [HSX.out.2] at u12
      have hc0 : Hid (∀ v, Hid (Below w.heap.size w v ∧ Arr v w.heap.size 41 (noC d m)) → v.cell? ⟨q, o, none⟩ = some (.int .u8 (b0 : Int))) := fun v hv => by have h := hcell v hv 0 (by omega); rw [e0] at h; exact h
      have hc1 : Hid (∀ v, Hid (Below w.heap.size w v ∧ Arr v w.heap.size 41 (noC d m)) → v.cell? ⟨q, o + 1, none⟩ = some (.int .u8 (b1 : Int))) := fun v hv => by have h := hcell v hv 1 (by omega); rw [e1] at h; exact h
      have hc2 : Hid (∀ v, Hid (Below w.heap.size w v ∧ Arr v w.heap.size 41 (noC d m)) → v.cell? ⟨q, o + 2, none⟩ = some (.int .u8 (b2 : Int))) := fun v hv => by have h := hcell v hv 2 (by omega); rw [e2] at h; exact h
      have hc3 : Hid (∀ v, Hid (Below w.heap.size w v ∧ Arr v w.heap.size 41 (noC d m)) → v.cell? ⟨q, o + 3, none⟩ = some (.int .u8 (b3 : Int))) := fun v hv => by have h := hcell v hv 3 (by omega); rw [e3] at h; exact h
      have n0 : (0 : Int) < (n : Int) := by omega
      have n1 : (1 : Int) < (n : Int) := by omega
      have n2 : (2 : Int) < (n : Int) := by omega
      have n3 : (3 : Int) < (n : Int) := by omega
      have m0 : 0 < n := by omega
      have m1 : 1 < n := by omega
      have m2 : 2 < n := by omega
      have m3 : 3 < n := by omega
      clear h4 hcell e0 e1 e2 e3
      go_upto_region 9 with fail
      clear d1
      refine wp_region_held_drew (S := fun v => Hid (Below w.heap.size w v ∧ Arr v w.heap.size 41 (noC d m))) (by kernel_rfl) (hide ⟨H5.out.1.drew, H5.out.2⟩) (fun hHeld => ?_)
      refine take_dstH (i := 0) (d := 39) (v := ?_) rfl rfl (by kernel_rfl) (by kernel_rfl) (by kernel_rfl) (fun _ _ _ h => h) (by rfl) hHeld ?_ ?_
      rotate_left
      · intro wZ hSw; clear hSw; go_simp; first | (with_reducible rfl) | (rw [if_pos (by omega)]; with_reducible rfl) | skip
      try simp only [Act.put, List.setIfInBounds_toArray, List.set_cons_zero, List.set_cons_succ]
      refine take_dstH (i := 1) (d := 40) (v := ?_) rfl rfl (by kernel_rfl) (by kernel_rfl) (by kernel_rfl) (fun _ _ _ h => h) (by rfl) hHeld ?_ ?_
      rotate_left
      · intro wZ hSw; clear hSw; go_simp; first | (with_reducible rfl) | (rw [if_pos (by omega)]; with_reducible rfl) | skip
      try simp only [Act.put, List.setIfInBounds_toArray, List.set_cons_zero, List.set_cons_succ]
      refine take_dstH (i := 2) (d := 41) (v := ?_) rfl rfl (by kernel_rfl) (by kernel_rfl) (by kernel_rfl) (fun _ _ _ h => h) (by rfl) hHeld ?_ ?_
      rotate_left
      · intro wZ hSw; have hfS := hc0.out wZ hSw; clear hSw; go_simp; first | (with_reducible rfl) | (rw [if_pos (by omega)]; with_reducible rfl) | skip
      try simp only [Act.put, List.setIfInBounds_toArray, List.set_cons_zero, List.set_cons_succ]
      refine take_dstH (i := 3) (d := 42) (v := ?_) rfl rfl (by kernel_rfl) (by kernel_rfl) (by kernel_rfl) (fun _ _ _ h => h) (by rfl) hHeld ?_ ?_
      rotate_left
      · intro wZ hSw; clear hSw; go_simp; first | (with_reducible rfl) | (rw [if_pos (by omega)]; with_reducible rfl) | skip
      try simp only [Act.put, List.setIfInBounds_toArray, List.set_cons_zero, List.set_cons_succ]
      refine take_dstH (i := 4) (d := 43) (v := ?_) rfl rfl (by kernel_rfl) (by kernel_rfl) (by kernel_rfl) (fun _ _ _ h => h) (by rfl) hHeld ?_ ?_
      rotate_left
      · intro wZ hSw; clear hSw; go_simp; first | (with_reducible rfl) | (rw [if_pos (by omega)]; with_reducible rfl) | skip
      try simp only [Act.put, List.setIfInBounds_toArray, List.set_cons_zero, List.set_cons_succ]
      refine take_dstH (i := 5) (d := 44) (v := ?_) rfl rfl (by kernel_rfl) (by kernel_rfl) (by kernel_rfl) (fun _ _ _ h => h) (by rfl) hHeld ?_ ?_
      rotate_left
      · intro wZ hSw; clear hSw; go_simp; first | (with_reducible rfl) | (rw [if_pos (by omega)]; with_reducible rfl) | skip
      try simp only [Act.put, List.setIfInBounds_toArray, List.set_cons_zero, List.set_cons_succ]
      refine take_dstH (i := 6) (d := 45) (v := ?_) rfl rfl (by kernel_rfl) (by kernel_rfl) (by kernel_rfl) (fun _ _ _ h => h) (by rfl) hHeld ?_ ?_
      rotate_left
      · intro wZ hSw; clear hSw; go_simp; first | (with_reducible rfl) | (rw [if_pos (by omega)]; with_reducible rfl) | skip
      try simp only [Act.put, List.setIfInBounds_toArray, List.set_cons_zero, List.set_cons_succ]
      refine take_dstH (i := 7) (d := 46) (v := ?_) rfl rfl (by kernel_rfl) (by kernel_rfl) (by kernel_rfl) (fun _ _ _ h => h) (by rfl) hHeld ?_ ?_
      rotate_left
      · intro wZ hSw; have hfS := hc1.out wZ hSw; clear hSw; go_simp; first | (with_reducible rfl) | (rw [if_pos (by omega)]; with_reducible rfl) | skip
      try simp only [Act.put, List.setIfInBounds_toArray, List.set_cons_zero, List.set_cons_succ]
      refine take_dstH (i := 8) (d := 47) (v := ?_) rfl rfl (by kernel_rfl) (by kernel_rfl) (by kernel_rfl) (fun _ _ _ h => h) (by rfl) hHeld ?_ ?_
      rotate_left
      · intro wZ hSw; clear hSw; go_simp; first | (with_reducible rfl) | (rw [if_pos (by omega)]; with_reducible rfl) | skip
      try simp only [Act.put, List.setIfInBounds_toArray, List.set_cons_zero, List.set_cons_succ]
      refine take_dstH (i := 9) (d := 48) (v := ?_) rfl rfl (by kernel_rfl) (by kernel_rfl) (by kernel_rfl) (fun _ _ _ h => h) (by rfl) hHeld ?_ ?_
      rotate_left
      · intro wZ hSw; clear hSw; go_simp; first | (with_reducible rfl) | (rw [if_pos (by omega)]; with_reducible rfl) | skip
      try simp only [Act.put, List.setIfInBounds_toArray, List.set_cons_zero, List.set_cons_succ]
      refine take_dstH (i := 10) (d := 15) (v := ?_) rfl rfl (by kernel_rfl) (by kernel_rfl) (by kernel_rfl) (fun _ _ _ h => h) (by rfl) hHeld ?_ ?_
      rotate_left
      · intro wZ hSw; clear hSw; go_simp; first | (with_reducible rfl) | (rw [if_pos (by omega)]; with_reducible rfl) | skip
      try simp only [Act.put, List.setIfInBounds_toArray, List.set_cons_zero, List.set_cons_succ]
      refine wpAnyH_done (by kernel_rfl) ?_ _
      have H6 := hHeld
      clear hHeld H5
      generalize w5.drew = w6 at *
      go_upto_region 10 with fail
      refine wp_region_held_drew (S := fun v => Hid (Below w.heap.size w v ∧ Arr v w.heap.size 41 (noC d m))) (by kernel_rfl) (hide ⟨H6.out.1.drew, H6.out.2⟩) (fun hHeld => ?_)
      refine take_dstH (i := 0) (d := 49) (v := ?_) rfl rfl (by kernel_rfl) (by kernel_rfl) (by kernel_rfl) (fun _ _ _ h => h) (by rfl) hHeld ?_ ?_
      rotate_left
      · intro wZ hSw; clear hSw; go_simp; first | (with_reducible rfl) | (rw [if_pos (by omega)]; with_reducible rfl) | skip
      try simp only [Act.put, List.setIfInBounds_toArray, List.set_cons_zero, List.set_cons_succ]
      refine take_dstH (i := 1) (d := 50) (v := ?_) rfl rfl (by kernel_rfl) (by kernel_rfl) (by kernel_rfl) (fun _ _ _ h => h) (by rfl) hHeld ?_ ?_
      rotate_left
      · intro wZ hSw; clear hSw; go_simp; first | (with_reducible rfl) | (rw [if_pos (by omega)]; with_reducible rfl) | skip
      try simp only [Act.put, List.setIfInBounds_toArray, List.set_cons_zero, List.set_cons_succ]
      refine take_dstH (i := 2) (d := 51) (v := ?_) rfl rfl (by kernel_rfl) (by kernel_rfl) (by kernel_rfl) (fun _ _ _ h => h) (by rfl) hHeld ?_ ?_
      rotate_left
      · intro wZ hSw; have hfS := hc2.out wZ hSw; clear hSw; go_simp; first | (with_reducible rfl) | (rw [if_pos (by omega)]; with_reducible rfl) | skip
      try simp only [Act.put, List.setIfInBounds_toArray, List.set_cons_zero, List.set_cons_succ]
      refine take_dstH (i := 3) (d := 52) (v := ?_) rfl rfl (by kernel_rfl) (by kernel_rfl) (by kernel_rfl) (fun _ _ _ h => h) (by rfl) hHeld ?_ ?_
      rotate_left
      · intro wZ hSw; clear hSw; go_simp; first | (with_reducible rfl) | (rw [if_pos (by omega)]; with_reducible rfl) | skip
      try simp only [Act.put, List.setIfInBounds_toArray, List.set_cons_zero, List.set_cons_succ]
      refine take_dstH (i := 4) (d := 53) (v := ?_) rfl rfl (by kernel_rfl) (by kernel_rfl) (by kernel_rfl) (fun _ _ _ h => h) (by rfl) hHeld ?_ ?_
      rotate_left
      · intro wZ hSw; clear hSw; go_simp; first | (with_reducible rfl) | (rw [if_pos (by omega)]; with_reducible rfl) | skip
      try simp only [Act.put, List.setIfInBounds_toArray, List.set_cons_zero, List.set_cons_succ]
      refine take_dstH (i := 5) (d := 54) (v := ?_) rfl rfl (by kernel_rfl) (by kernel_rfl) (by kernel_rfl) (fun _ _ _ h => h) (by rfl) hHeld ?_ ?_
      rotate_left
      · intro wZ hSw; clear hSw; go_simp; first | (with_reducible rfl) | (rw [if_pos (by omega)]; with_reducible rfl) | skip
      try simp only [Act.put, List.setIfInBounds_toArray, List.set_cons_zero, List.set_cons_succ]
      refine take_dstH (i := 6) (d := 55) (v := ?_) rfl rfl (by kernel_rfl) (by kernel_rfl) (by kernel_rfl) (fun _ _ _ h => h) (by rfl) hHeld ?_ ?_
      rotate_left
      · intro wZ hSw; clear hSw; go_simp; first | (with_reducible rfl) | (rw [if_pos (by omega)]; with_reducible rfl) | skip
      try simp only [Act.put, List.setIfInBounds_toArray, List.set_cons_zero, List.set_cons_succ]
      refine take_dstH (i := 7) (d := 56) (v := ?_) rfl rfl (by kernel_rfl) (by kernel_rfl) (by kernel_rfl) (fun _ _ _ h => h) (by rfl) hHeld ?_ ?_
      rotate_left
      · intro wZ hSw; have hfS := hc3.out wZ hSw; clear hSw; go_simp; first | (with_reducible rfl) | (rw [if_pos (by omega)]; with_reducible rfl) | skip
      try simp only [Act.put, List.setIfInBounds_toArray, List.set_cons_zero, List.set_cons_succ]
      refine take_dstH (i := 8) (d := 57) (v := ?_) rfl rfl (by kernel_rfl) (by kernel_rfl) (by kernel_rfl) (fun _ _ _ h => h) (by rfl) hHeld ?_ ?_
      rotate_left
      · intro wZ hSw; clear hSw; go_simp; first | (with_reducible rfl) | (rw [if_pos (by omega)]; with_reducible rfl) | skip
      try simp only [Act.put, List.setIfInBounds_toArray, List.set_cons_zero, List.set_cons_succ]
      refine take_dstH (i := 9) (d := 58) (v := ?_) rfl rfl (by kernel_rfl) (by kernel_rfl) (by kernel_rfl) (fun _ _ _ h => h) (by rfl) hHeld ?_ ?_
      rotate_left
      · intro wZ hSw; clear hSw; go_simp; first | (with_reducible rfl) | (rw [if_pos (by omega)]; with_reducible rfl) | skip
      try simp only [Act.put, List.setIfInBounds_toArray, List.set_cons_zero, List.set_cons_succ]
      refine take_dstH (i := 10) (d := 16) (v := ?_) rfl rfl (by kernel_rfl) (by kernel_rfl) (by kernel_rfl) (fun _ _ _ h => h) (by rfl) hHeld ?_ ?_
      rotate_left
      · intro wZ hSw; clear hSw; go_simp; first | (with_reducible rfl) | (rw [if_pos (by omega)]; with_reducible rfl) | skip
      try simp only [Act.put, List.setIfInBounds_toArray, List.set_cons_zero, List.set_cons_succ]
      refine wpAnyH_done (by kernel_rfl) ?_ _
      have H7 := hHeld
      clear hHeld H6 hc0 hc1 hc2 hc3 n0 n1 n2 n3 m0 m1 m2 m3 u1 u2 u3 u4 u5 u6 u7 u8 u9 u10 u11 u12
      generalize w6.drew = w7 at *
      by_cases hs : S = 65535
      · have d2 : (S == 65535) = true := by simpa using hs
        have HE4 : Hid (E = 4) := by show E = _; rw [HEP.out]; unfold partsE; rw [if_pos (Or.inr (by rw [HSX.out.1]; exact hs))]
        clear hs
        go_wp2
        go_ret3
        obtain rfl : E = 4 := HE4.out
        exact ⟨fun _ => ⟨rfl, H7.out.1⟩, fun e => absurd e (by decide)⟩
      · have d2 : (S == 65535) = false := by simpa using hs
        have HE0 : Hid (E = 0) := by show E = _; rw [HEP.out]; unfold partsE; rw [if_neg (fun h => by rcases h with h | h; rw [HN.out] at h; exact absurd HN4.out (by omega); rw [HSX.out.1] at h; exact hs h)]
        have HSB : Hid (0 ≤ S ∧ S ≤ 65534) := by
          have := rd2_in HTB.out 0
          rw [HSX.out.1] at this
          show _ ∧ _
          omega
        clear hs HEP
        go_upto_region 13 with fail
        clear d2
        go_cut [73] (fun s73 wx => s73 = .bool (!L.fresh m) ∧ Hid (Below w.heap.size w wx ∧ Arr wx w.heap.size 41 (noC d m)))
        case first =>
          have hl4 : Hid (∀ v, Hid (Below w.heap.size w v ∧ Arr v w.heap.size 41 (noC d m)) → v.cell? ⟨g, 4, none⟩ = some (.int .u64 (L.newest : Int))) := fun v hv => (HR.out v hv.out.1).cell 4
          have hl3 : Hid (∀ v, Hid (Below w.heap.size w v ∧ Arr v w.heap.size 41 (noC d m)) → v.cell? ⟨g, 3, none⟩ = some (.bool L.heard)) := fun v hv => (HR.out v hv.out.1).cell 3
          have HFV : Hid ((L.heard = false → (!L.fresh m) = false) ∧ (L.heard = true → (!L.fresh m) = decide (m ≤ L.newest))) := by
            unfold Lk.fresh
            refine ⟨fun e => by rw [e]; rfl, fun e => ?_⟩
            rw [e]
            by_cases h : L.newest < m
            · rw [decide_eq_true h, decide_eq_false (by omega)]; rfl
            · rw [decide_eq_false h, decide_eq_true (by omega)]; rfl
          cases hh : L.heard
          · rw [hh] at hl3
            have hfv := HFV.out.1 hh
            clear HFV hl4
            refine wp_region_held_drew (S := fun v => Hid (Below w.heap.size w v ∧ Arr v w.heap.size 41 (noC d m))) (by kernel_rfl) (hide ⟨H7.out.1.drew, H7.out.2⟩) (fun hHeld => ?_)
            refine take_dstH (i := 0) (d := 61) (v := ?_) rfl rfl (by kernel_rfl) (by kernel_rfl) (by kernel_rfl) (fun _ _ _ h => h) (by rfl) hHeld ?_ ?_
            rotate_left
            · intro wZ hSw; clear hSw; go_simp; first | (with_reducible rfl) | (rw [if_pos (by omega)]; with_reducible rfl) | skip
            try simp only [Act.put, List.setIfInBounds_toArray, List.set_cons_zero, List.set_cons_succ]
            refine take_dstH (i := 1) (d := 62) (v := ?_) rfl rfl (by kernel_rfl) (by kernel_rfl) (by kernel_rfl) (fun _ _ _ h => h) (by rfl) hHeld ?_ ?_
            rotate_left
            · intro wZ hSw; clear hSw; go_simp; first | (with_reducible rfl) | (rw [if_pos (by omega)]; with_reducible rfl) | skip
            try simp only [Act.put, List.setIfInBounds_toArray, List.set_cons_zero, List.set_cons_succ]
            refine take_dstH (i := 2) (d := 63) (v := ?_) rfl rfl (by kernel_rfl) (by kernel_rfl) (by kernel_rfl) (fun _ _ _ h => h) (by rfl) hHeld ?_ ?_
            rotate_left
            · intro wZ hSw; clear hSw; go_simp; first | (with_reducible rfl) | (rw [if_pos (by omega)]; with_reducible rfl) | skip
            try simp only [Act.put, List.setIfInBounds_toArray, List.set_cons_zero, List.set_cons_succ]
            refine take_dstH (i := 3) (d := 64) (v := ?_) rfl rfl (by kernel_rfl) (by kernel_rfl) (by kernel_rfl) (fun _ _ _ h => h) (by rfl) hHeld ?_ ?_
            rotate_left
            · intro wZ hSw; have hfS := hl3.out wZ hSw; clear hSw; go_simp; first | (with_reducible rfl) | (rw [if_pos (by omega)]; with_reducible rfl) | skip
            try simp only [Act.put, List.setIfInBounds_toArray, List.set_cons_zero, List.set_cons_succ]
            refine take_dstH (i := 4) (d := 65) (v := ?_) rfl rfl (by kernel_rfl) (by kernel_rfl) (by kernel_rfl) (fun _ _ _ h => h) (by rfl) hHeld ?_ ?_
            rotate_left
            · intro wZ hSw; clear hSw; go_simp; first | (with_reducible rfl) | (rw [if_pos (by omega)]; with_reducible rfl) | skip
            try simp only [Act.put, List.setIfInBounds_toArray, List.set_cons_zero, List.set_cons_succ]
            refine skip_dstH (i := 5) (d := 66) rfl rfl (by kernel_rfl) (by kernel_rfl) (by kernel_rfl) (fun _ _ _ h => h) (by rfl) hHeld ?_
            try simp only [Act.put, List.setIfInBounds_toArray, List.set_cons_zero, List.set_cons_succ]
            refine skip_dstH (i := 6) (d := 67) rfl rfl (by kernel_rfl) (by kernel_rfl) (by kernel_rfl) (fun _ _ _ h => h) (by rfl) hHeld ?_
            try simp only [Act.put, List.setIfInBounds_toArray, List.set_cons_zero, List.set_cons_succ]
            refine skip_dstH (i := 7) (d := 68) rfl rfl (by kernel_rfl) (by kernel_rfl) (by kernel_rfl) (fun _ _ _ h => h) (by rfl) hHeld ?_
            try simp only [Act.put, List.setIfInBounds_toArray, List.set_cons_zero, List.set_cons_succ]
            refine skip_dstH (i := 8) (d := 69) rfl rfl (by kernel_rfl) (by kernel_rfl) (by kernel_rfl) (fun _ _ _ h => h) (by rfl) hHeld ?_
            try simp only [Act.put, List.setIfInBounds_toArray, List.set_cons_zero, List.set_cons_succ]
            refine skip_dstH (i := 9) (d := 70) rfl rfl (by kernel_rfl) (by kernel_rfl) (by kernel_rfl) (fun _ _ _ h => h) (by rfl) hHeld ?_
            try simp only [Act.put, List.setIfInBounds_toArray, List.set_cons_zero, List.set_cons_succ]
            refine skip_dstH (i := 10) (d := 71) rfl rfl (by kernel_rfl) (by kernel_rfl) (by kernel_rfl) (fun _ _ _ h => h) (by rfl) hHeld ?_
            try simp only [Act.put, List.setIfInBounds_toArray, List.set_cons_zero, List.set_cons_succ]
            refine skip_dstH (i := 11) (d := 72) rfl rfl (by kernel_rfl) (by kernel_rfl) (by kernel_rfl) (fun _ _ _ h => h) (by rfl) hHeld ?_
            try simp only [Act.put, List.setIfInBounds_toArray, List.set_cons_zero, List.set_cons_succ]
            refine take_dstH (i := 12) (d := 73) (v := ?_) rfl rfl (by kernel_rfl) (by kernel_rfl) (by kernel_rfl) (fun _ _ _ h => h) (by rfl) hHeld ?_ ?_
            rotate_left
            · intro wZ hSw; clear hSw; go_simp; first | (with_reducible rfl) | (rw [if_pos (by omega)]; with_reducible rfl) | skip
            try simp only [Act.put, List.setIfInBounds_toArray, List.set_cons_zero, List.set_cons_succ]
            refine wpAnyH_done (by kernel_rfl) ?_ _
            go_wp2_with fail
            go_meet
            case rel => exact ⟨by rw [hfv], hHeld.out⟩
          · rw [hh] at hl3
            have hfv := HFV.out.2 hh
            clear HFV
            refine wp_region_held_drew (S := fun v => Hid (Below w.heap.size w v ∧ Arr v w.heap.size 41 (noC d m))) (by kernel_rfl) (hide ⟨H7.out.1.drew, H7.out.2⟩) (fun hHeld => ?_)
            refine take_dstH (i := 0) (d := 61) (v := ?_) rfl rfl (by kernel_rfl) (by kernel_rfl) (by kernel_rfl) (fun _ _ _ h => h) (by rfl) hHeld ?_ ?_
            rotate_left
            · intro wZ hSw; clear hSw; go_simp; first | (with_reducible rfl) | (rw [if_pos (by omega)]; with_reducible rfl) | skip
            try simp only [Act.put, List.setIfInBounds_toArray, List.set_cons_zero, List.set_cons_succ]
            refine take_dstH (i := 1) (d := 62) (v := ?_) rfl rfl (by kernel_rfl) (by kernel_rfl) (by kernel_rfl) (fun _ _ _ h => h) (by rfl) hHeld ?_ ?_
            rotate_left
            · intro wZ hSw; clear hSw; go_simp; first | (with_reducible rfl) | (rw [if_pos (by omega)]; with_reducible rfl) | skip
            try simp only [Act.put, List.setIfInBounds_toArray, List.set_cons_zero, List.set_cons_succ]
            refine take_dstH (i := 2) (d := 63) (v := ?_) rfl rfl (by kernel_rfl) (by kernel_rfl) (by kernel_rfl) (fun _ _ _ h => h) (by rfl) hHeld ?_ ?_
            rotate_left
            · intro wZ hSw; clear hSw; go_simp; first | (with_reducible rfl) | (rw [if_pos (by omega)]; with_reducible rfl) | skip
            try simp only [Act.put, List.setIfInBounds_toArray, List.set_cons_zero, List.set_cons_succ]
            refine take_dstH (i := 3) (d := 64) (v := ?_) rfl rfl (by kernel_rfl) (by kernel_rfl) (by kernel_rfl) (fun _ _ _ h => h) (by rfl) hHeld ?_ ?_
            rotate_left
            · intro wZ hSw; have hfS := hl3.out wZ hSw; clear hSw; go_simp; first | (with_reducible rfl) | (rw [if_pos (by omega)]; with_reducible rfl) | skip
            try simp only [Act.put, List.setIfInBounds_toArray, List.set_cons_zero, List.set_cons_succ]
            refine take_dstH (i := 4) (d := 65) (v := ?_) rfl rfl (by kernel_rfl) (by kernel_rfl) (by kernel_rfl) (fun _ _ _ h => h) (by rfl) hHeld ?_ ?_
            rotate_left
            · intro wZ hSw; clear hSw; go_simp; first | (with_reducible rfl) | (rw [if_pos (by omega)]; with_reducible rfl) | skip
            try simp only [Act.put, List.setIfInBounds_toArray, List.set_cons_zero, List.set_cons_succ]
            refine take_dstH (i := 5) (d := 66) (v := ?_) rfl rfl (by kernel_rfl) (by kernel_rfl) (by kernel_rfl) (fun _ _ _ h => h) (by rfl) hHeld ?_ ?_
            rotate_left
            · intro wZ hSw; clear hSw; go_simp; first | (with_reducible rfl) | (rw [if_pos (by omega)]; with_reducible rfl) | skip
            try simp only [Act.put, List.setIfInBounds_toArray, List.set_cons_zero, List.set_cons_succ]
            refine take_dstH (i := 6) (d := 67) (v := ?_) rfl rfl (by kernel_rfl) (by kernel_rfl) (by kernel_rfl) (fun _ _ _ h => h) (by rfl) hHeld ?_ ?_
            rotate_left
            · intro wZ hSw; have hfS := hn1.out wZ hSw; clear hSw; go_simp; first | (with_reducible rfl) | (rw [if_pos (by omega)]; with_reducible rfl) | skip
            try simp only [Act.put, List.setIfInBounds_toArray, List.set_cons_zero, List.set_cons_succ]
            refine take_dstH (i := 7) (d := 68) (v := ?_) rfl rfl (by kernel_rfl) (by kernel_rfl) (by kernel_rfl) (fun _ _ _ h => h) (by rfl) hHeld ?_ ?_
            rotate_left
            · intro wZ hSw; clear hSw; go_simp; first | (with_reducible rfl) | (rw [if_pos (by omega)]; with_reducible rfl) | skip
            try simp only [Act.put, List.setIfInBounds_toArray, List.set_cons_zero, List.set_cons_succ]
            refine take_dstH (i := 8) (d := 69) (v := ?_) rfl rfl (by kernel_rfl) (by kernel_rfl) (by kernel_rfl) (fun _ _ _ h => h) (by rfl) hHeld ?_ ?_
            rotate_left
            · intro wZ hSw; clear hSw; go_simp; first | (with_reducible rfl) | (rw [if_pos (by omega)]; with_reducible rfl) | skip
            try simp only [Act.put, List.setIfInBounds_toArray, List.set_cons_zero, List.set_cons_succ]
            refine take_dstH (i := 9) (d := 70) (v := ?_) rfl rfl (by kernel_rfl) (by kernel_rfl) (by kernel_rfl) (fun _ _ _ h => h) (by rfl) hHeld ?_ ?_
            rotate_left
            · intro wZ hSw; clear hSw; go_simp; first | (with_reducible rfl) | (rw [if_pos (by omega)]; with_reducible rfl) | skip
            try simp only [Act.put, List.setIfInBounds_toArray, List.set_cons_zero, List.set_cons_succ]
            refine take_dstH (i := 10) (d := 71) (v := ?_) rfl rfl (by kernel_rfl) (by kernel_rfl) (by kernel_rfl) (fun _ _ _ h => h) (by rfl) hHeld ?_ ?_
            rotate_left
            · intro wZ hSw; have hfS := hl4.out wZ hSw; clear hSw; go_simp; first | (with_reducible rfl) | (rw [if_pos (by omega)]; with_reducible rfl) | skip
            try simp only [Act.put, List.setIfInBounds_toArray, List.set_cons_zero, List.set_cons_succ]
            refine take_dstH (i := 11) (d := 72) (v := ?_) rfl rfl (by kernel_rfl) (by kernel_rfl) (by kernel_rfl) (fun _ _ _ h => h) (by rfl) hHeld ?_ ?_
            rotate_left
            · intro wZ hSw; clear hSw; go_simp; first | (with_reducible rfl) | (rw [if_pos (by omega)]; with_reducible rfl) | skip
            try simp only [Act.put, List.setIfInBounds_toArray, List.set_cons_zero, List.set_cons_succ]
            refine take_dstH (i := 12) (d := 73) (v := ?_) rfl rfl (by kernel_rfl) (by kernel_rfl) (by kernel_rfl) (fun _ _ _ h => h) (by rfl) hHeld ?_ ?_
            rotate_left
            · intro wZ hSw; clear hSw; go_simp; first | (with_reducible rfl) | (rw [if_pos (by omega)]; with_reducible rfl) | skip
            try simp only [Act.put, List.setIfInBounds_toArray, List.set_cons_zero, List.set_cons_succ]
            refine wpAnyH_done (by kernel_rfl) ?_ _
            go_wp2_with fail
            go_meet
            case rel => exact ⟨by rw [hfv], hHeld.out⟩
        case rest =>
          obtain ⟨rfl, H8⟩ := hcut
          clear H7 hn0
          have hcl : n ≤ c := by have := (HPv.out w (Below.refl _ _)).2.2.2.1; rw [HN.out] at this; exact this
          have hsl := fun v : World => w_run_from v (some ⟨q, o, none⟩) n c 4 HN4.out
          simp only [Int.cast_ofNat_Int] at hsl
          clear hcl
          obtain ⟨pq, hpq⟩ : ∃ pq, cutP (some ⟨q, o, none⟩) 4 c = pq := ⟨_, rfl⟩
          rw [hpq] at hsl
          have HPQ := hide hpq
          clear hpq
          cases hf : L.fresh m
          · have HL : Hid (LT = L) := by show LT = L; rw [← HLT.out]; unfold Lk.took; rw [if_neg (by rw [hf]; decide)]
            go_wp2
            go_ret3
            exact ⟨fun e => absurd HE0.out e, fun _ => ⟨by rw [HPQ.out]; first | rfl | (rw [hf]; rfl), ⟨s, t, by rw [HL.out]; exact HRL.out.kept H8.out.1⟩, below_grown H8.out.1 _⟩⟩
          · have HLK : Hid (LT = { L with heard := true, newest := m, addr := if L.down then frm else L.addr, is := true, stamp := S, told := now, m := metF L.m X now }) := by show LT = _; rw [← HLT.out]; exact took_eq' hf S X now frm
            have HOK : Hid LT.ok := by show LT.ok; rw [← HLT.out]; exact Lk.took_ok HRL.out.ok HM.out HSB.out.1 HSB.out.2 HT.out HAD.out
            have HMAY := hide HRL.out.ok.may
            have HR0 : Hid (RkS w wc g w.heap.size L s t d m) := ⟨HR.out wc H8.out.1, H8.out.2, below_grown H8.out.1 _⟩
            clear H8 HR HPv hn1
            have HT1 := hide (HR0.out.set 3 (.bool true) (K' := { L with heard := true }) (s' := s) (t' := t) rfl)
            have c3 : wc.cell? ⟨g, 3, none⟩ = some (.bool L.heard) := HR0.out.l.cell 3
            have f3 := HR0.out.l.frozen 3
            go_upto_region 16 with fail
            clear c3 f3 HR0
            generalize wc.setCell ⟨g, 3, none⟩ (.bool true) = wa at *
            have HT2 := hide (HT1.out.set 4 (.int .u64 (m : Int)) (K' := { L with heard := true, newest := m }) (s' := s) (t' := t) rfl)
            have c4 : wa.cell? ⟨g, 4, none⟩ = some (.int .u64 (L.newest : Int)) := HT1.out.l.cell 4
            have f4 := HT1.out.l.frozen 4
            have p1 : wa.cell? ⟨w.heap.size, 1, none⟩ = some (.int .u64 (m : Int)) := HT1.out.p.cell 1
            go_upto_region 17 with fail
            clear c4 f4 p1 HT1
            generalize wa.setCell ⟨g, 4, none⟩ (.int .u64 (m : Int)) = wb at *
            have c0 : wb.cell? ⟨g, 0, none⟩ = some (.bool L.down) := HT2.out.l.cell 0
            generalize hL2 : ({ L with heard := true, newest := m } : Lk) = L2 at *
            have HL2 := hide hL2
            clear hL2
            go_upto_if 87 with fail
            clear c0
            go_cut [17] (fun _ wx => Hid (RkS w wx g w.heap.size { L2 with addr := if L.down then frm else L.addr } s t d m))
            case first =>
              cases hd : L.down
              · go_wp2
                go_meet
                case rel => rw [if_neg (show ¬ (L.down = true) from by rw [hd]; decide)]; have e := HT2.out; rw [← HL2.out] at e ⊢; exact e
              · have c2 : wb.cell? ⟨g, 2, none⟩ = some (.int .i64 L2.addr) := HT2.out.l.cell 2
                have f2 := HT2.out.l.frozen 2
                go_wp2
                go_meet
                case rel => rw [if_pos hd]; exact HT2.out.set 2 (.int .i64 frm) rfl
            case rest =>
              have HT3 := hcut
              clear hcut HT2
              generalize hL3 : ({ L2 with addr := if L.down then frm else L.addr } : Lk) = L3 at *
              have HL3 := hide hL3
              clear hL3
              have HT4 := hide (HT3.out.set 8 (.bool true) (K' := { L3 with is := true }) (s' := s) (t' := t) rfl)
              have c8 : wc.cell? ⟨g, 8, none⟩ = some (.bool L3.is) := HT3.out.l.cell 8
              have f8 := HT3.out.l.frozen 8
              go_upto_region 20 with fail
              clear c8 f8 HT3
              generalize wc.setCell ⟨g, 8, none⟩ (.bool true) = w10 at *
              have HT5 := hide (HT4.out.set 9 (.int .i64 S) (K' := { L3 with is := true }) (s' := S) (t' := t) rfl)
              have c9 : w10.cell? ⟨g, 9, none⟩ = some (.int .i64 s) := HT4.out.l.cell 9
              have f9 := HT4.out.l.frozen 9
              go_upto_region 21 with fail
              clear c9 f9 HT4
              generalize w10.setCell ⟨g, 9, none⟩ (.int .i64 S) = w11 at *
              have HT6 := hide (HT5.out.set 10 (.int .i64 now) (K' := { L3 with is := true }) (s' := S) (t' := now) rfl)
              have c10 : w11.cell? ⟨g, 10, none⟩ = some (.int .i64 t) := HT5.out.l.cell 10
              have f10 := HT5.out.l.frozen 10
              go_upto_region 22 with fail
              clear c10 f10 HT5
              generalize w11.setCell ⟨g, 10, none⟩ (.int .i64 now) = w12 at *
              generalize hL4 : ({ L3 with is := true } : Lk) = L4 at *
              have HEQ : Hid (({ ({ L4 with m := metF L.m X now } : Lk) with stamp := S, told := now } : Lk) = LT) := by
                show _ = LT
                rw [HLK.out, ← hL4, ← HL3.out, ← HL2.out]
              have HM4 : Hid (L4.m = L.m) := by show _ = _; rw [← hL4, ← HL3.out, ← HL2.out]
              clear hL4 HL2 HL3 HLK
              have HFIN : Hid (∀ v, RkS w v g w.heap.size { L4 with m := metF L.m X now } S now d m → (∃ s' t', RL v g LT s' t') ∧ w.grownBy v (some g)) := fun v hv => by
                refine ⟨⟨S, now, ?_, ?_, HOK.out⟩, hv.b⟩
                · rw [← HEQ.out]; exact hv.l
                · intro _; rw [← HEQ.out]; exact ⟨rfl, rfl⟩
              clear HEQ HOK
              by_cases hx : X = 65535
              · have e1 : (X != 65535) = false := by simpa using hx
                have HE : Hid (({ L4 with m := metF L.m X now } : Lk) = L4) := by show _ = L4; rw [metF, if_pos hx, ← HM4.out]
                clear hx
                go_wp2
                go_ret3
                exact ⟨fun e => absurd HE0.out e, fun _ => ⟨by rw [HPQ.out]; first | rfl | (rw [hf]; rfl), HFIN.out _ (by rw [HE.out]; exact HT6.out)⟩⟩
              · have e1 : (X != 65535) = true := by simpa using hx
                obtain ⟨tk, way, e2, e3, e4, HTK⟩ := ref_way now X HTN.out HXB.out hx
                have HMF : Hid (metF L.m X now = if way ≤ 5000 then L4.m.one way else L4.m) := by show _ = _; rw [metF, if_neg hx, HTK.1, HM4.out]
                have HWA := hide HTK.2.1
                clear hx
                go_upto_if 110 with fail
                go_cut [17] (fun s17 wx => s17 = .int .i64 way ∧ wx = w12)
                case first =>
                  rcases HTK.2.2 with ⟨f1, f2⟩ | ⟨f1, f2⟩
                  · go_wp2
                    go_meet
                    case rel => exact ⟨by rw [f2], rfl⟩
                  · go_wp2
                    go_meet
                    case rel => exact ⟨by rw [f2], rfl⟩
                    all_goals exact absurd (of_decide_eq_true f1) (by omega)
                case rest =>
                  obtain ⟨rfl, hwx⟩ := hcut
                  obtain rfl : w12 = wc := hwx.symm
                  clear e1 e2 e3 e4 HTK
                  by_cases hw : way ≤ 5000
                  · have e6 : decide (way ≤ 5000) = true := by simpa using hw
                    have HSA : Hid (Samp way) := ⟨HWA.out.1, by omega⟩
                    have HMA : Hid L4.m.may := by show L4.m.may; rw [HM4.out]; exact HMAY.out
                    have HH := hide (fun v : World => rone_any L4.m way v HMA.out HSA.out)
                    have HME : Hid (L4.m.one way = metF L.m X now) := by show _ = _; rw [HMF.out, if_pos hw]
                    rw [HME.out] at HH
                    clear hw HMF HME HMA HSA
                    have HO1 : Hid (5 + (meC (metF L.m X now)).toArray.size ≤ (rlC L4 S now).length) := by show _ ≤ _; simp
                    have HSN := hide (rlC_met L4 S now (metF L.m X now))
                    go_upto_region 27 with fail
                    clear e6
                    generalize metF L.m X now = MM at *
                    go_wp2_with (first
                      | (refine wpList_exec (by rfl) _ (exec_load_mid 36 (.tmp 118) rfl g 5 rfl (meC L4.m) _ (rl_met HT6.out.l) Tryd.underlying36 rfl infoM) ?_)
                      | (refine (HH.out _).mono ?_; rintro e w13 ⟨rfl, hb13⟩; have HT7 := hide (HT6.out.kept hb13); clear hb13)
                      | (refine wpList_store_in rfl rfl 36 (.tmp 123) (.tmp 121) rfl g 5 (meC MM).toArray rfl rfl 38 (rlC L4 S now) HT7.out.l infoM HO1.out (one_meC _) ?_; rw [HSN.out]))
                    go_ret3
                    exact ⟨fun e => absurd HE0.out e, fun _ => ⟨by rw [HPQ.out]; first | rfl | (rw [hf]; rfl), HFIN.out _ ⟨HT7.out.l.row _, HT7.out.p.rowOther _ _ (arr_ne HT7.out.p HT7.out.l (by decide)), grown_trans HT7.out.b (lk_grown_row _ _ _)⟩⟩⟩
                  · have e6 : decide (way ≤ 5000) = false := by simpa using hw
                    have HE : Hid (({ L4 with m := metF L.m X now } : Lk) = L4) := by show _ = L4; rw [HMF.out, if_neg hw]
                    clear hw
                    go_wp2
                    go_ret3
                    exact ⟨fun e => absurd HE0.out e, fun _ => ⟨by rw [HPQ.out]; first | rfl | (rw [hf]; rfl), HFIN.out _ (by rw [HE.out]; exact HT6.out)⟩⟩
  · have HE9 : Hid (E = 90) := HRE.out.trans (if_pos rfl)
    go_wp2
    go_ret3
    obtain rfl : E = 90 := HE9.out
    exact ⟨fun _ => ⟨rfl, H5.out.1⟩, fun e => absurd e (by decide)⟩

end Go.Proofs.YtbmjlofehbbkbaaDoor
