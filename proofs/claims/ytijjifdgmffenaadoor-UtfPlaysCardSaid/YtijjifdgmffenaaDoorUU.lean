/-
  Walks: the reference's read.
-/
import Derived.Test.YtijjifdgmffenaaDoorUT
import Derived.OwnWalk
namespace Go.Proofs.YtijjifdgmffenaaDoor
open Go.RowKit

theorem mulO (lw : Int) (h1 : -200000 * 64 ≤ lw) (h2 : lw ≤ 68000000) (d : Nat) (hd : d ≤ 3) : -200000 * 64 * 262144 ≤ lw * ((openF d : Nat) : Int) ∧ lw * ((openF d : Nat) : Int) ≤ 68000000 * 262144 := by
  match d, hd with
  | 0, _ => show _ ≤ lw * 1 ∧ lw * 1 ≤ _; omega
  | 1, _ => show _ ≤ lw * 64 ∧ lw * 64 ≤ _; omega
  | 2, _ => show _ ≤ lw * 4096 ∧ lw * 4096 ≤ _; omega
  | 3, _ => show _ ≤ lw * 262144 ∧ lw * 262144 ≤ _; omega
theorem mulO_succ (lw : Int) (d : Nat) (hd : d ≤ 2) : lw * ((openF (d + 1) : Nat) : Int) = lw * ((openF d : Nat) : Int) * 64 ∧ lw * ((openF (d + 1) : Nat) : Int) + (((openF (d + 1) : Nat) : Int) - 1) = (lw * ((openF d : Nat) : Int) + (((openF d : Nat) : Int) - 1)) * 64 + 63 := by
  match d, hd with
  | 0, _ => show lw * 64 = lw * 1 * 64 ∧ lw * 64 + (64 - 1) = (lw * 1 + (1 - 1)) * 64 + 63; omega
  | 1, _ => show lw * 4096 = lw * 64 * 64 ∧ lw * 4096 + (4096 - 1) = (lw * 64 + (64 - 1)) * 64 + 63; omega
  | 2, _ => show lw * 262144 = lw * 4096 * 64 ∧ lw * 262144 + (262144 - 1) = (lw * 4096 + (4096 - 1)) * 64 + 63; omega
/-- what the reference reads -/
def RdP (w : World) (t : List Nat) (e : Ending) (w' : World) : Prop := ∃ C : Int, e = .returned (.tuple #[.int .i32 C, .int .i64 ((readF t).1 : Int), .bool (readF t).2]) ∧ ((readF t).2 = true → C = (lowN t ((readF t).1 - 1) : Int)) ∧ Below w.heap.size w w'

set_option maxHeartbeats 8000000 in
set_option maxRecDepth 100000 in
theorem rread_any (L cap : Nat) (p : Option Addr) (t : List Nat) (w : World) (hp : Piece w p cap t) (hl : t.length = L) (h0 : 0 < L) :
    Calls Tryd.prog 25 #[.slice p L cap] w (RdP w t) := by
  rcases hp.1 with h | ⟨q, o, rfl, hcell⟩
  · subst h; simp at hl; omega
  have hcell' : ∀ i, i < L → w.cell? ⟨q, o + i, none⟩ = some (.int .u8 ((t.getD i 0 : Nat) : Int)) := fun i hi => hcell i (by rw [hl]; exact hi)
  have HC := hide hcell'
  have HBY : Hid (∀ x ∈ t, x < 256) := hp.2.2.1
  have HTL := hide hl
  obtain ⟨b0, hb0⟩ : ∃ b, t.getD 0 0 = b := ⟨_, rfl⟩
  have hb256 : b0 < 256 := by rw [← hb0]; exact getD_lt HBY.out 0
  have c0 : w.cell? ⟨q, o, none⟩ = some (.int .u8 (b0 : Int)) := by have h := hcell' 0 h0; rw [hb0] at h; exact h
  obtain ⟨n, hn⟩ : ∃ n, sizeF b0 = n := ⟨_, rfl⟩
  have hn4 : n ≤ 4 := by rw [← hn]; exact sizeF_le b0
  obtain ⟨nn, hnn⟩ : ∃ nn : Int, (n : Int) = nn := ⟨_, rfl⟩
  have HS := hide (rsize_any b0 w hb256)
  rw [hn, hnn] at HS
  obtain ⟨M, hM⟩ : ∃ M, min n L = M := ⟨_, rfl⟩
  have HRD : Hid (readF t = downF t n M) := by show _ = _; unfold readF; rw [hb0, hn, hl, hM]
  have HN : Hid (sizeF (t.getD 0 0) = n) := by show _ = _; rw [hb0]; exact hn
  have HB0 : Hid (t.getD 0 0 = b0 ∧ b0 < 256 ∧ sizeF b0 = n) := ⟨hb0, hb256, hn⟩
  have HNN := hide (And.intro hnn (And.intro hn4 h0))
  have HM := hide hM
  have HMin : Hid ((if (L : Int) < nn then (L : Int) else nn) = (M : Int)) := by
    show _ = _
    rw [← hM, ← hnn]
    by_cases h : (L : Int) < (n : Int)
    · rw [if_pos h]; omega
    · rw [if_neg h]; omega
  have i0 : (0 : Int) < (L : Int) := by omega
  clear hcell' hcell hp hl hb0 hb256 hn hn4 hnn hM
  go_enter Tryd.func25, Tryd.ntmps25
  go_wp2_with fail
  refine HS.out.mono ?_
  rintro r w1 ⟨rfl, rfl⟩
  clear HS
  go_wp2_with (refine wpList_exec (by rfl) _ (exec_min (.tmp 16) (.tmp 18) _ rfl .i64 nn L M rfl rfl HMin.out) ?_)
  go_loopg [6] 6 (fun f s6 wx => ∃ k : Nat, s6 = .int .i64 (k : Int) ∧ k ≤ M ∧ k < f ∧ Hid (readF t = downF t n k ∧ Below w1.heap.size w1 wx))
  case atStart => exact ⟨M, rfl, Nat.le_refl _, by have := HM.out; have := HNN.out.2.1; omega, HRD.out, Below.refl _ _⟩
  case round =>
    obtain ⟨k, rfl, hkM, hkf, HI⟩ := hrel
    obtain ⟨kk, hkk⟩ : ∃ kk : Int, (k : Int) = kk := ⟨_, rfl⟩
    rw [hkk]
    cases k with
    | zero =>
      have dk : decide (0 < kk) = false := decide_eq_false (by omega)
      clear c0
      go_wp2_with fail
      go_ret3
      have hr := HI.out.1
      have e : downF t n 0 = (1, false) := rfl
      rw [e] at hr
      unfold RdP
      rw [hr]
      exact ⟨0, rfl, (fun h => by cases h), HI.out.2⟩
    | succ j =>
      have dk : decide (0 < kk) = true := decide_eq_true (by omega)
      have HKK := hide hkk
      have hjn : j + 1 ≤ n := by have := HM.out; omega
      have hjL : j + 1 ≤ L := by have := HM.out; omega
      have HJ : Hid (j + 1 ≤ n ∧ j + 1 ≤ L) := ⟨hjn, hjL⟩
      have c1 : wr.cell? ⟨q, o, none⟩ = some (.int .u8 (b0 : Int)) := (HI.out.2.cell (p := ⟨q, o, none⟩) (block_lt_of_cell c0)).trans c0
      clear c0 hkk hjn hjL
      obtain ⟨B, hB⟩ : ∃ B, baseF b0 = B := ⟨_, rfl⟩
      have HBB := hide hB
      have hb256 : b0 < 256 := HB0.out.2.1
      clear hB
      go_upto_block 2 with fail
      go_cut [7] (fun s7 wx => s7 = .int .i64 (B : Int) ∧ wx = wr)
      case first => as_aux_lemma =>
        clear HI c1 HC HM HMin HRD
        have hnc := n_cases (show 1 ≤ n by have := HJ.out.1; omega) HNN.out.2.1
        rcases hnc with hn | hn | hn | hn
        · have hs : sizeF b0 = 1 := HB0.out.2.2.trans hn
          have e2 : (nn == 2) = false := by rw [← HNN.out.1, hn]; rfl
          have e3 : (nn == 3) = false := by rw [← HNN.out.1, hn]; rfl
          have e4 : (nn == 4) = false := by rw [← HNN.out.1, hn]; rfl
          have hc := sizeF_cases b0
          have hv : (b0 : Int) = (B : Int) := by rw [← HBB.out]; unfold baseF; rw [hs, if_neg (by decide), if_neg (by decide), if_neg (by decide)]
          have HV := hide hv
          clear hv hc hs hn
          go_wp2_with fail
          go_meet
          case rel => exact ⟨by rw [HV.out], rfl⟩
        · have hs : sizeF b0 = 2 := HB0.out.2.2.trans hn
          have e2 : (nn == 2) = true := by rw [← HNN.out.1, hn]; rfl
          have e3 : (nn == 3) = false := by rw [← HNN.out.1, hn]; rfl
          have e4 : (nn == 4) = false := by rw [← HNN.out.1, hn]; rfl
          have hc := sizeF_cases b0
          have hv : (b0 : Int) - 192 = (B : Int) := by rw [← HBB.out]; unfold baseF; rw [hs, if_pos rfl]; omega
          have HV := hide hv
          clear hv hc hs hn
          go_wp2_with fail
          go_meet
          case rel => exact ⟨by rw [HV.out], rfl⟩
        · have hs : sizeF b0 = 3 := HB0.out.2.2.trans hn
          have e2 : (nn == 2) = false := by rw [← HNN.out.1, hn]; rfl
          have e3 : (nn == 3) = true := by rw [← HNN.out.1, hn]; rfl
          have e4 : (nn == 4) = false := by rw [← HNN.out.1, hn]; rfl
          have hc := sizeF_cases b0
          have hv : (b0 : Int) - 224 = (B : Int) := by rw [← HBB.out]; unfold baseF; rw [hs, if_neg (by decide), if_pos rfl]; omega
          have HV := hide hv
          clear hv hc hs hn
          go_wp2_with fail
          go_meet
          case rel => exact ⟨by rw [HV.out], rfl⟩
        · have hs : sizeF b0 = 4 := HB0.out.2.2.trans hn
          have e2 : (nn == 2) = false := by rw [← HNN.out.1, hn]; rfl
          have e3 : (nn == 3) = false := by rw [← HNN.out.1, hn]; rfl
          have e4 : (nn == 4) = true := by rw [← HNN.out.1, hn]; rfl
          have hc := sizeF_cases b0
          have hv : (b0 : Int) - 240 = (B : Int) := by rw [← HBB.out]; unfold baseF; rw [hs, if_neg (by decide), if_neg (by decide), if_pos rfl]; omega
          have HV := hide hv
          clear hv hc hs hn
          go_wp2_with fail
          go_meet
          case rel => exact ⟨by rw [HV.out], rfl⟩
      case rest =>
        obtain ⟨rfl, rfl⟩ := hcut
        have HL0 : Hid (lowR t 0 = (B : Int)) := by show ((baseF (t.getD 0 0) : Nat) : Int) = _; rw [HB0.out.1, HBB.out]
        clear c1 dk hb256
        go_upto_block 3 with fail
        go_cut [7, 8] (fun s7 s8 wx => s7 = .int .i64 (lowR t j) ∧ s8 = .bool (fineR t j) ∧ wx = wc)
        case first => as_aux_lemma =>
          go_wp2_with fail
          go_loopg [7, 8, 9] 6 (fun f s7 s8 s9 wx => ∃ m : Nat, s9 = .int .i64 (m : Int) ∧ 1 ≤ m ∧ m ≤ j + 1 ∧ j + 1 - m < f ∧ s8 = .bool (fineR t (m - 1)) ∧ s7 = .int .i64 (lowR t (m - 1)) ∧ Hid (wx = wc))
          case atStart => exact ⟨1, rfl, Nat.le_refl _, by omega, by have := HJ.out.1; have := HNN.out.2.1; omega, rfl, by rw [show 1 - 1 = 0 from rfl, HL0.out], rfl⟩
          case round =>
            obtain ⟨m, rfl, hm1, hmj, hmf, rfl, rfl, HW⟩ := hrel
            by_cases hlt : m < j + 1
            · have dm : decide ((m : Int) < kk) = true := decide_eq_true (by rw [← HKK.out]; omega)
              have HMB : Hid (m < L ∧ m ≤ 3) := by have h1 := HJ.out; have h2 := HNN.out.2.1; exact ⟨by omega, by omega⟩
              obtain ⟨xn, hxn⟩ : ∃ x, t.getD m 0 = x := ⟨_, rfl⟩
              have hx256 : xn < 256 := by rw [← hxn]; exact getD_lt HBY.out m
              obtain ⟨x, hx⟩ : ∃ x : Int, (xn : Int) = x := ⟨_, rfl⟩
              have cm : wr.cell? ⟨q, o + m, none⟩ = some (.int .u8 x) := by
                have h := HC.out m HMB.out.1
                rw [hxn, hx] at h
                rw [HW.out]
                exact (HI.out.2.cell (p := ⟨q, o + m, none⟩) (block_lt_of_cell h)).trans h
              have hbd := lowR_bound HBY.out (m - 1) (by have := HMB.out.2; omega)
              have hnx : lowR t m = lowR t (m - 1) * 64 + x - 128 := by
                obtain ⟨m', rfl⟩ : ∃ m', m = m' + 1 := ⟨m - 1, by omega⟩
                show lowR t m' * 64 + (t.getD (m' + 1) 0 : Nat) - 128 = _
                rw [hxn, hx]; rfl
              have hfx : fineR t m = (fineR t (m - 1) && isPartF xn) := by
                obtain ⟨m', rfl⟩ : ∃ m', m = m' + 1 := ⟨m - 1, by omega⟩
                show (fineR t m' && isPartF (t.getD (m' + 1) 0)) = _
                rw [hxn]; rfl
              have HNX := hide (And.intro hnx hfx)
              have HXN := hide hx
              obtain ⟨lw, hlw⟩ : ∃ lw, lowR t (m - 1) = lw := ⟨_, rfl⟩
              have HLW := hide hlw
              rw [hlw] at hbd
              rw [hlw]
              obtain ⟨fb, hfb⟩ : ∃ fb, fineR t (m - 1) = fb := ⟨_, rfl⟩
              have HFB := hide hfb
              rw [hfb]
              have hx0 : 0 ≤ x := by omega
              have hx1 : x < 256 := by omega
              have im : (m : Int) < (L : Int) := by have := HMB.out.1; omega
              have hm4 : m ≤ 4 := by have := HMB.out.2; omega
              clear hxn hnx hfx hlw hfb HC HI hx hx256
              by_cases hx2 : x < 128
              · have k1 : decide (x < 128) = true := decide_eq_true hx2
                have HP : Hid (isPartF xn = false) := by show _ = _; unfold isPartF; have := HXN.out; exact decide_eq_false (by omega)
                go_wp2_with fail
                go_roundg (j + 1 - m)
                case measure => omega
                case rel => exact ⟨m + 1, rfl, by omega, by omega, by omega, by rw [Nat.add_sub_cancel, HNX.out.2, HP.out, Bool.and_false], by rw [Nat.add_sub_cancel, HNX.out.1, HLW.out], HW.out⟩
              · have k1 : decide (x < 128) = false := decide_eq_false hx2
                by_cases hx3 : 191 < x
                · have k2 : decide (191 < x) = true := decide_eq_true hx3
                  have HP : Hid (isPartF xn = false) := by show _ = _; unfold isPartF; have := HXN.out; exact decide_eq_false (by omega)
                  go_wp2_with fail
                  go_roundg (j + 1 - m)
                  case measure => omega
                  case rel => exact ⟨m + 1, rfl, by omega, by omega, by omega, by rw [Nat.add_sub_cancel, HNX.out.2, HP.out, Bool.and_false], by rw [Nat.add_sub_cancel, HNX.out.1, HLW.out], HW.out⟩
                · have k2 : decide (191 < x) = false := decide_eq_false hx3
                  have HP : Hid (isPartF xn = true) := by show _ = _; unfold isPartF; have := HXN.out; exact decide_eq_true (by omega)
                  go_wp2_with fail
                  go_roundg (j + 1 - m)
                  case measure => omega
                  case rel => exact ⟨m + 1, rfl, by omega, by omega, by omega, by rw [Nat.add_sub_cancel, HNX.out.2, HP.out, Bool.and_true, HFB.out], by rw [Nat.add_sub_cancel, HNX.out.1, HLW.out], HW.out⟩
            · have em : m = j + 1 := by omega
              have dm : decide ((m : Int) < kk) = false := decide_eq_false (by rw [← HKK.out]; omega)
              have HEM : Hid (m - 1 = j) := by show _ = _; omega
              clear em hlt hmj hmf hm1
              go_wp2_with fail
              go_meet
              case rel => exact ⟨by rw [HEM.out], by rw [HEM.out], HW.out⟩
        case rest =>
          obtain ⟨rfl, rfl, rfl⟩ := hcut
          clear i0
          have hn4 := HNN.out.2.1
          obtain ⟨lw, hlw⟩ : ∃ lw, lowR t j = lw := ⟨_, rfl⟩
          obtain ⟨fb, hfb⟩ : ∃ fb, fineR t j = fb := ⟨_, rfl⟩
          have hbd := lowR_bound HBY.out j (by have := HJ.out.1; omega)
          rw [hlw] at hbd
          have HMU := hide (mulO lw hbd.1 hbd.2)
          have HLW := hide (And.intro hlw hfb)
          rw [hlw, hfb]
          clear hn4 hlw hfb hbd
          obtain ⟨lo, hlo⟩ : ∃ lo : Int, lw * ((openF (n - (j + 1)) : Nat) : Int) = lo := ⟨_, rfl⟩
          obtain ⟨hi, hhi⟩ : ∃ hi : Int, lw * ((openF (n - (j + 1)) : Nat) : Int) + (((openF (n - (j + 1)) : Nat) : Int) - 1) = hi := ⟨_, rfl⟩
          have HLO := hide hlo
          have HHI := hide hhi
          clear hlo hhi
          go_upto_block 5 with fail
          go_cut [7, 10] (fun s7 s10 wx => s7 = .int .i64 lo ∧ s10 = .int .i64 hi ∧ wx = wc)
          case first => as_aux_lemma =>
            clear HI HC HRD
            go_wp2_with fail
            go_loopg [7, 10, 11] 6 (fun f s7 s10 s11 wx => ∃ m : Nat, s11 = .int .i64 (m : Int) ∧ j + 1 ≤ m ∧ m ≤ n ∧ n - m < f ∧ s7 = .int .i64 (lw * ((openF (m - (j + 1)) : Nat) : Int)) ∧ s10 = .int .i64 (lw * ((openF (m - (j + 1)) : Nat) : Int) + (((openF (m - (j + 1)) : Nat) : Int) - 1)) ∧ wx = wc)
            case atStart =>
              have h1 := HJ.out.1
              have h2 := HNN.out.2.1
              refine ⟨j + 1, by rw [HKK.out], Nat.le_refl _, h1, by omega, ?_, ?_, rfl⟩
              · rw [Nat.sub_self]; show Value.int .i64 lw = .int .i64 (lw * 1); rw [Int.mul_one]
              · rw [Nat.sub_self]; show Value.int .i64 lw = .int .i64 (lw * 1 + (1 - 1)); rw [Int.mul_one]; congr 1; omega
            case round =>
              obtain ⟨m, rfl, hmj, hmn, hmf, rfl, rfl, rfl⟩ := hrel
              by_cases hlt : m < n
              · have dm : decide ((m : Int) < nn) = true := decide_eq_true (by rw [← HNN.out.1]; omega)
                have hd3 : m - (j + 1) ≤ 2 := by have := HNN.out.2.1; omega
                have hb := HMU.out (m - (j + 1)) (by omega)
                have hs := mulO_succ lw (m - (j + 1)) hd3
                rw [show m - (j + 1) + 1 = m + 1 - (j + 1) from by omega] at hs
                have HSU := hide hs
                have ho := openF_ge (m - (j + 1))
                obtain ⟨A, hA⟩ : ∃ A, lw * ((openF (m - (j + 1)) : Nat) : Int) = A := ⟨_, rfl⟩
                obtain ⟨P, hP⟩ : ∃ P, A + (((openF (m - (j + 1)) : Nat) : Int) - 1) = P := ⟨_, rfl⟩
                rw [hA] at hb
                have hP1 : -200000 * 64 * 262144 ≤ P ∧ P ≤ 68000000 * 262144 + 262144 := by omega
                have hb1 := hb.1
                have hb2 := hb.2
                have hp1 := hP1.1
                have hp2 := hP1.2
                have HAP := hide (And.intro hA hP)
                have hm4 : m ≤ 4 := by have := HNN.out.2.1; omega
                rw [hA, hP]
                clear hb hs ho hA hP hP1 hd3
                go_wp2_with fail
                go_roundg (n - m)
                case measure => omega
                case rel => exact ⟨m + 1, rfl, by omega, by omega, by omega, by rw [HSU.out.1, HAP.out.1], by rw [HSU.out.2, HAP.out.1, HAP.out.2], rfl⟩
              · have HEM : Hid (m = n) := by show _ = _; omega
                have dm : decide ((m : Int) < nn) = false := decide_eq_false (by rw [← HNN.out.1]; omega)
                clear hlt hmj hmn hmf
                go_wp2_with fail
                go_meet
                case rel => exact ⟨by rw [HEM.out, HLO.out], by rw [HEM.out, HHI.out], rfl⟩
          case rest =>
            obtain ⟨rfl, rfl, rfl⟩ := hcut
            have hk1 : 1 ≤ kk := by rw [← HKK.out]; omega
            have hk2 : kk ≤ 4 := by rw [← HKK.out]; have h1 := HJ.out.1; have h2 := HNN.out.2.1; omega
            have HKJ : Hid (kk - 1 = (j : Int)) := by show _ = _; rw [← HKK.out]; omega
            cases fb
            · have HDN : Hid (readF t = downF t n j) := by
                show _ = _
                rw [HI.out.1]
                show (if goodR t j then _ else _) = _
                rw [if_neg (by unfold goodR; rw [HLW.out.2]; simp)]
              go_wp2_with fail
              go_roundg (j + 1)
              case measure => omega
              case rel => exact ⟨j, by rw [HKJ.out], by omega, by omega, HDN.out, HI.out.2⟩
            · have hlw : lw = ((lowN t j : Nat) : Int) := HLW.out.1.symm.trans (lowR_fine HLW.out.2)
              have hge := openF_ge (n - (j + 1))
              have hbo := lowN_bound (t := t) j (by rw [HN.out]; exact HJ.out.1)
              rw [HN.out] at hbo
              obtain ⟨E, hE⟩ : ∃ E, lowN t j * openF (n - (j + 1)) = E := ⟨_, rfl⟩
              rw [Nat.add_mul, Nat.one_mul, hE] at hbo
              have hlo : lo = ((E : Nat) : Int) := by rw [← HLO.out, hlw, ← hE]; push_cast; rfl
              have hhi : hi = ((E + (openF (n - (j + 1)) - 1) : Nat) : Int) := by
                rw [← HHI.out, HLO.out, hlo]; omega
              have hab := any_begins (t := t) j n HN.out HJ.out.1 HNN.out.2.1
              have hag := any_gap4 (t := t) j n HJ.out.1 HNN.out.2.1
              rw [hE, ← hlo, ← hhi] at hab hag
              have HAN := hide (rany_any lo hi nn n wc (by omega) (by omega) (by omega) (by have := HJ.out.1; omega) HNN.out.2.1 HNN.out.1 hag)
              rw [hab] at HAN
              have HGD : Hid (goodR t j = (stR t j).begins) := by show _ = _; unfold goodR; rw [HLW.out.2, Bool.true_and]
              have HW32 : Hid (wrap32 lo = lo) := by show _ = _; unfold wrap32; omega
              have HE := hide (And.intro hE hlo)
              obtain ⟨g, hg⟩ : ∃ g, (stR t j).begins = g := ⟨_, rfl⟩
              rw [hg] at HAN
              have HG := hide hg
              clear hlw hge hbo hE hlo hhi hab hag hg
              go_wp2_with fail
              refine HAN.out.mono ?_
              rintro r w5 ⟨rfl, b5⟩
              have HB5 : Hid (Below w1.heap.size w1 w5) := HI.out.2.trans (b5.mono HI.out.2.size)
              clear b5 HAN
              cases g
              · have HDN : Hid (readF t = downF t n j) := by
                  show _ = _
                  rw [HI.out.1]
                  show (if goodR t j then _ else _) = _
                  rw [if_neg (by rw [HGD.out, HG.out]; simp)]
                go_wp2_with fail
                go_roundg (j + 1)
                case measure => omega
                case rel => exact ⟨j, by rw [HKJ.out], by omega, by omega, HDN.out, HB5.out⟩
              · have HDN : Hid (readF t = (j + 1, decide (j + 1 = n))) := by
                  show _ = _
                  rw [HI.out.1]
                  show (if goodR t j then _ else _) = _
                  rw [if_pos (by rw [HGD.out, HG.out])]
                have hke : (kk == nn) = decide (j + 1 = n) := by
                  rw [← HKK.out, ← HNN.out.1]
                  show decide (((j + 1 : Nat) : Int) = ((n : Nat) : Int)) = _
                  exact decide_eq_decide.2 (by omega)
                have HKE := hide hke
                clear hke
                go_wp2_with fail
                go_ret3
                unfold RdP
                rw [HDN.out]
                refine ⟨lo, ?_, ?_, HB5.out⟩
                · show Ending.returned (.tuple #[.int .i32 (wrap32 lo), .int .i64 kk, .bool (kk == nn)]) = .returned (.tuple #[.int .i32 lo, .int .i64 ((j + 1 : Nat) : Int), .bool (decide (j + 1 = n))])
                  rw [HW32.out, HKE.out, HKK.out]
                · intro h
                  have h1 : j + 1 = n := of_decide_eq_true h
                  rw [HE.out.2, ← HE.out.1, show n - (j + 1) = 0 from by omega]
                  show ((lowN t j * 1 : Nat) : Int) = ((lowN t j : Nat) : Int)
                  rw [Nat.mul_one]
end Go.Proofs.YtijjifdgmffenaaDoor
