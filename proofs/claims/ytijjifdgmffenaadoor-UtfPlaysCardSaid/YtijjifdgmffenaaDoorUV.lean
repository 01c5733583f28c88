/-
  Walks: the reference's begins, its Decode, all.
-/
import Derived.Test.YtijjifdgmffenaaDoorUU
import Derived.Test.YtijjifdgmffenaaDoorUN
namespace Go.Proofs.YtijjifdgmffenaaDoor
open Go.RowKit

set_option maxHeartbeats 8000000 in
set_option maxRecDepth 100000 in
theorem rbegins_any (L cap : Nat) (p : Option Addr) (t : List Nat) (w : World) (hp : Piece w p cap t) (hl : t.length = L) (h0 : 0 < L) (h9 : L ≤ 99000) :
    Calls Tryd.prog 26 #[.slice p L cap] w fun e w' => e = .returned (.bool (beginsF t)) ∧ Below w.heap.size w w' := by
  have HR := hide (rread_any L cap p t w hp hl h0)
  rcases hp.1 with h | ⟨q, o, rfl, hcell⟩
  · subst h; simp at hl; omega
  obtain ⟨b0, hb0⟩ : ∃ b, t.getD 0 0 = b := ⟨_, rfl⟩
  have hb256 : b0 < 256 := by rw [← hb0]; exact getD_lt hp.2.2.1 0
  have hc0 : w.cell? ⟨q, o, none⟩ = some (.int .u8 (b0 : Int)) := by have h := hcell 0 (by omega); rw [hb0] at h; exact h
  have HC := hide hc0
  have HSZ := hide (fun v : World => rsize_any b0 v hb256)
  have i0 : (0 : Int) < (L : Int) := by omega
  obtain ⟨W, hW⟩ : ∃ W, (readF t).2 = W := ⟨_, rfl⟩
  obtain ⟨x, hx⟩ : ∃ x : Int, ((readF t).1 : Int) = x := ⟨_, rfl⟩
  obtain ⟨sz, hsz⟩ : ∃ s : Int, (sizeF b0 : Int) = s := ⟨_, rfl⟩
  obtain ⟨b, hb⟩ : ∃ b : Int, (b0 : Int) = b := ⟨_, rfl⟩
  have HF : Hid (beginsF t = (!(W || (x != (L : Int)) || decide (sz ≤ (L : Int))) && (decide ((1 : Int) < (L : Int)) || decide (194 ≤ b) && decide (b ≤ 244)))) := by
    show _ = _
    unfold beginsF
    rw [hW, hb0, hl]
    have e1 : ((readF t).1 != L) = (x != (L : Int)) := by
      rw [← hx]
      show (!decide ((readF t).1 = L)) = (!decide (((readF t).1 : Int) = (L : Int)))
      rw [decide_eq_decide.2 (show (readF t).1 = L ↔ ((readF t).1 : Int) = (L : Int) by omega)]
    have e2 : decide (sizeF b0 ≤ L) = decide (sz ≤ (L : Int)) := decide_eq_decide.2 (by omega)
    have e3 : decide (1 < L) = decide ((1 : Int) < (L : Int)) := decide_eq_decide.2 (by omega)
    have e4 : decide (194 ≤ b0) = decide (194 ≤ b) := decide_eq_decide.2 (by omega)
    have e5 : decide (b0 ≤ 244) = decide (b ≤ 244) := decide_eq_decide.2 (by omega)
    rw [e1, e2, e3, e4, e5]
  rw [HF.out]
  have HX := hide (And.intro hW hx)
  rw [hsz, hb] at HSZ
  have hb1 : 0 ≤ b := by omega
  have hb2 : b < 256 := by omega
  rw [hb] at HC
  obtain ⟨y1, hy1⟩ : ∃ y, (x != (L : Int)) = y := ⟨_, rfl⟩
  obtain ⟨y2, hy2⟩ : ∃ y, decide (sz ≤ (L : Int)) = y := ⟨_, rfl⟩
  obtain ⟨y3, hy3⟩ : ∃ y, decide ((1 : Int) < (L : Int)) = y := ⟨_, rfl⟩
  obtain ⟨y4, hy4⟩ : ∃ y, decide (194 ≤ b) = y := ⟨_, rfl⟩
  obtain ⟨y5, hy5⟩ : ∃ y, decide (b ≤ 244) = y := ⟨_, rfl⟩
  rw [hy1, hy2, hy3, hy4, hy5]
  clear HF hp hl h9 hcell hb0 hb256 hc0 hW hx hsz hb
  go_enter Tryd.func26, Tryd.ntmps26
  go_wp2_with fail
  refine HR.out.mono ?_
  rintro r w1 ⟨C, rfl, _, b1⟩
  rw [HX.out.1, HX.out.2]
  have c0 : w1.cell? ⟨q, o, none⟩ = some (.int .u8 b) := (b1.cell (p := ⟨q, o, none⟩) (block_lt_of_cell HC.out)).trans HC.out
  have HB1 := hide b1
  clear b1 HR
  cases W
  · cases y1
    · go_wp2_with fail
      refine (HSZ.out _).mono ?_
      rintro r w2 ⟨rfl, rfl⟩
      cases y2
      · cases y3
        · cases y4
          · go_wp2_with fail
            go_ret
            exact ⟨rfl, HB1.out⟩
          · cases y5
            · go_wp2_with fail
              go_ret
              exact ⟨rfl, HB1.out⟩
            · go_wp2_with fail
              go_ret
              exact ⟨rfl, HB1.out⟩
        · go_wp2_with fail
          go_ret
          exact ⟨rfl, HB1.out⟩
      · go_wp2_with fail
        go_ret
        exact ⟨rfl, HB1.out⟩
    · go_wp2_with fail
      go_ret
      exact ⟨rfl, HB1.out⟩
  · go_wp2_with fail
    go_ret
    exact ⟨rfl, HB1.out⟩

/-- what lies in memory between the rounds of the reference's Decode -/
structure RcS (w wx : World) (t : List Nat) (i : Nat) (v : Value) (ns : List Nat) : Prop where
  o : wx.ownsRow w.heap.size 21 1 v ns.length (i32s (ints ns))
  lo : Below w.heap.size w wx
  r : Dc.no.run t = ((Dc.no.run (t.drop i)).1, ns ++ (Dc.no.run (t.drop i)).2)
  n : ns.length ≤ i

set_option maxHeartbeats 8000000 in
set_option maxRecDepth 100000 in
theorem rdecode_any (L cap : Nat) (p : Option Addr) (t : List Nat) (w : World) (hp : Piece w p cap t) (hl : t.length = L) (h9 : L ≤ 99000) :
    Calls Tryd.prog 16 #[.slice p L cap] w fun e w' => ∃ v, e = .returned (.tuple #[v, .int .i64 ((Dc.no.run t).1.h : Int)]) ∧ w'.ownsRow w.heap.size 21 1 v (Dc.no.run t).2.length (i32s (ints (Dc.no.run t).2)) ∧ Below w.heap.size w w' := by
  have HP := hide (And.intro hp (And.intro hl h9))
  have HS0 : Hid (RcS w w t 0 (.slice none 0 0) []) := ⟨⟨rfl, Or.inl ⟨rfl, rfl⟩⟩, Below.refl _ _, rfl, Nat.le_refl _⟩
  clear hp hl h9
  go_enter Tryd.func16, Tryd.ntmps16
  go_wp2_with fail
  go_loopg [4, 5] (L + 1) (fun f s4 s5 wx => ∃ (i : Nat) (ns : List Nat), s5 = .int .i64 (i : Int) ∧ i ≤ L ∧ L - i < f ∧ Hid (RcS w wx t i s4 ns))
  case atStart => exact ⟨0, [], rfl, Nat.zero_le _, by omega, HS0.out⟩
  case round =>
    clear HS0
    obtain ⟨i, ns, rfl, hiL, hif, HS⟩ := hrel
    by_cases hlt : i < L
    · obtain ⟨x, hx⟩ : ∃ x : Int, (i : Int) = x := ⟨_, rfl⟩
      rw [hx]
      have dk : decide (x < (L : Int)) = true := decide_eq_true (by omega)
      have S1 : ∀ v : World, (Instr.slice 22 (.slice p L cap) (some (.int .i64 x)) none none).run Tryd.prog v = .ok (.slice (cutP p i cap) (L - i) (cap - i)) v := fun v => by rw [← hx]; exact run_fromL v p L cap i (by omega)
      have hPi := (HP.out.1.kept HS.out.lo).from i (by rw [HP.out.2.1]; omega)
      have hTl : (t.drop i).length = L - i := by rw [List.length_drop, HP.out.2.1]
      have HRD := hide (rread_any (L - i) (cap - i) (cutP p i cap) (t.drop i) wr hPi hTl (by omega))
      have hne : t.drop i ≠ [] := fun e => by rw [e] at hTl; simp at hTl; omega
      have hrr := read_run hne (fun y hy => HP.out.1.2.2.1 y (List.mem_of_mem_drop hy))
      have HX := hide hx
      have HPI := hide hPi
      have HTL := hide hTl
      have h9 := HP.out.2.2
      have hx0 : 0 ≤ x := by omega
      have hx9 : x ≤ 99000 := by omega
      have HNL : Hid (ns.length + 1 ≤ 17592186044416) := by have := HS.out.n; show _ ≤ _; omega
      have HLT := hide hlt
      clear hx hPi hTl hne h9 hlt
      rcases hrr with ⟨j, hj, hrd, hrun, hlow⟩ | ⟨j, hj, hrd, hjl, hbg, hr1, hr2⟩ | ⟨j, hj, hrd, hnb, hrun⟩
      · -- a whole one
        have HRR := hide (And.intro hrd hrun)
        have HJ : Hid (i + j + 1 ≤ L) := by have := HTL.out; show _ ≤ _; omega
        have hj9 : j + 1 ≤ 99000 := by have := HJ.out; have := HP.out.2.2; omega
        obtain ⟨y, hy⟩ : ∃ y : Int, ((j + 1 : Nat) : Int) = y := ⟨_, rfl⟩
        have hy0 : 0 ≤ y := by omega
        have hy9 : y ≤ 99000 := by omega
        have HY := hide hy
        clear hrd hrun hlow hj hj9 hy
        go_wp2_with fail
        refine HRD.out.mono ?_
        rintro r w1 ⟨C, rfl, hC, b1⟩
        rw [HRR.out.1] at hC
        have hC1 : C = (lowN (t.drop i) j : Int) := hC rfl
        subst hC1
        rw [HRR.out.1, HY.out]
        have HS1 := hide (And.intro (own_below HS.out.o b1) (HS.out.lo.trans (b1.mono HS.out.lo.size)))
        clear hC b1 HRD S1
        go_wp2_with (refine wpList_append_runes rfl _ _ rfl w.heap.size _ (ints ns) rfl ns.length (ints_length _) (own_below HS1.out.1 ((Below.refl _ _).alloc (Nat.le_refl _) _)) (some ⟨_, 0, none⟩) 1 1 [(lowN (t.drop i) j : Int)] rfl rfl (ni_one (heap_alloc_new _ _)) (fun h => by cases h) HNL.out (Nat.le_trans HS1.out.2.size (by simp)) ?_; intro v5 w5 ho5 hw5; have HO5 := hide ho5; have HB5 := hide ((HS1.out.2.alloc HS1.out.2.size _).grown hw5 (Nat.le_trans HS1.out.2.size (by simp)) (fun k hk => own_ge HS1.out.1 k hk)); clear ho5 hw5)
        go_roundg (L - i)
        case measure => omega
        case rel =>
          have hxy : x + y = ((i + (j + 1) : Nat) : Int) := by rw [← HX.out, ← HY.out]; push_cast; rfl
          refine ⟨i + (j + 1), ns ++ [lowN (t.drop i) j], by rw [hxy], by have := HJ.out; omega, by have := HJ.out; omega, ?_, HB5.out, ?_, ?_⟩
          · rw [List.length_append, ints_append]; exact HO5.out
          · rw [HS.out.r, HRR.out.2, List.drop_drop, List.append_assoc]; rfl
          · rw [List.length_append]; have := HS.out.n; show _ + 1 ≤ _; omega
      · -- what is held
        have HRR := hide (And.intro hrd (And.intro hr1 hr2))
        have HBG := hide (rbegins_any (L - i) (cap - i) (cutP p i cap) (t.drop i))
        obtain ⟨y, hy⟩ : ∃ y : Int, ((j + 1 : Nat) : Int) = y := ⟨_, rfl⟩
        have hj9 : j + 1 ≤ 99000 := by have := HTL.out; have := HP.out.2.2; omega
        have hy0 : 0 ≤ y := by omega
        have hy9 : y ≤ 99000 := by omega
        have HY : Hid (((j + 1 : Nat) : Int) = y ∧ j + 1 = (t.drop i).length ∧ beginsF (t.drop i) = true) := ⟨hy, hjl, hbg⟩
        have heq : (x + y == (L : Int)) = true := by
          have h1 := HTL.out
          have h2 := HX.out
          have h3 := HLT.out
          have e : x + y = (L : Int) := by omega
          rw [e]; simp
        clear hrd hjl hbg hr1 hr2 hj hy hj9
        go_wp2_with fail
        refine HRD.out.mono ?_
        rintro r w1 ⟨C, rfl, _, b1⟩
        rw [HRR.out.1, HY.out.1]
        have HS1 := hide (And.intro (own_below HS.out.o b1) (HS.out.lo.trans (b1.mono HS.out.lo.size)))
        have HBG1 := HBG.out w1 (HPI.out.kept b1) HTL.out (by have := HLT.out; omega) (by have := HP.out.2.2; omega)
        rw [HY.out.2.2] at HBG1
        have HBG2 := hide HBG1
        clear b1 HRD HBG HBG1
        go_wp2_with fail
        refine HBG2.out.mono ?_
        rintro r w2 ⟨rfl, b2⟩
        have HS2 := hide (And.intro (own_below HS1.out.1 b2) (HS1.out.2.trans (b2.mono HS1.out.2.size)))
        clear b2 HBG2 HS1 S1
        go_wp2_with fail
        go_ret2
        have e1 : (Dc.no.run t).2 = ns := by rw [HS.out.r]; show ns ++ _ = ns; rw [HRR.out.2.1, List.append_nil]
        have e2 : (((Dc.no.run t).1.h : Nat) : Int) = y := by rw [HS.out.r]; show (((Dc.no.run (t.drop i)).1.h : Nat) : Int) = y; rw [HRR.out.2.2, ← HY.out.2.1, HY.out.1]
        rw [e1, e2]
        exact ⟨_, rfl, HS2.out⟩
      · -- Bad
        have HRR := hide (And.intro hrd hrun)
        have HBG := hide (rbegins_any (L - i) (cap - i) (cutP p i cap) (t.drop i))
        have HJ : Hid (i + j + 1 ≤ L) := by have := HTL.out; show _ ≤ _; omega
        have hj9 : j + 1 ≤ 99000 := by have := HJ.out; have := HP.out.2.2; omega
        obtain ⟨y, hy⟩ : ∃ y : Int, ((j + 1 : Nat) : Int) = y := ⟨_, rfl⟩
        have hy0 : 0 ≤ y := by omega
        have hy9 : y ≤ 99000 := by omega
        have HY := hide hy
        have HNB := hide hnb
        clear hrd hrun hnb hj hj9 hy
        go_wp2_with fail
        refine HRD.out.mono ?_
        rintro r w1 ⟨C, rfl, _, b1⟩
        rw [HRR.out.1, HY.out]
        have HS1 := hide (And.intro (own_below HS.out.o b1) (HS.out.lo.trans (b1.mono HS.out.lo.size)))
        have HBG1 := hide (HBG.out w1 (HPI.out.kept b1) HTL.out (by have := HLT.out; omega) (by have := HP.out.2.2; omega))
        clear b1 HRD HBG
        obtain ⟨E, hE⟩ : ∃ E, (x + y == (L : Int)) = E := ⟨_, rfl⟩
        have HE := hide hE
        cases E
        · go_wp2_with (refine wpList_append_runes rfl _ _ rfl w.heap.size _ (ints ns) rfl ns.length (ints_length _) (own_below HS1.out.1 ((Below.refl _ _).alloc (Nat.le_refl _) _)) (some ⟨_, 0, none⟩) 1 1 [(65533 : Int)] rfl rfl (ni_one (heap_alloc_new _ _)) (fun h => by cases h) HNL.out (Nat.le_trans HS1.out.2.size (by simp)) ?_; intro v5 w5 ho5 hw5; have HO5 := hide ho5; have HB5 := hide ((HS1.out.2.alloc HS1.out.2.size _).grown hw5 (Nat.le_trans HS1.out.2.size (by simp)) (fun k hk => own_ge HS1.out.1 k hk)); clear ho5 hw5)
          go_roundg (L - i)
          case measure => omega
          case rel =>
            have hxy : x + y = ((i + (j + 1) : Nat) : Int) := by rw [← HX.out, ← HY.out]; push_cast; rfl
            refine ⟨i + (j + 1), ns ++ [65533], by rw [hxy], by have := HJ.out; omega, by have := HJ.out; omega, ?_, HB5.out, ?_, ?_⟩
            · rw [List.length_append, ints_append]; exact HO5.out
            · rw [HS.out.r, HRR.out.2, List.drop_drop, List.append_assoc]; rfl
            · rw [List.length_append]; have := HS.out.n; show _ + 1 ≤ _; omega
        · have hbf : beginsF (t.drop i) = false := HNB.out (by
            have h1 := HTL.out
            have h2 := HX.out
            have h3 := HY.out
            have h4 := HLT.out
            have h5 : x + y = (L : Int) := by simpa using HE.out
            omega)
          rw [hbf] at HBG1
          clear hbf
          go_wp2_with fail
          refine HBG1.out.mono ?_
          rintro r w2 ⟨rfl, b2⟩
          have HS2 := hide (And.intro (own_below HS1.out.1 b2) (HS1.out.2.trans (b2.mono HS1.out.2.size)))
          clear b2 HBG1 HS1 S1
          go_wp2_with (refine wpList_append_runes rfl _ _ rfl w.heap.size _ (ints ns) rfl ns.length (ints_length _) (own_below HS2.out.1 ((Below.refl _ _).alloc (Nat.le_refl _) _)) (some ⟨_, 0, none⟩) 1 1 [(65533 : Int)] rfl rfl (ni_one (heap_alloc_new _ _)) (fun h => by cases h) HNL.out (Nat.le_trans HS2.out.2.size (by simp)) ?_; intro v5 w5 ho5 hw5; have HO5 := hide ho5; have HB5 := hide ((HS2.out.2.alloc HS2.out.2.size _).grown hw5 (Nat.le_trans HS2.out.2.size (by simp)) (fun k hk => own_ge HS2.out.1 k hk)); clear ho5 hw5)
          go_roundg (L - i)
          case measure => omega
          case rel =>
            have hxy : x + y = ((i + (j + 1) : Nat) : Int) := by rw [← HX.out, ← HY.out]; push_cast; rfl
            refine ⟨i + (j + 1), ns ++ [65533], by rw [hxy], by have := HJ.out; omega, by have := HJ.out; omega, ?_, HB5.out, ?_, ?_⟩
            · rw [List.length_append, ints_append]; exact HO5.out
            · rw [HS.out.r, HRR.out.2, List.drop_drop, List.append_assoc]; rfl
            · rw [List.length_append]; have := HS.out.n; show _ + 1 ≤ _; omega
    · have ei : i = L := by omega
      have hd : t.drop i = [] := List.drop_eq_nil_of_le (by rw [HP.out.2.1]; omega)
      have hr := HS.out.r
      rw [hd] at hr
      have hr' : Dc.no.run t = (Dc.no, ns) := by rw [hr]; show (Dc.no, ns ++ []) = _; rw [List.append_nil]
      obtain ⟨x, hx⟩ : ∃ x : Int, (i : Int) = x := ⟨_, rfl⟩
      rw [hx]
      have dk : decide (x < (L : Int)) = false := decide_eq_false (by omega)
      have HRR := hide hr'
      clear hx
      clear ei hd hr hr' hlt hiL hif
      go_wp2_with fail
      go_ret2
      rw [HRR.out]
      exact ⟨_, rfl, HS.out.o, HS.out.lo⟩
end Go.Proofs.YtijjifdgmffenaaDoor
