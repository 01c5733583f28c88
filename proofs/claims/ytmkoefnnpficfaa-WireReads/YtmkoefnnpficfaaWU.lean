/-
  Walks of the document's answer: its reader's calls are the same plain functions on what is left and the error.
-/
import Derived.Test.YtmkoefnnpficfaaWT
namespace Go.Proofs.Ytmkoefnnpficfaa
open Go.RowKit
variable {A : Nat → Prop}

theorem Rd.seterr {w : World} {b : Nat} {bs : List Int} {x : Int} (h : Rd A w b bs x) (y : Int) :
    Rd A (w.setCell ⟨b, 1, none⟩ (.int .i64 y)) b bs y ∧ w.grownBy (w.setCell ⟨b, 1, none⟩ (.int .i64 y)) (some b) := by
  obtain ⟨p, cap, h0, h1, f0, f1, hlc, hm, hs, hb, hne⟩ := h
  have g : w.grownBy (w.setCell ⟨b, 1, none⟩ (.int .i64 y)) (some b) := ⟨rfl, rfl, rfl, by simp, fun k _ hk => heap_setCell_other w ⟨b, 1, none⟩ k _ (fun e => hk (by simp [e]))⟩
  refine ⟨⟨p, cap, ?_, World.cell?_setCell_same _ _ _ h1, by rw [World.frozen?_setCell]; exact f0, by rw [World.frozen?_setCell]; exact f1, hlc, hm, hs, bytes_kept hb g (fun a ha e => (hne a ha).2 (by simpa using e)), hne⟩, g⟩
  rw [World.cell?_setCell_other _ _ _ _ (by simp)]
  exact h0

set_option maxHeartbeats 1000000 in
set_option maxRecDepth 100000 in
theorem rrnum_any (b : Nat) (bs : List Int) (x : Int) (w : World) (hr : Rd A w b bs x) :
    Calls Try.prog 18 #[.pointer (some ⟨b, 0, none⟩)] w fun e w' => e = .returned (.int .u64 ((sNum bs x).1 : Nat)) ∧ Rd A w' b (sNum bs x).2.1 (sNum bs x).2.2 ∧ w.grownBy w' (some b) := by
  have HR := hide hr
  have hlt := hr.lt
  obtain ⟨p, cap, h0, h1, f0, f1, hlc, hm, hs, hb, hne⟩ := hr
  by_cases hx : x = 0
  · subst hx
    have hfm := refform_any p cap bs w hb hlc hs
    have HFM := hide hfm
    have HBY := hide hb.1
    clear hfm hb hne
    generalize hn : bs.length = n at *
    have HN := hide hn
    clear hn
    rcases hrd : rdNum bs with _ | ⟨m, rest⟩
    · have e1 : formOf bs = (0, 0) := by rw [formOf, hrd]
      have e2 : sNum bs 0 = (0, bs, 4) := by rw [sNum, if_pos rfl, hrd]
      rw [e1] at HFM
      rw [e2]
      clear e1 e2 hrd
      go_enter Try.func18, Try.ntmps18
      go_wp2_with fail
      refine (show Calls _ _ _ _ _ from HFM.out).mono ?_
      rintro e w1 ⟨rfl, hbl⟩
      have c1 := (hbl.cell (p := ⟨b, 1, none⟩) hlt).trans h1
      have g1 := (hbl.frozen (p := ⟨b, 1, none⟩) hlt).trans f1
      have HBL := hide hbl
      clear hbl HFM
      go_wp2
      go_ret
      have hst := (HR.out.kept HBL.out).seterr 4
      exact ⟨rfl, hst.1, grown_trans (below_grown HBL.out _) hst.2⟩
    · have e1 : formOf bs = (m, n - rest.length) := by rw [formOf, hrd, HN.out]
      have e2 : sNum bs 0 = (m, rest, 0) := by rw [sNum, if_pos rfl, hrd]
      have hfo := rdNum_form HBY.out hrd
      have hL : 1 ≤ (numF m).length := (numF_length m).1
      have hln : (numF m).length + rest.length = n := by rw [← HN.out, ← hfo]; simp
      have hdr : Hid (bs.drop (n - rest.length) = rest) := by
        show bs.drop (n - rest.length) = rest
        rw [show n - rest.length = (numF m).length by omega, ← hfo]; simp
      rw [e1] at HFM
      rw [e2]
      obtain ⟨k, hk⟩ : ∃ k, k = n - rest.length := ⟨_, rfl⟩
      have hk1 : 1 ≤ k := by omega
      have hkn : k ≤ n := by omega
      rw [← hk] at HFM hdr
      clear e1 e2 hrd hfo hL hln hk
      have hkz : ((k : Int) == 0) = false := by simp; omega
      have hfr := fun w => run_from w p n cap k hkn
      go_enter Try.func18, Try.ntmps18
      go_wp2_with fail
      refine (show Calls _ _ _ _ _ from HFM.out).mono ?_
      rintro e w1 ⟨rfl, hbl⟩
      have c0 := (hbl.cell (p := ⟨b, 0, none⟩) hlt).trans h0
      have g0 := (hbl.frozen (p := ⟨b, 0, none⟩) hlt).trans f0
      have HBL := hide hbl
      clear hbl HFM h0 h1 f0 f1
      go_wp2
      go_ret
      have hst := (HR.out.kept HBL.out).stored k (by rw [HN.out]; exact hkn) p cap (by rw [HN.out]; exact c0)
      rw [HN.out, hdr.out] at hst
      exact ⟨rfl, hst.1, grown_trans (below_grown HBL.out _) hst.2⟩
  · have e2 : sNum bs x = (0, bs, x) := by rw [sNum, if_neg hx]
    rw [e2]
    have hx' : (x != 0) = true := by simpa using hx
    clear hx hb hne e2
    go_enter Try.func18, Try.ntmps18
    go_wp2
    go_ret
    exact ⟨rfl, HR.out, grown_refl _ _⟩

set_option maxHeartbeats 400000 in
theorem rrend_any (b : Nat) (bs : List Int) (x : Int) (w : World) (hr : Rd A w b bs x) :
    Calls Try.prog 28 #[.pointer (some ⟨b, 0, none⟩)] w fun e w' => e = .returned (.int .i64 (endOf bs x)) ∧ w' = w := by
  obtain ⟨p, cap, h0, h1, f0, f1, hlc, hm, hs, hb, hne⟩ := hr
  clear hb hne
  by_cases hx : x = 0
  · subst hx
    by_cases hbs : bs = []
    · subst hbs
      go_enter Try.func28, Try.ntmps28
      go_wp2
      go_ret
      exact ⟨rfl, rfl⟩
    · have hpos : 0 < bs.length := by cases bs; exact absurd rfl hbs; simp
      have HB := hide hbs
      clear hbs
      generalize hn : bs.length = n at *
      clear hn
      go_enter Try.func28, Try.ntmps28
      go_wp2
      go_ret
      exact ⟨ret_i64 (by rw [endOf, if_pos rfl, if_neg HB.out]), rfl⟩
  · have hx' : (x == 0) = false := by simpa using hx
    have HX := hide hx
    clear hx
    go_enter Try.func28, Try.ntmps28
    go_wp2
    go_ret
    exact ⟨ret_i64 (by rw [endOf, if_neg HX.out]), rfl⟩

/-- the reader behind all is taken -/
theorem Rd.emptied {w : World} {b : Nat} {bs : List Int} {x : Int} (h : Rd A w b bs x) :
    Rd A (w.setCell ⟨b, 0, none⟩ (.slice none 0 0)) b [] x ∧ w.grownBy (w.setCell ⟨b, 0, none⟩ (.slice none 0 0)) (some b) := by
  obtain ⟨p, cap, h0, h1, f0, f1, hlc, hm, hs, hb, hne⟩ := h
  refine ⟨⟨none, 0, World.cell?_setCell_same _ _ _ h0, ?_, by rw [World.frozen?_setCell]; exact f0, by rw [World.frozen?_setCell]; exact f1, Nat.le_refl _, Nat.zero_le _, Nat.zero_le _, ⟨by simp, Or.inl rfl⟩, fun a h => by cases h⟩,
    ⟨rfl, rfl, rfl, by simp, fun k _ hk => heap_setCell_other w ⟨b, 0, none⟩ k _ (fun e => hk (by simp [e]))⟩⟩
  rw [World.cell?_setCell_other _ _ _ _ (by simp)]
  exact h1

set_option maxHeartbeats 400000 in
theorem rrest_any (b : Nat) (bs : List Int) (x : Int) (w : World) (hr : Rd A w b bs x) :
    Calls Try.prog 24 #[.pointer (some ⟨b, 0, none⟩)] w fun e w' => ∃ q c, e = .returned (.slice q (sRest bs x).1.length c) ∧ BytesIn w' q (sRest bs x).1 ∧ Rd A w' b (sRest bs x).2.1 (sRest bs x).2.2 ∧ w.grownBy w' (some b) := by
  have HR := hide hr
  obtain ⟨p, cap, h0, h1, f0, f1, hlc, hm, hs, hb, hne⟩ := hr
  have HB := hide hb
  have HNE := hide hne
  clear hb hne
  by_cases hx : x = 0
  · subst hx
    have e2 : sRest bs 0 = (bs, [], 0) := rfl
    rw [e2]
    clear e2
    generalize hn : bs.length = n at *
    have HN := hide hn
    clear hn
    go_enter Try.func24, Try.ntmps24
    go_wp2
    go_ret
    have hst := HR.out.emptied
    exact ⟨p, cap, rfl, bytes_kept HB.out hst.2 (fun a ha e => (HNE.out a ha).2 (by simpa using e)), hst.1, hst.2⟩
  · have e2 : sRest bs x = ([], bs, x) := by rw [sRest, if_neg hx]
    rw [e2]
    have hx' : (x != 0) = true := by simpa using hx
    clear hx e2
    go_enter Try.func24, Try.ntmps24
    go_wp2
    go_ret
    exact ⟨none, 0, rfl, ⟨by simp, Or.inl rfl⟩, HR.out, grown_refl _ _⟩


set_option maxHeartbeats 1000000 in
set_option maxRecDepth 100000 in
theorem rrfix_any (b : Nat) (s : Int) (bs : List Int) (x : Int) (w : World) (hr : Rd A w b bs x) :
    Calls Try.prog 20 #[.pointer (some ⟨b, 0, none⟩), .int .i64 s] w fun e w' => e = .returned (.int .u64 ((sFix s bs x).1 : Nat)) ∧ Rd A w' b (sFix s bs x).2.1 (sFix s bs x).2.2 ∧ w.grownBy w' (some b) := by
  have HR := hide hr
  have hlt := hr.lt
  obtain ⟨p, cap, h0, h1, f0, f1, hlc, hm, hs, hb, hne⟩ := hr
  have HB := hide hb
  clear hb hne
  by_cases hx : x = 0
  · subst hx
    by_cases hok : 1 ≤ s ∧ s ≤ 8 ∧ s ≤ bs.length
    · have e2 : sFix s bs 0 = (valF (bs.take s.toNat), bs.drop s.toNat, 0) := by rw [sFix, if_pos rfl, if_pos hok]
      rw [e2]
      clear e2
      obtain ⟨hs1, hs8, hsl⟩ := hok
      obtain ⟨l, rfl⟩ := Int.eq_ofNat_of_zero_le (show 0 ≤ s by omega)
      rw [Int.toNat_natCast]
      have hpos : 0 < bs.length := by omega
      rcases HB.out.2 with h | ⟨pb, po, rfl, hcell⟩
      · rw [h] at hpos; simp at hpos
      have HC := hide hcell
      clear hcell hpos
      generalize hn : bs.length = n at *
      have HN := hide hn
      clear hn
      have d1 : decide ((l : Int) < 1) = false := by simp; omega
      have d8 : decide ((8 : Int) < (l : Int)) = false := by simp; omega
      have dl : decide (n < l) = false := by simp; omega
      have hfr := fun w => run_from w (some ⟨pb, po, none⟩) n cap l (by omega)
      go_enter Try.func20, Try.ntmps20
      go_wp2
      go_loopg [5, 6] 10 (fun r s5 s6 wx => ∃ i : Nat, s5 = .int .u64 ((valF (bs.take i) : Nat) : Int) ∧ s6 = .int .i64 i ∧ i ≤ l ∧ l - i < r ∧ wx = w)
      case atStart => exact ⟨0, rfl, rfl, by omega, by omega, rfl⟩
      case round =>
        obtain ⟨i, rfl, rfl, hil, hir, hw⟩ := hrel
        have hw' := hw.symm
        clear hw
        subst hw'
        by_cases hlt2 : i < l
        · have hib : i < bs.length := by rw [HN.out]; omega
          have hci := HC.out i (by omega)
          have hv := valF_lt HB.out.1 i (by omega)
          have hp : (256 : Nat) ^ i ≤ 256 ^ 7 := Nat.pow_le_pow_right (by omega) (by omega)
          have hv7 : valF (bs.take i) < 72057594037927936 := Nat.lt_of_lt_of_le hv hp
          have HV : Hid (valF (bs.take (i + 1)) = valF (bs.take i) * 256 + (bs.getD i 0).toNat) := valF_take hib
          have hyb := HB.out.1 (bs.getD i 0) (by simp [List.getD, hib])
          clear hp hv hib
          generalize valF (bs.take i) = m at *
          generalize bs.getD i 0 = y at *
          go_wp2
          go_roundg (l - i)
          case measure => omega
          case rel => exact ⟨i + 1, int_u64 (by rw [HV.out]; omega), by go_num, by omega, by omega, rfl⟩
        · have e : i = l := by omega
          subst e
          go_wp2
          go_ret
          have hst := HR.out.stored i (by rw [HN.out]; omega) (some ⟨pb, po, none⟩) cap (by rw [HN.out]; exact h0)
          rw [HN.out] at hst
          exact ⟨rfl, hst.1, hst.2⟩
    · have e2 : sFix s bs 0 = (0, bs, 4) := by rw [sFix, if_pos rfl, if_neg hok]
      rw [e2]
      clear e2
      generalize hn : bs.length = n at *
      clear hn
      have three : s < 1 ∨ (decide (s < 1) = false ∧ 8 < s) ∨ (decide (s < 1) = false ∧ decide (8 < s) = false ∧ (n : Int) < s) := by
        by_cases h1 : s < 1
        · exact Or.inl h1
        · by_cases h8 : 8 < s
          · right; left; exact ⟨by simpa using h1, h8⟩
          · right; right; exact ⟨by simpa using h1, by simpa using h8, by omega⟩
      clear hok
      rcases three with t1 | ⟨t1, t2⟩ | ⟨t1, t2, t3⟩
      all_goals
        go_enter Try.func20, Try.ntmps20
        go_wp2
        go_ret
        have hst := HR.out.seterr 4
        exact ⟨rfl, hst.1, hst.2⟩
  · have e2 : sFix s bs x = (0, bs, x) := by rw [sFix, if_neg hx]
    rw [e2]
    have hx' : (x != 0) = true := by simpa using hx
    clear hx e2
    go_enter Try.func20, Try.ntmps20
    go_wp2
    go_ret
    exact ⟨rfl, HR.out, grown_refl _ _⟩

theorem run_mid (w : World) (p : Option Addr) (n cap k m : Nat) (h : k + m ≤ cap) :
    (Instr.slice 23 (.slice p n cap) (some (.int .i64 (k : Int))) (some (.int .i64 ((k : Int) + (m : Int)))) none).run Try.prog w = .ok (.slice (cutP p k cap) m (cap - k)) w := by
  have ht' : Try.prog.underlying 23 = some (.slice (Try.prog.elem 23)) := by simp [Program.elem, Try.underlying23]
  have he : Try.prog.elem 23 = 5 := by simp [Program.elem, Try.underlying23]
  rw [run_slice_lh w 23 _ _ _ ht' .i64 .i64 _ _ (by omega) (by omega) (by omega), he, size5]
  have e : ((k : Int) + (m : Int)).toNat - k = m := by omega
  simp [Result.andThen, sliced, cutP, e]

set_option maxHeartbeats 4000000 in
set_option maxRecDepth 100000 in
theorem rrtxt_any (b : Nat) (most : Int) (hmost : most ≤ 9223372036854775807) (bs : List Int) (x : Int) (w : World) (hr : Rd A w b bs x) (hsmall : bs.length ≤ 100000) :
    Calls Try.prog 22 #[.pointer (some ⟨b, 0, none⟩), .int .i64 most] w fun e w' => ∃ q c, e = .returned (.slice q (sTxt most bs x).1.length c) ∧ BytesIn w' q (sTxt most bs x).1 ∧ Rd A w' b (sTxt most bs x).2.1 (sTxt most bs x).2.2 ∧ w.grownBy w' (some b) := by
  have HR := hide hr
  have hlt := hr.lt
  obtain ⟨p, cap, h0, h1, f0, f1, hlc, hcm, hs, hb, hne⟩ := hr
  unfold maxLen at hcm
  by_cases hx : x = 0
  · subst hx
    have hfm := refform_any p cap bs w hb hlc hs
    have HFM := hide hfm
    have HBY := hide hb.1
    have HB := hide hb
    clear hfm hb hne
    generalize hn : bs.length = n at *
    have HN := hide hn
    clear hn
    by_cases hneg : most < 0
    · have hT : most.toNat = 0 := by omega
      rcases hrd : rdNum bs with _ | ⟨m, rest⟩
      · have e1 : formOf bs = (0, 0) := by rw [formOf, hrd]
        have e2 : sTxt most bs 0 = ([], bs, 4) := by rw [sTxt, if_pos rfl, rdTxt, hrd]
        rw [e1] at HFM
        rw [e2]
        clear e1 e2 hrd
        go_enter Try.func22, Try.ntmps22
        go_wp2_with fail
        refine (show Calls _ _ _ _ _ from HFM.out).mono ?_
        rintro e w1 ⟨rfl, hbl⟩
        have c0 := (hbl.cell (p := ⟨b, 0, none⟩) hlt).trans h0
        have c1 := (hbl.cell (p := ⟨b, 1, none⟩) hlt).trans h1
        have g1 := (hbl.frozen (p := ⟨b, 1, none⟩) hlt).trans f1
        have HBL := hide hbl
        clear hbl HFM
        go_wp2
        go_ret
        have hst := (HR.out.kept HBL.out).seterr 4
        exact ⟨none, 0, rfl, ⟨by simp, Or.inl rfl⟩, hst.1, grown_trans (below_grown HBL.out _) hst.2⟩
      · have e1 : formOf bs = (m, n - rest.length) := by rw [formOf, hrd, HN.out]
        have hfo := rdNum_form HBY.out hrd
        have hL : 1 ≤ (numF m).length := (numF_length m).1
        have hln : (numF m).length + rest.length = n := by rw [← HN.out, ← hfo]; simp
        have hdr : Hid (bs.drop (n - rest.length) = rest) := by
          show bs.drop (n - rest.length) = rest
          rw [show n - rest.length = (numF m).length by omega, ← hfo]; simp
        rw [e1] at HFM
        obtain ⟨k, hk⟩ : ∃ k, k = n - rest.length := ⟨_, rfl⟩
        have hk1 : 1 ≤ k := by omega
        have hkn : k ≤ n := by omega
        have hrl : rest.length = n - k := by omega
        rw [← hk] at HFM hdr
        have hkz : ((k : Int) == 0) = false := by simp; omega
        have HRL := hide hrl
        clear e1 hfo hL hln hk hrl
        by_cases hlong : 0 < m
        · have e2 : sTxt most bs 0 = ([], bs, 3) := by rw [sTxt, if_pos rfl, rdTxt, hrd]; simp [hT, hlong]
          rw [e2]
          clear e2 hrd
          go_enter Try.func22, Try.ntmps22
          go_wp2_with fail
          refine (show Calls _ _ _ _ _ from HFM.out).mono ?_
          rintro e w1 ⟨rfl, hbl⟩
          have c0 := (hbl.cell (p := ⟨b, 0, none⟩) hlt).trans h0
          have c1 := (hbl.cell (p := ⟨b, 1, none⟩) hlt).trans h1
          have g1 := (hbl.frozen (p := ⟨b, 1, none⟩) hlt).trans f1
          have HBL := hide hbl
          clear hbl HFM
          go_wp2
          go_ret
          have hst := (HR.out.kept HBL.out).seterr 3
          exact ⟨none, 0, rfl, ⟨by simp, Or.inl rfl⟩, hst.1, grown_trans (below_grown HBL.out _) hst.2⟩
        · have dlong : decide (0 < m) = false := by simp; omega
          by_cases hsh : n - k < m
          · exfalso; omega
          · have hm0 : m = 0 := by omega
            subst hm0
            have e2 : sTxt most bs 0 = ([], rest, 0) := by
              rw [sTxt, if_pos rfl, rdTxt, hrd]; simp
            rw [e2]
            have hmid : ∀ w, (Instr.slice 23 (.slice p n cap) (some (.int .i64 (k : Int))) (some (.int .i64 (k : Int))) none).run Try.prog w = .ok (.slice (cutP p k cap) 0 (cap - k)) w := fun w => by
              have := run_mid w p n cap k 0 (by omega)
              simpa using this
            have hfr := fun w => run_from w p n cap k hkn
            have hpn : Hid (p ≠ none) := by
              show p ≠ none
              intro hp
              rcases HB.out.2 with h | ⟨_, _, h, _⟩
              · have := HN.out; rw [h] at this; simp at this; omega
              · rw [hp] at h; cases h
            rw [show ((0 : Nat) : Int) = 0 from rfl] at HFM
            clear e2 hrd hlong dlong hsh hT
            go_enter Try.func22, Try.ntmps22
            go_wp2_with fail
            refine (show Calls _ _ _ _ _ from HFM.out).mono ?_
            rintro e w1 ⟨rfl, hbl⟩
            have c0 := (hbl.cell (p := ⟨b, 0, none⟩) hlt).trans h0
            have c1 := (hbl.cell (p := ⟨b, 1, none⟩) hlt).trans h1
            have g0 := (hbl.frozen (p := ⟨b, 0, none⟩) hlt).trans f0
            have HBL := hide hbl
            have hsz := hbl.size
            have c0a : ∀ o, (w1.alloc o).cell? ⟨b, 0, none⟩ = some (.slice p n cap) := fun o => by rw [World.cell?_alloc_lt _ _ _ (by show b < _; omega)]; exact c0
            have hnk : decide ((n : Int) - (k : Int) < 0) = false := by simp; omega
            clear hbl HFM
            go_wp2_with (at_builtin; refine wpList_append_bytes rfl (.tmp 56) (.tmp 66) rfl w1.heap.size _ [] rfl 0 rfl (World.ownsRow_made w1 #[] 0 (Nat.le_refl _) (Nat.zero_le _) rfl) (cutP p k cap) 0 (cap - k) [] rfl rfl ?h1 ?h2 ?h3 ?h4 ?_)
            case h1 => exact ⟨by simp, Or.inl rfl⟩
            case h2 =>
              intro h
              exfalso
              apply hpn.out
              cases hp : p with
              | none => rfl
              | some a => rw [hp] at h; unfold cutP at h; split at h <;> simp at h
            case h3 => omega
            case h4 => simp
            intro v2 w2 z2 k2 hz2 hk2 ho2 hg2 _
            have hb12 : Below w1.heap.size w1 w2 := ((Below.refl _ w1).alloc (Nat.le_refl _) _).trans (grown_below hg2 (by simp) (by intro k hk; simp [Value.ownBlock] at hk; omega))
            have c02 := (hb12.cell (p := ⟨b, 0, none⟩) (by show b < _; omega)).trans c0
            have g02 := (hb12.frozen (p := ⟨b, 0, none⟩) (by show b < _; omega)).trans g0
            have hzr : z2 = [] := by simpa using hz2.out
            have hk2m : k2 = 0 := by rw [← hk2.out, hzr]; rfl
            subst hzr
            subst hk2m
            obtain ⟨q2, cq2, hv2, _, _, hq2, hqb2⟩ := own_bytes (xs := []) ho2 (by simp)
            have hv2' : v2 = .slice q2 0 cq2 := hv2
            clear hv2
            subst hv2'
            have HB12 := hide hb12
            clear ho2 hg2 hb12 hq2 hqb2 hz2 hk2 c0 c0a g0 c1
            go_wp2
            go_ret
            have hst := ((HR.out.kept HBL.out).kept HB12.out).stored k (by rw [HN.out]; exact hkn) p cap (by rw [HN.out]; exact c02)
            rw [HN.out, hdr.out] at hst
            exact ⟨q2, cq2, rfl, ⟨by simp, Or.inl rfl⟩, hst.1, grown_trans (below_grown HBL.out _) (grown_trans (below_grown HB12.out _) hst.2)⟩
    · obtain ⟨t, rfl⟩ := Int.eq_ofNat_of_zero_le (show 0 ≤ most by omega)
      have hneg' : decide ((t : Int) < 0) = false := by simp
      rcases hrd : rdNum bs with _ | ⟨m, rest⟩
      · have e1 : formOf bs = (0, 0) := by rw [formOf, hrd]
        have e2 : sTxt (t : Int) bs 0 = ([], bs, 4) := by rw [sTxt, if_pos rfl, rdTxt, hrd]
        rw [e1] at HFM
        rw [e2]
        clear e1 e2 hrd
        go_enter Try.func22, Try.ntmps22
        go_wp2_with fail
        refine (show Calls _ _ _ _ _ from HFM.out).mono ?_
        rintro e w1 ⟨rfl, hbl⟩
        have c0 := (hbl.cell (p := ⟨b, 0, none⟩) hlt).trans h0
        have c1 := (hbl.cell (p := ⟨b, 1, none⟩) hlt).trans h1
        have g1 := (hbl.frozen (p := ⟨b, 1, none⟩) hlt).trans f1
        have HBL := hide hbl
        clear hbl HFM
        go_wp2
        go_ret
        have hst := (HR.out.kept HBL.out).seterr 4
        exact ⟨none, 0, rfl, ⟨by simp, Or.inl rfl⟩, hst.1, grown_trans (below_grown HBL.out _) hst.2⟩
      · have e1 : formOf bs = (m, n - rest.length) := by rw [formOf, hrd, HN.out]
        have hfo := rdNum_form HBY.out hrd
        have hL : 1 ≤ (numF m).length := (numF_length m).1
        have hln : (numF m).length + rest.length = n := by rw [← HN.out, ← hfo]; simp
        have hdr : Hid (bs.drop (n - rest.length) = rest) := by
          show bs.drop (n - rest.length) = rest
          rw [show n - rest.length = (numF m).length by omega, ← hfo]; simp
        rw [e1] at HFM
        obtain ⟨k, hk⟩ : ∃ k, k = n - rest.length := ⟨_, rfl⟩
        have hk1 : 1 ≤ k := by omega
        have hkn : k ≤ n := by omega
        have hrl : rest.length = n - k := by omega
        rw [← hk] at HFM hdr
        have hkz : ((k : Int) == 0) = false := by simp; omega
        have HRL := hide hrl
        clear e1 hfo hL hln hk hrl
        by_cases hlong : t < m
        · have e2 : sTxt (t : Int) bs 0 = ([], bs, 3) := by rw [sTxt, if_pos rfl, rdTxt, hrd]; simp [Int.toNat_natCast, hlong]
          rw [e2]
          clear e2 hrd
          go_enter Try.func22, Try.ntmps22
          go_wp2_with fail
          refine (show Calls _ _ _ _ _ from HFM.out).mono ?_
          rintro e w1 ⟨rfl, hbl⟩
          have c0 := (hbl.cell (p := ⟨b, 0, none⟩) hlt).trans h0
          have c1 := (hbl.cell (p := ⟨b, 1, none⟩) hlt).trans h1
          have g1 := (hbl.frozen (p := ⟨b, 1, none⟩) hlt).trans f1
          have HBL := hide hbl
          clear hbl HFM
          go_wp2
          go_ret
          have hst := (HR.out.kept HBL.out).seterr 3
          exact ⟨none, 0, rfl, ⟨by simp, Or.inl rfl⟩, hst.1, grown_trans (below_grown HBL.out _) hst.2⟩
        · have dlong : decide (t < m) = false := by simp; omega
          by_cases hsh : n - k < m
          · have e2 : sTxt (t : Int) bs 0 = ([], bs, 4) := by
              have := HRL.out
              rw [sTxt, if_pos rfl, rdTxt, hrd]; simp [Int.toNat_natCast, hlong, this, hsh]
            rw [e2]
            have hsh' : (n : Int) - (k : Int) < (m : Int) := by omega
            clear e2 hrd
            go_enter Try.func22, Try.ntmps22
            go_wp2_with fail
            refine (show Calls _ _ _ _ _ from HFM.out).mono ?_
            rintro e w1 ⟨rfl, hbl⟩
            have c0 := (hbl.cell (p := ⟨b, 0, none⟩) hlt).trans h0
            have c1 := (hbl.cell (p := ⟨b, 1, none⟩) hlt).trans h1
            have g1 := (hbl.frozen (p := ⟨b, 1, none⟩) hlt).trans f1
            have HBL := hide hbl
            clear hbl HFM
            go_wp2
            go_ret
            have hst := (HR.out.kept HBL.out).seterr 4
            exact ⟨none, 0, rfl, ⟨by simp, Or.inl rfl⟩, hst.1, grown_trans (below_grown HBL.out _) hst.2⟩
          · have e2 : sTxt (t : Int) bs 0 = (rest.take m, rest.drop m, 0) := by
              have := HRL.out
              rw [sTxt, if_pos rfl, rdTxt, hrd]; simp [Int.toNat_natCast, hlong, this, hsh]
            rw [e2]
            have dsh : decide ((n : Int) - (k : Int) < (m : Int)) = false := by simp; omega
            have hmn : k + m ≤ n := by omega
            have hmid : ∀ w, (Instr.slice 23 (.slice p n cap) (some (.int .i64 (k : Int))) (some (.int .i64 ((k : Int) + (m : Int)))) none).run Try.prog w = .ok (.slice (cutP p k cap) m (cap - k)) w := fun w => run_mid w p n cap k m (by omega)
            have hfr : ∀ w, (Instr.slice 23 (.slice p n cap) (some (.int .i64 ((k : Int) + (m : Int)))) none none).run Try.prog w = .ok (.slice (cutP p (k + m) cap) (n - (k + m)) (cap - (k + m))) w := fun w => run_from w p n cap (k + m) (by omega)
            have hpn : Hid (p ≠ none) := by
              show p ≠ none
              intro hp
              rcases HB.out.2 with h | ⟨_, _, h, _⟩
              · have := HN.out; rw [h] at this; simp at this; omega
              · rw [hp] at h; cases h
            have hcl : Hid (((bs.drop k).take m).length = m) := by
              show ((bs.drop k).take m).length = m
              have := HN.out; simp; omega
            clear e2 hrd
            go_enter Try.func22, Try.ntmps22
            go_wp2_with fail
            refine (show Calls _ _ _ _ _ from HFM.out).mono ?_
            rintro e w1 ⟨rfl, hbl⟩
            have c0 := (hbl.cell (p := ⟨b, 0, none⟩) hlt).trans h0
            have c1 := (hbl.cell (p := ⟨b, 1, none⟩) hlt).trans h1
            have g0 := (hbl.frozen (p := ⟨b, 0, none⟩) hlt).trans f0
            have HBL := hide hbl
            have hsz := hbl.size
            have c0a : ∀ o, (w1.alloc o).cell? ⟨b, 0, none⟩ = some (.slice p n cap) := fun o => by rw [World.cell?_alloc_lt _ _ _ (by show b < _; omega)]; exact c0
            have HQ := hide (bytes_upto (bytes_from (bytes_kept HB.out (below_grown hbl none) (fun a _ => by simp)) k cap (by rw [HN.out]; exact hlc)) m)
            clear hbl HFM
            go_wp2_with (at_builtin; refine wpList_append_bytes rfl (.tmp 56) (.tmp 66) rfl w1.heap.size _ [] rfl 0 rfl (World.ownsRow_made w1 #[] 0 (Nat.le_refl _) (Nat.zero_le _) rfl) (cutP p k cap) m (cap - k) ((bs.drop k).take m) hcl.out rfl ?h1 ?h2 ?h3 ?h4 ?_)
            case h1 => exact bytes_kept HQ.out (World.grownBy_alloc w1 _ none) (fun a _ => by simp)
            case h2 =>
              intro h
              exfalso
              apply hpn.out
              cases hp : p with
              | none => rfl
              | some a => rw [hp] at h; unfold cutP at h; split at h <;> simp at h
            case h3 => omega
            case h4 => simp
            intro v2 w2 z2 k2 hz2 hk2 ho2 hg2 _
            have hb12 : Below w1.heap.size w1 w2 := ((Below.refl _ w1).alloc (Nat.le_refl _) _).trans (grown_below hg2 (by simp) (by intro k hk; simp [Value.ownBlock] at hk; omega))
            have c02 := (hb12.cell (p := ⟨b, 0, none⟩) (by show b < _; omega)).trans c0
            have g02 := (hb12.frozen (p := ⟨b, 0, none⟩) (by show b < _; omega)).trans g0
            have hzr : z2 = rest.take m := by rw [hz2.out, hdr.out]
            have hk2m : k2 = (rest.take m).length := by rw [← hk2.out, hzr]
            subst hzr
            rw [hk2m] at ho2
            obtain ⟨q2, cq2, hv2, _, _, hq2, hqb2⟩ := own_bytes ho2 (fun c hc => HBY.out c (by have := hdr.out; rw [← this] at hc; exact List.mem_of_mem_drop (List.mem_of_mem_take hc)))
            rw [← hk2m] at hv2
            subst hv2
            have HQ2 := hide hq2
            have HQB2 := hide hqb2
            have HB12 := hide hb12
            have HK2 := hide hk2m
            clear ho2 hg2 hb12 hq2 hqb2 hz2 hk2 c0 c0a g0 c1 hk2m
            go_wp2
            go_ret
            have hst := ((HR.out.kept HBL.out).kept HB12.out).stored (k + m) (by rw [HN.out]; exact hmn) p cap (by rw [HN.out]; exact c02)
            rw [HN.out] at hst
            have e3 : bs.drop (k + m) = rest.drop m := by rw [← List.drop_drop, hdr.out]
            rw [e3] at hst
            refine ⟨q2, cq2, ?_, bytes_kept HQ2.out hst.2 (fun a ha e => by have := HQB2.out a ha; simp at e; omega), hst.1, grown_trans (below_grown HBL.out _) (grown_trans (below_grown HB12.out _) hst.2)⟩
            rw [← HK2.out]
            rfl

  · have e2 : sTxt most bs x = ([], bs, x) := by rw [sTxt, if_neg hx]
    rw [e2]
    have hx' : (x != 0) = true := by simpa using hx
    clear hx e2 hb hne
    go_enter Try.func22, Try.ntmps22
    go_wp2
    go_ret
    exact ⟨none, 0, rfl, ⟨by simp, Or.inl rfl⟩, HR.out, grown_refl _ _⟩

end Go.Proofs.Ytmkoefnnpficfaa
