/-
  Walks of the document's answer: how it looks for a number's form at the beginning of bytes.
-/
import Derived.Test.YtmkoefnnpficfaaWQ
import Derived.Deep.LoopGhost
namespace Go.Proofs.Ytmkoefnnpficfaa
open Go.RowKit
set_option linter.unusedSimpArgs false

def valN (bs : List Int) : Nat := bs.foldl (fun a c => a * 128 + (c % 128).toNat) 0

theorem valN_snoc (bs : List Int) (c : Int) : valN (bs ++ [c]) = valN bs * 128 + (c % 128).toNat := by simp [valN]

theorem valN_numH (f : Nat) : ∀ m, m < 128 ^ f → valN (numH f m) = m := by
  induction f with
  | zero => intro m hm; simp at hm; subst hm; rfl
  | succ f ih =>
    intro m hm
    rw [numH]
    split
    · rename_i h; rw [h]; rfl
    · have h1 : m / 128 < 128 ^ f := by rw [Nat.div_lt_iff_lt_mul (by omega), ← Nat.pow_succ]; exact hm
      rw [valN_snoc, ih _ h1]
      omega

theorem valN_numF (m : Nat) (hm : m < 18446744073709551616) : valN (numF m) = m := by
  have p10 : (128 : Nat) ^ 10 = 1180591620717411303424 := by decide
  rw [numF, valN_snoc, valN_numH 10 _ (by omega)]
  omega

theorem rdN_high' : ∀ (bs : List Int) (k n : Nat), (∀ j, j < k → j < bs.length → 128 ≤ bs.getD j 0) → rdN bs k n = none
  | [], k, n, _ => by cases k <;> rfl
  | _ :: _, 0, n, _ => rfl
  | c :: r, k + 1, n, h => by
    have hc := h 0 (by omega) (by simp)
    have hc' : 128 ≤ c := by simpa using hc
    rw [rdN]
    by_cases hb : 144115188075855871 < n
    · rw [if_pos hb]
    · rw [if_neg hb, if_neg (by omega)]
      exact rdN_high' r k _ (fun j hj hl => by have := h (j + 1) (by omega) (by simpa using hl); simpa using this)

theorem form_none {bs : List Int} (h : ∀ j, j < 10 → j < bs.length → 128 ≤ bs.getD j 0) : rdNum bs = none := by
  rw [rdNum]
  split
  · rfl
  · exact rdN_high' bs 10 0 h

/-- a number's form ends with its first byte below 128 -/
theorem form_at {bs : List Int} (hb : ∀ c ∈ bs, 0 ≤ c ∧ c < 256) {i : Nat} (_hi : i < bs.length) (hlt : bs.getD i 0 < 128) (hge : ∀ j, j < i → 128 ≤ bs.getD j 0) :
    rdNum bs = if numF (valN (bs.take (i + 1)) % 18446744073709551616) = bs.take (i + 1) then some (valN (bs.take (i + 1)) % 18446744073709551616, bs.drop (i + 1)) else none := by
  split
  · rename_i h
    have h1 := rdNum_numF (valN (bs.take (i + 1)) % 18446744073709551616) (Nat.mod_lt _ (by decide)) (bs.drop (i + 1))
    rw [h, List.take_append_drop] at h1
    exact h1
  · rename_i h
    rcases hr : rdNum bs with _ | ⟨m, rest⟩
    · rfl
    · exfalso
      apply h
      have hm : m < 18446744073709551616 := by
        have key : ∀ (l : List Int) (k n a : Nat) (q : List Int), n < 18446744073709551616 → rdN l k n = some (a, q) → a < 18446744073709551616 := by
          intro l
          induction l with
          | nil => intro k n a q _ h; cases k <;> simp [rdN] at h
          | cons c r ih =>
            intro k n a q hn h
            cases k with
            | zero => simp [rdN] at h
            | succ k =>
              rw [rdN] at h
              by_cases hb : 144115188075855871 < n
              · rw [if_pos hb] at h; cases h
              · rw [if_neg hb] at h
                by_cases hc : c < 128
                · rw [if_pos hc] at h
                  simp only [Option.some.injEq, Prod.mk.injEq] at h
                  have := h.1
                  omega
                · rw [if_neg hc] at h
                  exact ih k _ a q (by omega) h
        rw [rdNum] at hr
        split at hr
        · cases hr
        · exact key bs 10 0 m rest (by decide) hr
      have hf := rdNum_form hb hr
      have hl : (numF m).length = i + 1 := by
        have hlast : ∀ j, j < (numF m).length - 1 → 128 ≤ (numF m).getD j 0 := by
          intro j hj
          have hjl : j < (numH 10 (m / 128)).length := by simp [numF] at hj; exact hj
          have : (numF m).getD j 0 = (numH 10 (m / 128)).getD j 0 := by
            simp [numF, List.getD, List.getElem?_append_left hjl]
          rw [this]
          have h2 := numH_bytes 10 (m / 128) ((numH 10 (m / 128)).getD j 0) (by simp [List.getD, hjl])
          exact h2.1
        have hend : (numF m).getD ((numF m).length - 1) 0 < 128 := by
          have : (numF m).getD ((numF m).length - 1) 0 = ((m % 128 : Nat) : Int) := by simp [numF, List.getD]
          rw [this]; omega
        have hL := numF_short m hm
        have hsame : ∀ j, j < (numF m).length → bs.getD j 0 = (numF m).getD j 0 := by
          intro j hj
          rw [← hf]
          simp [List.getD, List.getElem?_append_left hj]
        rcases Nat.lt_trichotomy ((numF m).length - 1) i with h' | h' | h'
        · have a1 := hge _ h'
          rw [hsame _ (by omega)] at a1
          omega
        · omega
        · have a1 := hlast i h'
          rw [← hsame i (by omega)] at a1
          omega
      have ht : bs.take (i + 1) = numF m := by
        rw [← hf, ← hl]; simp
      rw [ht, valN_numF m hm, Nat.mod_eq_of_lt hm]

def formOf (bs : List Int) : Nat × Nat := match rdNum bs with
  | none => (0, 0)
  | some (m, rest) => (m, bs.length - rest.length)

theorem refnum_conv' (n : Nat) (hn : n < 18446744073709551616) (w : World) :
    Calls Try.prog 13 #[.int .u64 n] w fun e w' => ∃ p c k, e = .returned (.slice p k c) ∧ Hid (k = (numF n).length) ∧ Below w.heap.size w w' ∧
      (∀ w2, Below w'.heap.size w' w2 → (convert 23 9 (.slice p k c)).run Try.prog w2 = .ok (.string (strOfNums (numF n))) w2) := by
  refine (refnum_any n hn w).mono ?_
  rintro e w' ⟨v, rfl, hown, hb⟩
  obtain ⟨q, c, rfl, _, _, hq, _⟩ := own_bytes hown (numF_bytes n)
  exact ⟨q, c, _, rfl, rfl, hb, fun w2 h2 => conv_any (bytes_kept hq (below_grown h2 none) (fun a _ => by simp)) _ c rfl⟩

theorem ret2_form {a b : Int} {c d : Int} (h : a = b) (h2 : c = d) : Ending.returned (.tuple #[.int .u64 a, .int .i64 c]) = .returned (.tuple #[.int .u64 b, .int .i64 d]) := by rw [h, h2]

set_option maxHeartbeats 1000000 in
set_option maxRecDepth 100000 in
theorem refform_any (p : Option Addr) (cap : Nat) (bs : List Int) (w : World) (hb : BytesIn w p bs) (hlc : bs.length ≤ cap) (hcm : bs.length ≤ 140737488355328) :
    Calls Try.prog 34 #[.slice p bs.length cap] w fun e w' => e = .returned (.tuple #[.int .u64 ((formOf bs).1 : Nat), .int .i64 ((formOf bs).2 : Nat)]) ∧ Below w.heap.size w w' := by
  have HB := hide hb
  clear hb
  generalize hn : bs.length = n at *
  have HN := hide hn
  clear hn
  go_enter Try.func34, Try.ntmps34
  go_wp2
  go_loopg [4, 5] 12 (fun r s4 s5 wx => ∃ i : Nat, s4 = .int .u64 ((valN (bs.take i) % 18446744073709551616 : Nat) : Int) ∧ s5 = .int .i64 i ∧ i ≤ n ∧ i ≤ 10 ∧ 10 - i < r ∧ (∀ j, j < i → 128 ≤ bs.getD j 0) ∧ wx = w)
  case atStart => exact ⟨0, rfl, rfl, by omega, by omega, by omega, by intro j hj; omega, rfl⟩
  case round =>
    obtain ⟨i, rfl, rfl, hin, hi10, hir, hge, hw⟩ := hrel
    have hw' := hw.symm
    clear hw
    subst hw'
    have HGE := hide hge
    clear hge
    by_cases hlt : i < n ∧ i < 10
    · obtain ⟨hin2, hi92⟩ := hlt
      have hil : i < bs.length := by rw [HN.out]; exact hin2
      rcases HB.out.2 with h0 | ⟨pb, po, rfl, hcell⟩
      · rw [h0] at hil; simp at hil
      have hci := hcell i hil
      have hyb := HB.out.1 (bs.getD i 0) (by simp [List.getD, hil])
      have hvs : valN (bs.take (i + 1)) = valN (bs.take i) * 128 + (bs.getD i 0 % 128).toNat := by
        rw [List.take_succ_eq_append_getElem hil, valN_snoc]
        simp [List.getD, hil]
      have hvm : ((((valN (bs.take i) % 18446744073709551616 : Nat) : Int) * 128) % 18446744073709551616 + bs.getD i 0 % 128) % 18446744073709551616 = ((valN (bs.take (i + 1)) % 18446744073709551616 : Nat) : Int) := by
        rw [hvs]
        have e : (((bs.getD i 0 % 128).toNat : Nat) : Int) = bs.getD i 0 % 128 := Int.toNat_of_nonneg (by omega)
        omega
      have HVM := hide hvm
      have hv1 : valN (bs.take i) % 18446744073709551616 < 18446744073709551616 := Nat.mod_lt _ (by decide)
      have hv2 : valN (bs.take (i + 1)) % 18446744073709551616 < 18446744073709551616 := Nat.mod_lt _ (by decide)
      have HF := fun h => hide (form_at HB.out.1 hil h HGE.out)
      clear hcell hvs hvm
      generalize hv : valN (bs.take i) % 18446744073709551616 = v at *
      generalize hv' : valN (bs.take (i + 1)) % 18446744073709551616 = v' at *
      generalize hy : bs.getD i 0 = y at *
      have HV' := hide hv'
      have HYY := hide hy
      clear hv hv' hy
      have hwv : IntKind.u64.wrap (IntKind.u64.wrap ((v : Int) * 128) + y % 128) = (v' : Int) := by
        rw [IntKind.wrap_u64, IntKind.wrap_u64]; exact HVM.out
      by_cases hy128 : y < 128
      · have HFF := HF hy128
        have hup : ∀ w, (Instr.slice 23 (.slice (some ⟨pb, po, none⟩) n cap) none (some (.int .i64 ((i : Int) + 1))) none).run Try.prog w = .ok (.slice (some ⟨pb, po, none⟩) (i + 1) cap) w := fun w => run_upto w (some ⟨pb, po, none⟩) n cap (i + 1) (by omega)
        have HCB : Hid (∀ w', Hid (Below w.heap.size w w') → (convert 23 9 (.slice (some ⟨pb, po, none⟩) (i + 1) cap)).run Try.prog w' = .ok (.string (strOfNums (bs.take (i + 1)))) w') := fun w' hb => conv_any (bytes_upto (bytes_kept HB.out (below_grown hb.out none) (fun a _ => by simp)) (i + 1)) _ cap (by have := HN.out; simp; omega)
        have C1 := hide (fun w' => refnum_conv' v' hv2 w')
        have hpost : Hid ((formOf bs).1 = (if numF v' = bs.take (i + 1) then v' else 0) ∧ (formOf bs).2 = (if numF v' = bs.take (i + 1) then i + 1 else 0)) := by
          show _ ∧ _
          rw [formOf, HFF.out]
          by_cases h : numF v' = bs.take (i + 1)
          · rw [if_pos h, if_pos h, if_pos h]
            refine ⟨rfl, ?_⟩
            have := HN.out
            simp; omega
          · rw [if_neg h, if_neg h, if_neg h]; exact ⟨rfl, rfl⟩
        have hstr : Hid (numF v' = bs.take (i + 1)) ∧ ((strOfNums (numF v')).toList == (strOfNums (bs.take (i + 1))).toList) = true ∧ ((strOfNums (numF v')).toList != (strOfNums (bs.take (i + 1))).toList) = false ∨ Hid (¬ numF v' = bs.take (i + 1)) ∧ ((strOfNums (numF v')).toList == (strOfNums (bs.take (i + 1))).toList) = false ∧ ((strOfNums (numF v')).toList != (strOfNums (bs.take (i + 1))).toList) = true := by
          by_cases h : numF v' = bs.take (i + 1)
          · left; refine ⟨h, str_same h, ?_⟩; rw [bne, str_same h]; rfl
          · have h2 := str_ne (numF_bytes v') (fun c hc => HB.out.1 c (List.mem_of_mem_take hc)) h
            right; refine ⟨h, h2, ?_⟩; rw [bne, h2]; rfl
        generalize strOfNums (numF v') = S1 at *
        generalize strOfNums (bs.take (i + 1)) = S2 at *
        clear HF HFF HVM
        have hwi : IntKind.i64.wrap ((i : Int) + 1) = (i : Int) + 1 := by rw [IntKind.wrap_i64]; omega
        rcases hstr with ⟨he, f1, f2⟩ | ⟨he, f1, f2⟩
        all_goals
          go_wp2
          refine wp_region_held_drew (S := fun w' => Hid (Below w.heap.size w w')) (by kernel_rfl) (hide (Below.refl w.heap.size w).drew) (fun hHeld => ?_)
          refine take_dstH (i := 0) (d := 30) (v := ?_) rfl rfl (by kernel_rfl) (by kernel_rfl) (by kernel_rfl) (fun _ _ _ h => h) (by rfl) hHeld ?_ ?_
          rotate_left
          · intro w hSw; clear hSw; go_simp; try (with_reducible rfl)
          try simp only [Act.put, List.setIfInBounds_toArray, List.set_cons_zero, List.set_cons_succ]
          refine take_dstH (i := 3) (d := 33) (v := ?_) rfl rfl (by kernel_rfl) (by kernel_rfl) (by kernel_rfl) (fun _ _ _ h => h) (by rfl) hHeld ?_ ?_
          rotate_left
          · intro w hSw; clear hSw; go_simp; try (with_reducible rfl)
          try simp only [Act.put, List.setIfInBounds_toArray, List.set_cons_zero, List.set_cons_succ]
          refine take_dstH (i := 4) (d := 34) (v := ?_) rfl rfl (by kernel_rfl) (by kernel_rfl) (by kernel_rfl) (fun _ _ _ h => h) (by rfl) hHeld ?_ ?_
          rotate_left
          · intro w hSw; clear hSw; go_simp; try (with_reducible rfl)
          try simp only [Act.put, List.setIfInBounds_toArray, List.set_cons_zero, List.set_cons_succ]
          refine take_dstH (i := 5) (d := 35) (v := ?_) rfl rfl (by kernel_rfl) (by kernel_rfl) (by kernel_rfl) (fun _ _ _ h => h) (by rfl) hHeld ?_ ?_
          rotate_left
          · intro w hSw; clear hSw; go_simp; try (with_reducible rfl)
          try simp only [Act.put, List.setIfInBounds_toArray, List.set_cons_zero, List.set_cons_succ]
          refine take_dstH (i := 6) (d := 36) (v := ?_) rfl rfl (by kernel_rfl) (by kernel_rfl) (by kernel_rfl) (fun _ _ _ h => h) (by rfl) hHeld ?_ ?_
          rotate_left
          · intro w hSw; clear hSw; go_simp; try (with_reducible rfl)
          try simp only [Act.put, List.setIfInBounds_toArray, List.set_cons_zero, List.set_cons_succ]
          refine take_dstH (i := 7) (d := 37) (v := ?_) rfl rfl (by kernel_rfl) (by kernel_rfl) (by kernel_rfl) (fun _ _ _ h => h) (by rfl) hHeld ?_ ?_
          rotate_left
          · intro w hSw; have hfS := HCB.out w hSw; clear hSw; go_simp; try (with_reducible rfl)
          try simp only [Act.put, List.setIfInBounds_toArray, List.set_cons_zero, List.set_cons_succ]
          refine wpAnyH_ready (rs := [1]) (by kernel_rfl) (by simp) ?_
          refine (AllReadyH.cons rfl (fun K hK => ?_) AllReadyH.nil)
          go_simp
          refine (C1.out _).mono ?_; rintro e wa ⟨pa, ca, ka, rfl, hka, hba, hca⟩; have HBa : Hid (Below w.heap.size w wa) := (Hid.out hHeld).trans (hba.mono (Hid.out hHeld).size); have hda := hca _ (Below.refl _ _); clear hca hba
          go_wp2_with fail
          refine hK.out _ _ ?_ (fun hHeld => ?_)
          · exact HBa
          clear hK K
          try simp only [Act.put, List.setIfInBounds_toArray, List.set_cons_zero, List.set_cons_succ]
          refine wpAnyH_ready (rs := [2]) (by kernel_rfl) (by simp) ?_
          refine (AllReadyH.cons rfl (fun K hK => ?_) AllReadyH.nil)
          go_simp
          refine hK.out _ _ ?_ (fun hHeld => ?_)
          · exact hHeld
          clear hK K
          try simp only [Act.put, List.setIfInBounds_toArray, List.set_cons_zero, List.set_cons_succ]
          refine take_dstH (i := 8) (d := 38) (v := ?_) rfl rfl (by kernel_rfl) (by kernel_rfl) (by kernel_rfl) (fun _ _ _ h => h) (by rfl) hHeld ?_ ?_
          rotate_left
          · intro w hSw; clear hSw; go_simp; try (with_reducible rfl)
          try simp only [Act.put, List.setIfInBounds_toArray, List.set_cons_zero, List.set_cons_succ]
          refine wpAnyH_done (by kernel_rfl) ?_ _
          clear hda C1 HCB
          go_wp2
          go_ret2
          have h1 := hpost.out.1
          have h2 := hpost.out.2
          first
            | (rw [if_pos he.out] at h1 h2; exact ⟨ret2_form (by rw [h1]) (by rw [h2]; rfl), HBa.out⟩)
            | (rw [if_neg he.out] at h1 h2; exact ⟨ret2_form (by rw [h1]; rfl) (by rw [h2]; rfl), HBa.out⟩)
      · go_wp2
        go_roundg (10 - i)
        case measure => omega
        case rel =>
          refine ⟨i + 1, by rw [HV'.out], by go_num, by omega, by omega, by omega, ?_, rfl⟩
          intro j hj
          by_cases hji : j = i
          · subst hji; rw [HYY.out]; omega
          · exact HGE.out j (by omega)
    · have hno : rdNum bs = none := form_none (fun j h1 h2 => HGE.out j (by rw [HN.out] at h2; omega))
      have HNO := hide hno
      have hcase : decide (i < n) = false ∧ decide ((i : Int) < (n : Int)) = false ∨ (i < n ∧ i = 10) := by
        by_cases h : i < n
        · right; exact ⟨h, by omega⟩
        · left; exact ⟨by simpa using h, by simp; omega⟩
      clear hno hlt
      rcases hcase with ⟨h1, h2⟩ | ⟨h1, rfl⟩
      all_goals
        go_wp2
        go_ret2
        refine ⟨?_, Below.refl _ _⟩
        rw [formOf, HNO.out]
        rfl

end Go.Proofs.Ytmkoefnnpficfaa
