/-
  Layer 1 for the layers above it: numbers and texts read by the reference.
-/
import Derived.Test.YtecpnnnkkofejaaYC
namespace Go.Proofs.Ytecpnnnkkofejaa
open Go.RowKit
variable {A : Nat → Prop}

theorem own_reader {w w' : World} {B b : Nat} {e : TypeId} {v : Value} {n : Nat} {xs : List Value} (h : w.ownsRow B e 1 v n xs) (hb : b < B) (hg : w.grownBy w' (some b)) : w'.ownsRow B e 1 v n xs := by
  refine h.kept hg ?_
  by_cases hv : v.ownBlock = none
  · exact Or.inl hv
  · exact Or.inr fun e => by have := (h.lt b e).1; omega

theorem w_own_below {w w' : World} {B : Nat} {e : TypeId} {v : Value} {n : Nat} {xs : List Value} (h : w.ownsRow B e 1 v n xs) (hb : Below w.heap.size w w') : w'.ownsRow B e 1 v n xs := by
  refine h.kept (below_grown hb none) ?_
  by_cases hv : v.ownBlock = none
  · exact Or.inl hv
  · exact Or.inr hv

theorem w_conv_any {w : World} {p : Option Addr} {xs : List Int} (h : BytesIn w p xs) (n c : Nat) (hn : xs.length = n) :
    (convert 23 9 (.slice p n c)).run Try.prog w = .ok (.string (strOfNums xs)) w := by
  subst hn
  rcases h.2 with rfl | ⟨b, o, rfl, hc⟩
  · cases p with
    | none => exact run_convert_bytes_nil w 23 5 Try.underlying23 Try.underlying5 0 c _ Try.underlying9
    | some a =>
      rw [run_convert_bytes_string w 23 9 5 _ _ c Try.underlying23 Try.underlying5 Try.underlying9]
      have hl : (loadCells a ([] : List Int).length).run Try.prog w = .ok (([] : List Int).map (Value.int .u8)).toArray w := by
        simp [loadCells, loadCellsFrom]
      exact run_bytesToString w a _ c [] hl
  · exact run_convert_bytes_arg w 23 5 Try.underlying23 Try.underlying5 b o _ c xs rfl hc _ Try.underlying9


def endOf (bs : List Int) (x : Int) : Int := if x = 0 then if bs = [] then 0 else 4 else x


theorem str_inj {xs ys : List Int} (hx : ∀ x ∈ xs, 0 ≤ x ∧ x < 256) (hy : ∀ x ∈ ys, 0 ≤ x ∧ x < 256) (h : strOfNums xs = strOfNums ys) : xs = ys := by
  have h1 : (strOfNums xs).data.toList = (strOfNums ys).data.toList := by rw [h]
  rw [strOfNums_data, strOfNums_data] at h1
  have key : ∀ l : List Int, (∀ x ∈ l, 0 ≤ x ∧ x < 256) → (l.map fun n => UInt8.ofNat n.toNat).map (fun u => (u.toNat : Int)) = l := by
    intro l hl
    rw [List.map_map]
    conv => rhs; rw [← List.map_id l]
    apply List.map_congr_left
    intro x hx
    have := hl x hx
    simp only [Function.comp, id]
    have e : x.toNat % 256 = x.toNat := Nat.mod_eq_of_lt (by omega)
    simp [e]
    omega
  rw [← key xs hx, h1, key ys hy]

theorem str_ne {xs ys : List Int} (hx : ∀ x ∈ xs, 0 ≤ x ∧ x < 256) (hy : ∀ x ∈ ys, 0 ≤ x ∧ x < 256) (h : xs ≠ ys) : ((strOfNums xs).toList == (strOfNums ys).toList) = false := by
  rw [beq_eq_false_iff_ne, ByteArray.toList_eq, ByteArray.toList_eq]
  intro e
  apply h
  apply str_inj hx hy
  exact WideShapes.bytes_inj e

theorem str_same {xs ys : List Int} (h : xs = ys) : ((strOfNums xs).toList == (strOfNums ys).toList) = true := by
  rw [h]; simp

set_option linter.unusedSimpArgs false
def valN (bs : List Int) : Nat := bs.foldl (fun a c => a * 128 + (c % 128).toNat) 0

theorem valN_snoc (bs : List Int) (c : Int) : valN (bs ++ [c]) = valN bs * 128 + (c % 128).toNat := by simp [valN]

theorem valN_numH (f : Nat) : ∀ m, m < 128 ^ f → valN (numH f m) = m := by
  induction f with
  | zero => intro m hm; simp at hm; subst hm; rfl
  | succ f ih =>
    intro m hm
    rw [numH]
    split
    · rename_i h; rw [h]; rfl
    · have h1 : m / 128 < 128 ^ f := by rw [Nat.div_lt_iff_lt_mul (by omega), ← Nat.pow_succ]; exact hm
      rw [valN_snoc, ih _ h1]
      omega

theorem valN_numF (m : Nat) (hm : m < 18446744073709551616) : valN (numF m) = m := by
  have p10 : (128 : Nat) ^ 10 = 1180591620717411303424 := by decide
  rw [numF, valN_snoc, valN_numH 10 _ (by omega)]
  omega

theorem rdN_high' : ∀ (bs : List Int) (k n : Nat), (∀ j, j < k → j < bs.length → 128 ≤ bs.getD j 0) → rdN bs k n = none
  | [], k, n, _ => by cases k <;> rfl
  | _ :: _, 0, n, _ => rfl
  | c :: r, k + 1, n, h => by
    have hc := h 0 (by omega) (by simp)
    have hc' : 128 ≤ c := by simpa using hc
    rw [rdN]
    by_cases hb : 144115188075855871 < n
    · rw [if_pos hb]
    · rw [if_neg hb, if_neg (by omega)]
      exact rdN_high' r k _ (fun j hj hl => by have := h (j + 1) (by omega) (by simpa using hl); simpa using this)

theorem form_none {bs : List Int} (h : ∀ j, j < 10 → j < bs.length → 128 ≤ bs.getD j 0) : rdNum bs = none := by
  rw [rdNum]
  split
  · rfl
  · exact rdN_high' bs 10 0 h

/-- a number's form ends with its first byte below 128 -/
theorem form_at {bs : List Int} (hb : ∀ c ∈ bs, 0 ≤ c ∧ c < 256) {i : Nat} (_hi : i < bs.length) (hlt : bs.getD i 0 < 128) (hge : ∀ j, j < i → 128 ≤ bs.getD j 0) :
    rdNum bs = if numF (valN (bs.take (i + 1)) % 18446744073709551616) = bs.take (i + 1) then some (valN (bs.take (i + 1)) % 18446744073709551616, bs.drop (i + 1)) else none := by
  split
  · rename_i h
    have h1 := rdNum_numF (valN (bs.take (i + 1)) % 18446744073709551616) (Nat.mod_lt _ (by decide)) (bs.drop (i + 1))
    rw [h, List.take_append_drop] at h1
    exact h1
  · rename_i h
    rcases hr : rdNum bs with _ | ⟨m, rest⟩
    · rfl
    · exfalso
      apply h
      have hm : m < 18446744073709551616 := by
        have key : ∀ (l : List Int) (k n a : Nat) (q : List Int), n < 18446744073709551616 → rdN l k n = some (a, q) → a < 18446744073709551616 := by
          intro l
          induction l with
          | nil => intro k n a q _ h; cases k <;> simp [rdN] at h
          | cons c r ih =>
            intro k n a q hn h
            cases k with
            | zero => simp [rdN] at h
            | succ k =>
              rw [rdN] at h
              by_cases hb : 144115188075855871 < n
              · rw [if_pos hb] at h; cases h
              · rw [if_neg hb] at h
                by_cases hc : c < 128
                · rw [if_pos hc] at h
                  simp only [Option.some.injEq, Prod.mk.injEq] at h
                  have := h.1
                  omega
                · rw [if_neg hc] at h
                  exact ih k _ a q (by omega) h
        rw [rdNum] at hr
        split at hr
        · cases hr
        · exact key bs 10 0 m rest (by decide) hr
      have hf := rdNum_form hb hr
      have hl : (numF m).length = i + 1 := by
        have hlast : ∀ j, j < (numF m).length - 1 → 128 ≤ (numF m).getD j 0 := by
          intro j hj
          have hjl : j < (numH 10 (m / 128)).length := by simp [numF] at hj; exact hj
          have : (numF m).getD j 0 = (numH 10 (m / 128)).getD j 0 := by
            simp [numF, List.getD, List.getElem?_append_left hjl]
          rw [this]
          have h2 := numH_bytes 10 (m / 128) ((numH 10 (m / 128)).getD j 0) (by simp [List.getD, hjl])
          exact h2.1
        have hend : (numF m).getD ((numF m).length - 1) 0 < 128 := by
          have : (numF m).getD ((numF m).length - 1) 0 = ((m % 128 : Nat) : Int) := by simp [numF, List.getD]
          rw [this]; omega
        have hL := numF_short m hm
        have hsame : ∀ j, j < (numF m).length → bs.getD j 0 = (numF m).getD j 0 := by
          intro j hj
          rw [← hf]
          simp [List.getD, List.getElem?_append_left hj]
        rcases Nat.lt_trichotomy ((numF m).length - 1) i with h' | h' | h'
        · have a1 := hge _ h'
          rw [hsame _ (by omega)] at a1
          omega
        · omega
        · have a1 := hlast i h'
          rw [← hsame i (by omega)] at a1
          omega
      have ht : bs.take (i + 1) = numF m := by
        rw [← hf, ← hl]; simp
      rw [ht, valN_numF m hm, Nat.mod_eq_of_lt hm]

def formOf (bs : List Int) : Nat × Nat := match rdNum bs with
  | none => (0, 0)
  | some (m, rest) => (m, bs.length - rest.length)

theorem refnum_conv' (n : Nat) (hn : n < 18446744073709551616) (w : World) :
    Calls Try.prog 27 #[.int .u64 n] w fun e w' => ∃ p c k, e = .returned (.slice p k c) ∧ Hid (k = (numF n).length) ∧ Below w.heap.size w w' ∧
      (∀ w2, Below w'.heap.size w' w2 → (convert 23 9 (.slice p k c)).run Try.prog w2 = .ok (.string (strOfNums (numF n))) w2) := by
  refine (refnum_any n hn w).mono ?_
  rintro e w' ⟨v, rfl, hown, hb⟩
  obtain ⟨q, c, rfl, _, _, hq, _⟩ := own_bytes hown (numF_bytes n)
  exact ⟨q, c, _, rfl, rfl, hb, fun w2 h2 => w_conv_any (bytes_kept hq (below_grown h2 none) (fun a _ => by simp)) _ c rfl⟩

theorem ret2_form {a b : Int} {c d : Int} (h : a = b) (h2 : c = d) : Ending.returned (.tuple #[.int .u64 a, .int .i64 c]) = .returned (.tuple #[.int .u64 b, .int .i64 d]) := by rw [h, h2]

set_option maxHeartbeats 1000000 in
set_option maxRecDepth 100000 in
theorem refform_any (p : Option Addr) (cap : Nat) (bs : List Int) (w : World) (hb : BytesIn w p bs) (hlc : bs.length ≤ cap) (hcm : bs.length ≤ 140737488355328) :
    Calls Try.prog 45 #[.slice p bs.length cap] w fun e w' => e = .returned (.tuple #[.int .u64 ((formOf bs).1 : Nat), .int .i64 ((formOf bs).2 : Nat)]) ∧ Below w.heap.size w w' := by
  have HB := hide hb
  clear hb
  generalize hn : bs.length = n at *
  have HN := hide hn
  clear hn
  go_enter Try.func45, Try.ntmps45
  go_wp2
  go_loopg [4, 5] 12 (fun r s4 s5 wx => ∃ i : Nat, s4 = .int .u64 ((valN (bs.take i) % 18446744073709551616 : Nat) : Int) ∧ s5 = .int .i64 i ∧ i ≤ n ∧ i ≤ 10 ∧ 10 - i < r ∧ (∀ j, j < i → 128 ≤ bs.getD j 0) ∧ wx = w)
  case atStart => exact ⟨0, rfl, rfl, by omega, by omega, by omega, by intro j hj; omega, rfl⟩
  case round =>
    obtain ⟨i, rfl, rfl, hin, hi10, hir, hge, hw⟩ := hrel
    have hw' := hw.symm
    clear hw
    subst hw'
    have HGE := hide hge
    clear hge
    by_cases hlt : i < n ∧ i < 10
    · obtain ⟨hin2, hi92⟩ := hlt
      have hil : i < bs.length := by rw [HN.out]; exact hin2
      rcases HB.out.2 with h0 | ⟨pb, po, rfl, hcell⟩
      · rw [h0] at hil; simp at hil
      have hci := hcell i hil
      have hyb := HB.out.1 (bs.getD i 0) (by simp [List.getD, hil])
      have hvs : valN (bs.take (i + 1)) = valN (bs.take i) * 128 + (bs.getD i 0 % 128).toNat := by
        rw [List.take_succ_eq_append_getElem hil, valN_snoc]
        simp [List.getD, hil]
      have hvm : ((((valN (bs.take i) % 18446744073709551616 : Nat) : Int) * 128) % 18446744073709551616 + bs.getD i 0 % 128) % 18446744073709551616 = ((valN (bs.take (i + 1)) % 18446744073709551616 : Nat) : Int) := by
        rw [hvs]
        have e : (((bs.getD i 0 % 128).toNat : Nat) : Int) = bs.getD i 0 % 128 := Int.toNat_of_nonneg (by omega)
        omega
      have HVM := hide hvm
      have hv1 : valN (bs.take i) % 18446744073709551616 < 18446744073709551616 := Nat.mod_lt _ (by decide)
      have hv2 : valN (bs.take (i + 1)) % 18446744073709551616 < 18446744073709551616 := Nat.mod_lt _ (by decide)
      have HF := fun h => hide (form_at HB.out.1 hil h HGE.out)
      clear hcell hvs hvm
      generalize hv : valN (bs.take i) % 18446744073709551616 = v at *
      generalize hv' : valN (bs.take (i + 1)) % 18446744073709551616 = v' at *
      generalize hy : bs.getD i 0 = y at *
      have HV' := hide hv'
      have HYY := hide hy
      clear hv hv' hy
      have hwv : IntKind.u64.wrap (IntKind.u64.wrap ((v : Int) * 128) + y % 128) = (v' : Int) := by
        rw [IntKind.wrap_u64, IntKind.wrap_u64]; exact HVM.out
      by_cases hy128 : y < 128
      · have HFF := HF hy128
        have hup : ∀ w, (Instr.slice 23 (.slice (some ⟨pb, po, none⟩) n cap) none (some (.int .i64 ((i : Int) + 1))) none).run Try.prog w = .ok (.slice (some ⟨pb, po, none⟩) (i + 1) cap) w := fun w => w_run_upto w (some ⟨pb, po, none⟩) n cap (i + 1) (by omega)
        have HCB : Hid (∀ w', Hid (Below w.heap.size w w') → (convert 23 9 (.slice (some ⟨pb, po, none⟩) (i + 1) cap)).run Try.prog w' = .ok (.string (strOfNums (bs.take (i + 1)))) w') := fun w' hb => w_conv_any (w_bytes_upto (bytes_kept HB.out (below_grown hb.out none) (fun a _ => by simp)) (i + 1)) _ cap (by have := HN.out; simp; omega)
        have C1 := hide (fun w' => refnum_conv' v' hv2 w')
        have hpost : Hid ((formOf bs).1 = (if numF v' = bs.take (i + 1) then v' else 0) ∧ (formOf bs).2 = (if numF v' = bs.take (i + 1) then i + 1 else 0)) := by
          show _ ∧ _
          rw [formOf, HFF.out]
          by_cases h : numF v' = bs.take (i + 1)
          · rw [if_pos h, if_pos h, if_pos h]
            refine ⟨rfl, ?_⟩
            have := HN.out
            simp; omega
          · rw [if_neg h, if_neg h, if_neg h]; exact ⟨rfl, rfl⟩
        have hstr : Hid (numF v' = bs.take (i + 1)) ∧ ((strOfNums (numF v')).toList == (strOfNums (bs.take (i + 1))).toList) = true ∧ ((strOfNums (numF v')).toList != (strOfNums (bs.take (i + 1))).toList) = false ∨ Hid (¬ numF v' = bs.take (i + 1)) ∧ ((strOfNums (numF v')).toList == (strOfNums (bs.take (i + 1))).toList) = false ∧ ((strOfNums (numF v')).toList != (strOfNums (bs.take (i + 1))).toList) = true := by
          by_cases h : numF v' = bs.take (i + 1)
          · left; refine ⟨h, str_same h, ?_⟩; rw [bne, str_same h]; rfl
          · have h2 := str_ne (numF_bytes v') (fun c hc => HB.out.1 c (List.mem_of_mem_take hc)) h
            right; refine ⟨h, h2, ?_⟩; rw [bne, h2]; rfl
        generalize strOfNums (numF v') = S1 at *
        generalize strOfNums (bs.take (i + 1)) = S2 at *
        clear HF HFF HVM
        have hwi : IntKind.i64.wrap ((i : Int) + 1) = (i : Int) + 1 := by rw [IntKind.wrap_i64]; omega
        rcases hstr with ⟨he, f1, f2⟩ | ⟨he, f1, f2⟩
        all_goals
          go_wp2
          refine wp_region_held_drew (S := fun w' => Hid (Below w.heap.size w w')) (by kernel_rfl) (hide (Below.refl w.heap.size w).drew) (fun hHeld => ?_)
          refine take_dstH (i := 0) (d := 30) (v := ?_) rfl rfl (by kernel_rfl) (by kernel_rfl) (by kernel_rfl) (fun _ _ _ h => h) (by rfl) hHeld ?_ ?_
          rotate_left
          · intro wZ hSw; clear hSw; go_simp; first | (with_reducible rfl) | (rw [if_pos (by omega)]; with_reducible rfl) | skip
          try simp only [Act.put, List.setIfInBounds_toArray, List.set_cons_zero, List.set_cons_succ]
          refine take_dstH (i := 3) (d := 33) (v := ?_) rfl rfl (by kernel_rfl) (by kernel_rfl) (by kernel_rfl) (fun _ _ _ h => h) (by rfl) hHeld ?_ ?_
          rotate_left
          · intro wZ hSw; clear hSw; go_simp; first | (with_reducible rfl) | (rw [if_pos (by omega)]; with_reducible rfl) | skip
          try simp only [Act.put, List.setIfInBounds_toArray, List.set_cons_zero, List.set_cons_succ]
          refine take_dstH (i := 4) (d := 34) (v := ?_) rfl rfl (by kernel_rfl) (by kernel_rfl) (by kernel_rfl) (fun _ _ _ h => h) (by rfl) hHeld ?_ ?_
          rotate_left
          · intro wZ hSw; clear hSw; go_simp; first | (with_reducible rfl) | (rw [if_pos (by omega)]; with_reducible rfl) | skip
          try simp only [Act.put, List.setIfInBounds_toArray, List.set_cons_zero, List.set_cons_succ]
          refine take_dstH (i := 5) (d := 35) (v := ?_) rfl rfl (by kernel_rfl) (by kernel_rfl) (by kernel_rfl) (fun _ _ _ h => h) (by rfl) hHeld ?_ ?_
          rotate_left
          · intro wZ hSw; clear hSw; go_simp; first | (with_reducible rfl) | (rw [if_pos (by omega)]; with_reducible rfl) | skip
          try simp only [Act.put, List.setIfInBounds_toArray, List.set_cons_zero, List.set_cons_succ]
          refine take_dstH (i := 6) (d := 36) (v := ?_) rfl rfl (by kernel_rfl) (by kernel_rfl) (by kernel_rfl) (fun _ _ _ h => h) (by rfl) hHeld ?_ ?_
          rotate_left
          · intro wZ hSw; clear hSw; go_simp; first | (with_reducible rfl) | (rw [if_pos (by omega)]; with_reducible rfl) | skip
          try simp only [Act.put, List.setIfInBounds_toArray, List.set_cons_zero, List.set_cons_succ]
          refine take_dstH (i := 7) (d := 37) (v := ?_) rfl rfl (by kernel_rfl) (by kernel_rfl) (by kernel_rfl) (fun _ _ _ h => h) (by rfl) hHeld ?_ ?_
          rotate_left
          · intro wZ hSw; have hfS := HCB.out wZ hSw; clear hSw; go_simp; first | (with_reducible rfl) | (rw [if_pos (by omega)]; with_reducible rfl) | skip
          try simp only [Act.put, List.setIfInBounds_toArray, List.set_cons_zero, List.set_cons_succ]
          refine wpAnyH_ready (rs := [1]) (by kernel_rfl) (by simp) ?_
          refine (AllReadyH.cons rfl (fun K hK => ?_) AllReadyH.nil)
          go_simp
          refine (C1.out _).mono ?_; rintro e wa ⟨pa, ca, ka, rfl, hka, hba, hca⟩; have HBa : Hid (Below w.heap.size w wa) := (Hid.out hHeld).trans (hba.mono (Hid.out hHeld).size); have hda := hca _ (Below.refl _ _); clear hca hba
          go_wp2_with fail
          refine hK.out _ _ ?_ (fun hHeld => ?_)
          · exact HBa
          clear hK K
          try simp only [Act.put, List.setIfInBounds_toArray, List.set_cons_zero, List.set_cons_succ]
          refine wpAnyH_ready (rs := [2]) (by kernel_rfl) (by simp) ?_
          refine (AllReadyH.cons rfl (fun K hK => ?_) AllReadyH.nil)
          go_simp
          refine hK.out _ _ ?_ (fun hHeld => ?_)
          · exact hHeld
          clear hK K
          try simp only [Act.put, List.setIfInBounds_toArray, List.set_cons_zero, List.set_cons_succ]
          refine take_dstH (i := 8) (d := 38) (v := ?_) rfl rfl (by kernel_rfl) (by kernel_rfl) (by kernel_rfl) (fun _ _ _ h => h) (by rfl) hHeld ?_ ?_
          rotate_left
          · intro wZ hSw; clear hSw; go_simp; first | (with_reducible rfl) | (rw [if_pos (by omega)]; with_reducible rfl) | skip
          try simp only [Act.put, List.setIfInBounds_toArray, List.set_cons_zero, List.set_cons_succ]
          refine wpAnyH_done (by kernel_rfl) ?_ _
          clear hda C1 HCB
          go_wp2
          go_ret2
          have h1 := hpost.out.1
          have h2 := hpost.out.2
          first
            | (rw [if_pos he.out] at h1 h2; exact ⟨ret2_form (by rw [h1]) (by rw [h2]; rfl), HBa.out⟩)
            | (rw [if_neg he.out] at h1 h2; exact ⟨ret2_form (by rw [h1]; rfl) (by rw [h2]; rfl), HBa.out⟩)
      · go_wp2
        go_roundg (10 - i)
        case measure => omega
        case rel =>
          refine ⟨i + 1, by rw [HV'.out], by go_num, by omega, by omega, by omega, ?_, rfl⟩
          intro j hj
          by_cases hji : j = i
          · subst hji; rw [HYY.out]; omega
          · exact HGE.out j (by omega)
    · have hno : rdNum bs = none := form_none (fun j h1 h2 => HGE.out j (by rw [HN.out] at h2; omega))
      have HNO := hide hno
      have hcase : decide (i < n) = false ∧ decide ((i : Int) < (n : Int)) = false ∨ (i < n ∧ i = 10) := by
        by_cases h : i < n
        · right; exact ⟨h, by omega⟩
        · left; exact ⟨by simpa using h, by simp; omega⟩
      clear hno hlt
      rcases hcase with ⟨h1, h2⟩ | ⟨h1, rfl⟩
      all_goals
        go_wp2
        go_ret2
        refine ⟨?_, Below.refl _ _⟩
        rw [formOf, HNO.out]
        rfl

set_option maxHeartbeats 1000000 in
set_option maxRecDepth 100000 in
theorem rrnum_any (b : Nat) (bs : List Int) (x : Int) (w : World) (hr : Rd A w b bs x) :
    Calls Try.prog 33 #[.pointer (some ⟨b, 0, none⟩)] w fun e w' => e = .returned (.int .u64 ((sNum bs x).1 : Nat)) ∧ Rd A w' b (sNum bs x).2.1 (sNum bs x).2.2 ∧ w.grownBy w' (some b) := by
  have HR := hide hr
  have hlt := hr.lt
  obtain ⟨p, cap, h0, h1, f0, f1, hlc, hm, hs, hb, hne⟩ := hr
  by_cases hx : x = 0
  · subst hx
    have hfm := refform_any p cap bs w hb hlc hs
    have HFM := hide hfm
    have HBY := hide hb.1
    clear hfm hb hne
    generalize hn : bs.length = n at *
    have HN := hide hn
    clear hn
    rcases hrd : rdNum bs with _ | ⟨m, rest⟩
    · have e1 : formOf bs = (0, 0) := by rw [formOf, hrd]
      have e2 : sNum bs 0 = (0, bs, 4) := by rw [sNum, if_pos rfl, hrd]
      rw [e1] at HFM
      rw [e2]
      clear e1 e2 hrd
      go_enter Try.func33, Try.ntmps33
      go_wp2_with fail
      refine (show Calls _ _ _ _ _ from HFM.out).mono ?_
      rintro e w1 ⟨rfl, hbl⟩
      have c1 := (hbl.cell (p := ⟨b, 1, none⟩) hlt).trans h1
      have g1 := (hbl.frozen (p := ⟨b, 1, none⟩) hlt).trans f1
      have HBL := hide hbl
      clear hbl HFM
      go_wp2
      go_ret
      have hst := (HR.out.kept HBL.out).seterr 4
      exact ⟨rfl, hst.1, grown_trans (below_grown HBL.out _) hst.2⟩
    · have e1 : formOf bs = (m, n - rest.length) := by rw [formOf, hrd, HN.out]
      have e2 : sNum bs 0 = (m, rest, 0) := by rw [sNum, if_pos rfl, hrd]
      have hfo := rdNum_form HBY.out hrd
      have hL : 1 ≤ (numF m).length := (numF_length m).1
      have hln : (numF m).length + rest.length = n := by rw [← HN.out, ← hfo]; simp
      have hdr : Hid (bs.drop (n - rest.length) = rest) := by
        show bs.drop (n - rest.length) = rest
        rw [show n - rest.length = (numF m).length by omega, ← hfo]; simp
      rw [e1] at HFM
      rw [e2]
      obtain ⟨k, hk⟩ : ∃ k, k = n - rest.length := ⟨_, rfl⟩
      have hk1 : 1 ≤ k := by omega
      have hkn : k ≤ n := by omega
      rw [← hk] at HFM hdr
      clear e1 e2 hrd hfo hL hln hk
      have hkz : ((k : Int) == 0) = false := by simp; omega
      have hfr := fun w => w_run_from w p n cap k hkn
      go_enter Try.func33, Try.ntmps33
      go_wp2_with fail
      refine (show Calls _ _ _ _ _ from HFM.out).mono ?_
      rintro e w1 ⟨rfl, hbl⟩
      have c0 := (hbl.cell (p := ⟨b, 0, none⟩) hlt).trans h0
      have g0 := (hbl.frozen (p := ⟨b, 0, none⟩) hlt).trans f0
      have HBL := hide hbl
      clear hbl HFM h0 h1 f0 f1
      go_wp2
      go_ret
      have hst := (HR.out.kept HBL.out).stored k (by rw [HN.out]; exact hkn) p cap (by rw [HN.out]; exact c0)
      rw [HN.out, hdr.out] at hst
      exact ⟨rfl, hst.1, grown_trans (below_grown HBL.out _) hst.2⟩
  · have e2 : sNum bs x = (0, bs, x) := by rw [sNum, if_neg hx]
    rw [e2]
    have hx' : (x != 0) = true := by simpa using hx
    clear hx hb hne e2
    go_enter Try.func33, Try.ntmps33
    go_wp2
    go_ret
    exact ⟨rfl, HR.out, grown_refl _ _⟩


/-- the reader behind all is taken -/
theorem Rd.emptied {w : World} {b : Nat} {bs : List Int} {x : Int} (h : Rd A w b bs x) :
    Rd A (w.setCell ⟨b, 0, none⟩ (.slice none 0 0)) b [] x ∧ w.grownBy (w.setCell ⟨b, 0, none⟩ (.slice none 0 0)) (some b) := by
  obtain ⟨p, cap, h0, h1, f0, f1, hlc, hm, hs, hb, hne⟩ := h
  refine ⟨⟨none, 0, World.cell?_setCell_same _ _ _ h0, ?_, by rw [World.frozen?_setCell]; exact f0, by rw [World.frozen?_setCell]; exact f1, Nat.le_refl _, Nat.zero_le _, Nat.zero_le _, ⟨by simp, Or.inl rfl⟩, fun a h => by cases h⟩,
    ⟨rfl, rfl, rfl, by simp, fun k _ hk => heap_setCell_other w ⟨b, 0, none⟩ k _ (fun e => hk (by simp [e]))⟩⟩
  rw [World.cell?_setCell_other _ _ _ _ (by simp)]
  exact h1


theorem w_run_mid (w : World) (p : Option Addr) (n cap k m : Nat) (h : k + m ≤ cap) :
    (Instr.slice 23 (.slice p n cap) (some (.int .i64 (k : Int))) (some (.int .i64 ((k : Int) + (m : Int)))) none).run Try.prog w = .ok (.slice (cutP p k cap) m (cap - k)) w := by
  have ht' : Try.prog.underlying 23 = some (.slice (Try.prog.elem 23)) := by simp [Program.elem, Try.underlying23]
  have he : Try.prog.elem 23 = 5 := by simp [Program.elem, Try.underlying23]
  rw [run_slice_lh w 23 _ _ _ ht' .i64 .i64 _ _ (by omega) (by omega) (by omega), he, size5]
  have e : ((k : Int) + (m : Int)).toNat - k = m := by omega
  simp [Result.andThen, sliced, cutP, e]


end Go.Proofs.Ytecpnnnkkofejaa
