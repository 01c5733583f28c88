/-
  A walk: columns mixed.
-/
import Derived.Test.YtflakgigekfgcaaEE
namespace Go.Proofs.Ytflakgigekfgcaa
open Go.RowKit

/-- a byte of a mixed block, of so many factors -/
def mxA (b f : List Nat) (i : Nat) : Nat → Nat
  | 0 => 0
  | k + 1 => mxA b f i k ^^^ tmF (b.getD (i - i % 4 + (i % 4 + k) % 4) 0) (f.getD k 0)

theorem mxA_lt {b : List Nat} (f : List Nat) (hb : ∀ i, b.getD i 0 < 256) (i : Nat) : ∀ k, mxA b f i k < 256 := by
  intro k
  induction k with
  | zero => show (0 : Nat) < 256; omega
  | succ k ih => exact xor_lt8 ih (tmF_lt _ (hb _))

theorem run_index4 (T : List Nat) (i x : Nat) (w : World) (hi : i < 4) (hx : (u8s T)[i]? = some (.int .u8 ((x : Nat) : Int))) :
    (Instr.index 62 (Value.agg (u8s T).toArray) (Value.int IntKind.i64 (i : Int))).run Try.prog w = .ok (.int .u8 ((x : Nat) : Int)) w := by
  obtain ⟨i0, hi0, hz0, hz1, hz2⟩ := info_parts info8s
  unfold Instr.index
  simp [asIntOf, run_underlying Try.underlying62 w, hi, Go.sizeOf, typeInfo, hi0, hz1, Go.part, hx]

/-- what lies in memory while columns are mixed -/
def StX (w wr : World) (b fs m : List Nat) : Prop :=
  Arr wr w.heap.size 22 (u8s b) ∧ Arr wr (w.heap.size + 1) 62 (u8s fs) ∧ Arr wr (w.heap.size + 1 + 1) 22 (u8s z16) ∧ Arr wr (w.heap.size + 1 + 1 + 1) 22 (u8s m) ∧ Below w.heap.size w wr

theorem StX.set {w wr : World} {b fs m : List Nat} (r : StX w wr b fs m) (i x : Nat) : StX w (wr.setCell ⟨w.heap.size + 1 + 1 + 1, i, none⟩ (.int .u8 ((x : Nat) : Int))) b fs (m.set i x) := by
  obtain ⟨h0, h1, h2, h3, h4⟩ := r
  refine ⟨h0.other _ _ (show w.heap.size ≠ w.heap.size + 1 + 1 + 1 by omega), h1.other _ _ (show w.heap.size + 1 ≠ w.heap.size + 1 + 1 + 1 by omega), h2.other _ _ (show w.heap.size + 1 + 1 ≠ w.heap.size + 1 + 1 + 1 by omega), ?_, h4.setCell (show w.heap.size ≤ w.heap.size + 1 + 1 + 1 by omega) _⟩
  have := h3.set i (.int .u8 ((x : Nat) : Int))
  rw [u8s_set] at this
  exact this
theorem StX.drew {w wr : World} {b fs m : List Nat} (r : StX w wr b fs m) : StX w wr.drew b fs m := ⟨r.1, r.2.1, r.2.2.1, r.2.2.2.1, r.2.2.2.2.drew⟩

theorem set_set (l : List Nat) (i x y : Nat) : (l.set i x).set i y = l.set i y := by simp
theorem set_at (l : List Nat) (i x : Nat) (h : i < l.length) : (l.set i x).getD i 0 = x := by simp [List.getD, h]
theorem part_next (T : List Nat) (n i : Nat) (h : T.length = n) (hi : i < n) : (part T n i).getD i 0 = 0 := by
  simp [part, List.getD, h, show min i n = i by omega, show 0 < n - i by omega]
theorem set_self (l : List Nat) (i : Nat) (h : i < l.length) : l.set i (l.getD i 0) = l := by
  simp [List.getD, h]

set_option maxHeartbeats 8000000 in
set_option maxRecDepth 100000 in
theorem mixed_of (b fs T : List Nat) (X : Nat → Nat → Nat) (w : World) (bl : b.length = 16) (fl : fs.length = 4) (hb : ∀ i, b.getD i 0 < 256) (hfs : ∀ i, fs.getD i 0 < 256) (hTL : T.length = 16) (hT : ∀ i, i < 16 → T.getD i 0 = X i 4)
    (hX0 : ∀ i, X i 0 = 0) (hXN : ∀ i k, X i (k + 1) = X i k ^^^ tmF (b.getD (i - i % 4 + (i % 4 + k) % 4) 0) (fs.getD k 0)) (hXB : ∀ i k, X i k < 256) :
    Calls Try.prog 39 #[.agg (u8s b).toArray, .agg (u8s fs).toArray] w fun e w' => e = .returned (.agg (u8s T).toArray) ∧ Below w.heap.size w w' := by
  have BL := hide bl
  have FL := hide fl
  have HB := hide hb
  have HF := hide hfs
  have TL := hide hTL
  have HT := hide hT
  have X0 := hide hX0
  have XN := hide hXN
  have XB := hide hXB
  clear bl fl hb hfs hTL hT hX0 hXN hXB
  have I4 : Hid ((Try.prog.info? 62).map (·.size) = some (u8s fs).toArray.size) := by show _ = _; rw [info4]; simp [u8s, FL.out]
  go_enter Try.func39, Try.ntmps39
  go_wp2
  go_loopg [10] 17 (fun f s10 wr => ∃ (i : Nat), s10 = .int .i64 i ∧ i ≤ 16 ∧ 16 - i < f ∧ Hid (StX w wr b fs (part T 16 i)))
  case atStart =>
    refine ⟨0, rfl, by omega, by omega, ?_⟩
    rw [part_zero16]
    refine ⟨(((Arr.new w _ (u8s b)).alloc _).alloc _).alloc _, ((Arr.newAt (w.alloc _) _ (u8s fs) _ (by simp)).alloc _).alloc _, (Arr.newAt ((w.alloc _).alloc _) _ (u8s z16) _ (by simp)).alloc _, Arr.newAt (((w.alloc _).alloc _).alloc _) _ (u8s z16) _ (by simp), ?_⟩
    exact ((((((Below.refl _ _).alloc (Nat.le_refl _) _).alloc (by simp) _).alloc (by simp; omega) _).alloc (by simp; omega) _))
  case round =>
    obtain ⟨i, rfl, hi, hf, HR⟩ := hrel
    by_cases hlt : i < 16
    · obtain ⟨q, hq⟩ : ∃ q, q = i % 4 := ⟨_, rfl⟩
      have HQ := hide hq
      have q1 : Int.tmod (i : Int) 4 = (q : Int) := by rw [Int.tmod_eq_emod_of_nonneg (by omega)]; omega
      have q2 : (i : Int) % 4 = (q : Int) := by omega
      have hq3 : q ≤ 3 := by omega
      have hqi : q ≤ i := by omega
      clear hq
      go_wp2_with (refine wpList_load_row rfl 62 _ rfl (w.heap.size + 1) rfl 62 _ (0, 0) _ HR.out.2.1 Try.underlying62 rfl I4.out ?_)
      go_loopg [16] 5 (fun f s16 wr => ∃ (k : Nat), s16 = .int .i64 k ∧ k ≤ 4 ∧ 4 - k < f ∧ Hid (StX w wr b fs ((part T 16 i).set i (X i k))))
      case atStart =>
        refine ⟨0, rfl, by omega, by omega, ?_⟩
        rw [X0.out, ← part_next T 16 i TL.out hlt, set_self _ _ (by rw [part_length _ _ _ TL.out (by omega)]; exact hlt)]
        exact HR
      case round =>
        clear HR
        rename_i wq gq
        obtain ⟨k, rfl, hk, hfk, HR⟩ := hrel
        by_cases hk4 : k < 4
        · obtain ⟨m, hm⟩ : ∃ m, m = (q + k) % 4 := ⟨_, rfl⟩
          obtain ⟨d, hd⟩ : ∃ d, d = i - q := ⟨_, rfl⟩
          obtain ⟨r, hr⟩ : ∃ r, r = d + m := ⟨_, rfl⟩
          have hlen : ((part T 16 i).set i (X i k)).length = 16 := by rw [List.length_set, part_length _ _ _ TL.out (by omega)]
          have HN : Hid (X i (k + 1) = X i k ^^^ tmF (b.getD r 0) (fs.getD k 0)) := by show _ = _; rw [XN.out, hr, hd, hm, HQ.out]
          have m1 : Int.tmod ((q : Int) + (k : Int)) 4 = (m : Int) := by rw [Int.tmod_eq_emod_of_nonneg (by omega)]; omega
          have m2 : ((q : Int) + (k : Int)) % 4 = (m : Int) := by omega
          have m3 : (i : Int) - (q : Int) = (d : Int) := by omega
          have m3w : IntKind.i64.wrap (d : Int) = (d : Int) := by simp [IntKind.wrap, IntKind.bits, IntKind.signed]; omega
          have m4 : (d : Int) + (m : Int) = (r : Int) := by omega
          have m4w : IntKind.i64.wrap (r : Int) = (r : Int) := by simp [IntKind.wrap, IntKind.bits, IntKind.signed]; omega
          have m5w : IntKind.i64.wrap ((q : Int) + (k : Int)) = (q : Int) + (k : Int) := by simp [IntKind.wrap, IntKind.bits, IntKind.signed]; omega
          have hr16 : (r : Int) < 16 := by have : i = 4 * (i / 4) + i % 4 := by omega
                                           have := HQ.out
                                           omega
          have hi16 : (i : Int) < 16 := by omega
          have HC : Hid (∀ v : World, Hid (Arr v w.heap.size 22 (u8s b)) → v.cell? ⟨w.heap.size, r, none⟩ = some (.int .u8 ((b.getD r 0 : Nat) : Int))) := fun v hv => (hv.out.cell r).trans (u8s_at (by rw [BL.out]; omega))
          have hidx := run_index4 fs k (fs.getD k 0) wr hk4 (u8s_at (by rw [FL.out]; exact hk4))
          have hk44 : (k : Int) < 4 := by omega
          have HTM := hide (fun v => times_any (b.getD r 0) (fs.getD k 0) (HB.out r) (HF.out k) v)
          have HX := hide (u8_xor_nat (X i k) (tmF (b.getD r 0) (fs.getD k 0)) (XB.out i k) (tmF_lt _ (HB.out r)))
          have cm := (HR.out.2.2.2.1.cell i).trans (u8s_at (by rw [hlen]; exact hlt))
          rw [set_at _ _ _ (by rw [part_length _ _ _ TL.out (by omega)]; exact hlt)] at cm
          have fm := HR.out.2.2.2.1.frozen i
          clear hm hd hr hlen
          generalize hXk : X i k = xk at *
          have HXK := hide hXk
          clear hXk
          generalize tmF (b.getD r 0) (fs.getD k 0) = tk at *
          generalize b.getD r 0 = y at *
          generalize fs.getD k 0 = fk at *
          go_wp2_with fail
          refine wp_region_held_drew (S := fun w' => Hid (Arr w' w.heap.size 22 (u8s b))) (by kernel_rfl) (hide HR.out.1) (fun hHeld => ?_)
          refine take_dstH (i := 0) (d := 20) (v := ?_) rfl rfl (by kernel_rfl) (by kernel_rfl) (by kernel_rfl) (fun _ _ _ h => h) (by rfl) hHeld ?_ ?_
          rotate_left
          · intro wZ hSw; clear hSw; go_simp; first | (with_reducible rfl) | (rw [if_pos (by omega)]; with_reducible rfl) | skip
          try simp only [Act.put, List.setIfInBounds_toArray, List.set_cons_zero, List.set_cons_succ]
          refine take_dstH (i := 1) (d := 21) (v := ?_) rfl rfl (by kernel_rfl) (by kernel_rfl) (by kernel_rfl) (fun _ _ _ h => h) (by rfl) hHeld ?_ ?_
          rotate_left
          · intro wZ hSw; clear hSw; go_simp; first | (with_reducible rfl) | (rw [if_pos (by omega)]; with_reducible rfl) | skip
          try simp only [Act.put, List.setIfInBounds_toArray, List.set_cons_zero, List.set_cons_succ]
          refine take_dstH (i := 3) (d := 23) (v := ?_) rfl rfl (by kernel_rfl) (by kernel_rfl) (by kernel_rfl) (fun _ _ _ h => h) (by rfl) hHeld ?_ ?_
          rotate_left
          · intro wZ hSw; clear hSw; go_simp; first | (with_reducible rfl) | (rw [if_pos (by omega)]; with_reducible rfl) | skip
          try simp only [Act.put, List.setIfInBounds_toArray, List.set_cons_zero, List.set_cons_succ]
          refine take_dstH (i := 4) (d := 24) (v := ?_) rfl rfl (by kernel_rfl) (by kernel_rfl) (by kernel_rfl) (fun _ _ _ h => h) (by rfl) hHeld ?_ ?_
          rotate_left
          · intro wZ hSw; clear hSw; go_simp; first | (with_reducible rfl) | (rw [if_pos (by omega)]; with_reducible rfl) | skip
          try simp only [Act.put, List.setIfInBounds_toArray, List.set_cons_zero, List.set_cons_succ]
          refine take_dstH (i := 5) (d := 25) (v := ?_) rfl rfl (by kernel_rfl) (by kernel_rfl) (by kernel_rfl) (fun _ _ _ h => h) (by rfl) hHeld ?_ ?_
          rotate_left
          · intro wZ hSw; clear hSw; go_simp; first | (with_reducible rfl) | (rw [if_pos (by omega)]; with_reducible rfl) | skip
          try simp only [Act.put, List.setIfInBounds_toArray, List.set_cons_zero, List.set_cons_succ]
          refine take_dstH (i := 6) (d := 26) (v := ?_) rfl rfl (by kernel_rfl) (by kernel_rfl) (by kernel_rfl) (fun _ _ _ h => h) (by rfl) hHeld ?_ ?_
          rotate_left
          · intro wZ hSw; clear hSw; go_simp; first | (with_reducible rfl) | (rw [if_pos (by omega)]; with_reducible rfl) | skip
          try simp only [Act.put, List.setIfInBounds_toArray, List.set_cons_zero, List.set_cons_succ]
          refine take_dstH (i := 7) (d := 27) (v := ?_) rfl rfl (by kernel_rfl) (by kernel_rfl) (by kernel_rfl) (fun _ _ _ h => h) (by rfl) hHeld ?_ ?_
          rotate_left
          · intro wZ hSw; clear hSw; go_simp; first | (with_reducible rfl) | (rw [if_pos (by omega)]; with_reducible rfl) | skip
          try simp only [Act.put, List.setIfInBounds_toArray, List.set_cons_zero, List.set_cons_succ]
          refine take_dstH (i := 8) (d := 28) (v := ?_) rfl rfl (by kernel_rfl) (by kernel_rfl) (by kernel_rfl) (fun _ _ _ h => h) (by rfl) hHeld ?_ ?_
          rotate_left
          · intro wZ hSw; clear hSw; go_simp; first | (with_reducible rfl) | (rw [if_pos (by omega)]; with_reducible rfl) | skip
          try simp only [Act.put, List.setIfInBounds_toArray, List.set_cons_zero, List.set_cons_succ]
          refine take_dstH (i := 9) (d := 29) (v := ?_) rfl rfl (by kernel_rfl) (by kernel_rfl) (by kernel_rfl) (fun _ _ _ h => h) (by rfl) hHeld ?_ ?_
          rotate_left
          · intro wZ hSw; clear hSw; go_simp; first | (with_reducible rfl) | (rw [if_pos (by omega)]; with_reducible rfl) | skip
          try simp only [Act.put, List.setIfInBounds_toArray, List.set_cons_zero, List.set_cons_succ]
          refine take_dstH (i := 10) (d := 30) (v := ?_) rfl rfl (by kernel_rfl) (by kernel_rfl) (by kernel_rfl) (fun _ _ _ h => h) (by rfl) hHeld ?_ ?_
          rotate_left
          · intro wZ hSw; clear hSw; go_simp; first | (with_reducible rfl) | (rw [if_pos (by omega)]; with_reducible rfl) | skip
          try simp only [Act.put, List.setIfInBounds_toArray, List.set_cons_zero, List.set_cons_succ]
          refine take_dstH (i := 11) (d := 31) (v := ?_) rfl rfl (by kernel_rfl) (by kernel_rfl) (by kernel_rfl) (fun _ _ _ h => h) (by rfl) hHeld ?_ ?_
          rotate_left
          · intro wZ hSw; clear hSw; go_simp; first | (with_reducible rfl) | (rw [if_pos (by omega)]; with_reducible rfl) | skip
          try simp only [Act.put, List.setIfInBounds_toArray, List.set_cons_zero, List.set_cons_succ]
          refine take_dstH (i := 12) (d := 32) (v := ?_) rfl rfl (by kernel_rfl) (by kernel_rfl) (by kernel_rfl) (fun _ _ _ h => h) (by rfl) hHeld ?_ ?_
          rotate_left
          · intro wZ hSw; have hfS := HC.out wZ hSw; clear hSw; go_simp; first | (with_reducible rfl) | (rw [if_pos (by omega)]; with_reducible rfl) | skip
          try simp only [Act.put, List.setIfInBounds_toArray, List.set_cons_zero, List.set_cons_succ]
          refine take_dstH (i := 13) (d := 33) (v := ?_) rfl rfl (by kernel_rfl) (by kernel_rfl) (by kernel_rfl) (fun _ _ _ h => h) (by rfl) hHeld ?_ ?_
          rotate_left
          · intro wZ hSw; clear hSw; go_simp; first | (with_reducible rfl) | (rw [if_pos (by omega)]; with_reducible rfl) | skip
          try simp only [Act.put, List.setIfInBounds_toArray, List.set_cons_zero, List.set_cons_succ]
          refine wpAnyH_ready (rs := [2, 14]) (by kernel_rfl) (by simp) ?_
          refine (AllReadyH.cons rfl (fun K hK => ?_) (AllReadyH.cons rfl (fun K hK => ?_) AllReadyH.nil))
          focus
            go_simp
            refine hK.out _ _ ?_ (fun hHeld => ?_)
            · exact hHeld
            clear hK K
            try simp only [Act.put, List.setIfInBounds_toArray, List.set_cons_zero, List.set_cons_succ]
            refine wpAnyH_ready (rs := [14]) (by kernel_rfl) (by simp) ?_
            refine (AllReadyH.cons rfl (fun K hK => ?_) AllReadyH.nil)
            go_simp
            refine (HTM.out _).mono ?_; rintro e wa ⟨rfl, hwa⟩; subst hwa
            go_wp2_with fail
            refine hK.out _ _ ?_ (fun hHeld => ?_)
            · exact hHeld
            clear hK K
            try simp only [Act.put, List.setIfInBounds_toArray, List.set_cons_zero, List.set_cons_succ]
            refine take_dstH (i := 15) (d := 35) (v := ?_) rfl rfl (by kernel_rfl) (by kernel_rfl) (by kernel_rfl) (fun _ _ _ h => h) (by rfl) hHeld ?_ ?_
            rotate_left
            · intro wZ hSw; clear hSw; go_simp; first | (with_reducible rfl) | (rw [if_pos (by omega)]; with_reducible rfl) | skip
            try simp only [Act.put, List.setIfInBounds_toArray, List.set_cons_zero, List.set_cons_succ]
            refine take_dstH (i := 16) (d := 36) (v := ?_) rfl rfl (by kernel_rfl) (by kernel_rfl) (by kernel_rfl) (fun _ _ _ h => h) (by rfl) hHeld ?_ ?_
            rotate_left
            · intro wZ hSw; clear hSw; go_simp; first | (with_reducible rfl) | (rw [if_pos (by omega)]; with_reducible rfl) | skip
            try simp only [Act.put, List.setIfInBounds_toArray, List.set_cons_zero, List.set_cons_succ]
            refine wpAnyH_ready (rs := [17]) (by kernel_rfl) (by simp) ?_
            refine (AllReadyH.cons rfl (fun K hK => ?_) AllReadyH.nil)
            go_simp
            refine hK.out _ _ ?_ (fun hHeld => ?_)
            · exact hide (HR.out.drew.set i _).1
            clear hK K
            try simp only [Act.put, List.setIfInBounds_toArray, List.set_cons_zero, List.set_cons_succ]
            refine wpAnyH_done (by kernel_rfl) ?_ _
          rotate_left 1
          focus
            go_simp
            refine (HTM.out _).mono ?_; rintro e wa ⟨rfl, hwa⟩; subst hwa
            go_wp2_with fail
            refine hK.out _ _ ?_ (fun hHeld => ?_)
            · exact hHeld
            clear hK K
            try simp only [Act.put, List.setIfInBounds_toArray, List.set_cons_zero, List.set_cons_succ]
            refine wpAnyH_ready (rs := [2]) (by kernel_rfl) (by simp) ?_
            refine (AllReadyH.cons rfl (fun K hK => ?_) AllReadyH.nil)
            go_simp
            refine hK.out _ _ ?_ (fun hHeld => ?_)
            · exact hHeld
            clear hK K
            try simp only [Act.put, List.setIfInBounds_toArray, List.set_cons_zero, List.set_cons_succ]
            refine take_dstH (i := 15) (d := 35) (v := ?_) rfl rfl (by kernel_rfl) (by kernel_rfl) (by kernel_rfl) (fun _ _ _ h => h) (by rfl) hHeld ?_ ?_
            rotate_left
            · intro wZ hSw; clear hSw; go_simp; first | (with_reducible rfl) | (rw [if_pos (by omega)]; with_reducible rfl) | skip
            try simp only [Act.put, List.setIfInBounds_toArray, List.set_cons_zero, List.set_cons_succ]
            refine take_dstH (i := 16) (d := 36) (v := ?_) rfl rfl (by kernel_rfl) (by kernel_rfl) (by kernel_rfl) (fun _ _ _ h => h) (by rfl) hHeld ?_ ?_
            rotate_left
            · intro wZ hSw; clear hSw; go_simp; first | (with_reducible rfl) | (rw [if_pos (by omega)]; with_reducible rfl) | skip
            try simp only [Act.put, List.setIfInBounds_toArray, List.set_cons_zero, List.set_cons_succ]
            refine wpAnyH_ready (rs := [17]) (by kernel_rfl) (by simp) ?_
            refine (AllReadyH.cons rfl (fun K hK => ?_) AllReadyH.nil)
            go_simp
            refine hK.out _ _ ?_ (fun hHeld => ?_)
            · exact hide (HR.out.drew.set i _).1
            clear hK K
            try simp only [Act.put, List.setIfInBounds_toArray, List.set_cons_zero, List.set_cons_succ]
            refine wpAnyH_done (by kernel_rfl) ?_ _
          all_goals
            rw [HX.out, ← HN.out]
            clear hHeld
            go_wp2
            go_roundg (4 - k)
            case measure => omega
            case rel =>
              refine ⟨k + 1, by go_num, by omega, by omega, ?_⟩
              have := (HR.out.set i (X i (k + 1))).drew
              rw [set_set] at this
              exact this
        · have e : k = 4 := by omega
          subst e
          rw [← HT.out i hlt, part_set _ _ _ TL.out hlt] at HR
          go_wp2
          go_roundg (16 - i)
          case measure => omega
          case rel => exact ⟨i + 1, by go_num, by omega, by omega, HR⟩
    · have e : i = 16 := by omega
      subst e
      rw [part_full _ _ TL.out] at HR
      have K0 := hide HR.out.2.2.2.1
      have K2 := hide HR.out.2.2.1
      have KB := hide HR.out.2.2.2.2
      have T1 := hide (sz16 TL.out)
      have T2 := hide (old16 TL.out)
      have O2 := hide (one_u8s T)
      clear HR
      go_wp2_with (first
        | (refine wpList_load_row rfl 22 _ rfl (w.heap.size + 1 + 1 + 1) rfl 22 _ (0, 0) _ K0.out Try.underlying22 rfl T1.out ?_)
        | (refine wpList_store_row rfl 22 _ _ rfl (w.heap.size + 1 + 1) _ rfl rfl 22 _ K2.out T1.out T2.out O2.out ?_))
      exact bodyPost_ret (v := .agg (u8s T).toArray) (results_cell_row Try.results39 _ _ (w.heap.size + 1 + 1) 22 _ (0, 0) _ rfl (K2.out.row _) Try.underlying22 rfl T1.out) rfl ⟨rfl, below_setRow KB.out (by omega) K2.out.lt _⟩

end Go.Proofs.Ytflakgigekfgcaa
