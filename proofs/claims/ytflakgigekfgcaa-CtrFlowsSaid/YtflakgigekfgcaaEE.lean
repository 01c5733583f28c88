/-
  Walks: blocks added, each byte of a block by a table, rows moved.
-/
import Derived.Test.YtflakgigekfgcaaED
namespace Go.Proofs.Ytflakgigekfgcaa
open Go.RowKit

def z16 : List Nat := List.replicate 16 0
theorem z16_length : z16.length = 16 := rfl

/-- what lies in memory: a block that is written, something beside it, room for what is told -/
def St3 (w wr : World) (t : TypeId) (a c : List Nat) : Prop :=
  Arr wr w.heap.size 22 (u8s a) ∧ Arr wr (w.heap.size + 1) t (u8s c) ∧ Arr wr (w.heap.size + 1 + 1) 22 (u8s z16) ∧ Below w.heap.size w wr

theorem St3.set {w wr : World} {t : TypeId} {a c : List Nat} (r : St3 w wr t a c) (i x : Nat) : St3 w (wr.setCell ⟨w.heap.size, i, none⟩ (.int .u8 ((x : Nat) : Int))) t (a.set i x) c := by
  obtain ⟨h0, h1, h2, h3⟩ := r
  refine ⟨?_, h1.other _ _ (show w.heap.size + 1 ≠ w.heap.size by omega), h2.other _ _ (show w.heap.size + 1 + 1 ≠ w.heap.size by omega), h3.setCell (show w.heap.size ≤ w.heap.size by omega) _⟩
  have := h0.set i (.int .u8 ((x : Nat) : Int))
  rw [u8s_set] at this
  exact this
theorem St3.drew {w wr : World} {t : TypeId} {a c : List Nat} (r : St3 w wr t a c) : St3 w wr.drew t a c := ⟨r.1, r.2.1, r.2.2.1, r.2.2.2.drew⟩

theorem St3.start (w : World) (t : TypeId) (a c : List Nat) : St3 w (((w.alloc (Obj.cells (u8s a).toArray 22)).alloc (Obj.cells (u8s c).toArray t)).alloc (Obj.cells (u8s z16).toArray 22)) t a c := by
  refine ⟨((Arr.new w _ (u8s a)).alloc _).alloc _, (Arr.newAt (w.alloc _) t (u8s c) _ (by simp)).alloc _, Arr.newAt ((w.alloc _).alloc _) _ (u8s z16) _ (by simp), ?_⟩
  exact (((((Below.refl _ _).alloc (Nat.le_refl _) _).alloc (by simp) _).alloc (by simp; omega) _))

theorem sz16 {T : List Nat} (h : T.length = 16) : (Try.prog.info? 22).map (·.size) = some (u8s T).toArray.size := by rw [info16]; simp [u8s, h]
theorem old16 {T : List Nat} (h : T.length = 16) : (u8s z16).toArray.size = (u8s T).toArray.size := by simp [u8s, h, z16]

set_option maxHeartbeats 8000000 in
set_option maxRecDepth 100000 in
theorem sum_of (a b T : List Nat) (w : World) (al : a.length = 16) (bl : b.length = 16) (ha : ∀ x ∈ a, x < 256) (hb : ∀ x ∈ b, x < 256) (hTL : T.length = 16) (hT : ∀ i, i < 16 → T.getD i 0 = a.getD i 0 ^^^ b.getD i 0) :
    Calls Try.prog 36 #[.agg (u8s a).toArray, .agg (u8s b).toArray] w fun e w' => e = .returned (.agg (u8s T).toArray) ∧ Below w.heap.size w w' := by
  have AL := hide al
  have BL := hide bl
  have HA := hide (fun i => getD_lt ha (by omega) i)
  have HB := hide (fun i => getD_lt hb (by omega) i)
  have TL := hide hTL
  have HT := hide hT
  clear al bl ha hb hTL hT
  go_enter Try.func36, Try.ntmps36
  go_wp2
  go_loopg [6] 17 (fun f s6 wr => ∃ (i : Nat), s6 = .int .i64 i ∧ i ≤ 16 ∧ 16 - i < f ∧ Hid (St3 w wr 22 (over T a i) b))
  case atStart =>
    refine ⟨0, rfl, by omega, by omega, ?_⟩
    rw [over_zero]
    exact St3.start w _ a b
  case round =>
    obtain ⟨i, rfl, hi, hf, HR⟩ := hrel
    by_cases hlt : i < 16
    · have e1 := over_at T a 16 i i TL.out AL.out hlt
      rw [if_neg (by omega)] at e1
      have ca := (HR.out.1.cell i).trans (u8s_at (by rw [over_length _ _ _ _ TL.out AL.out (by omega)]; omega))
      rw [e1] at ca
      have fa := HR.out.1.frozen i
      have HC : Hid (∀ v : World, Hid (Arr v (w.heap.size + 1) 22 (u8s b)) → v.cell? ⟨w.heap.size + 1, i, none⟩ = some (.int .u8 ((b.getD i 0 : Nat) : Int))) := fun v hv => (hv.out.cell i).trans (u8s_at (by rw [BL.out]; omega))
      have HX := hide (u8_xor_nat (a.getD i 0) (b.getD i 0) (HA.out i) (HB.out i))
      have HN := hide (HT.out i hlt)
      clear e1
      generalize a.getD i 0 = x at *
      generalize b.getD i 0 = y at *
      have hi16 : (i : Int) < 16 := by omega
      go_wp2_with fail
      refine wp_region_held_drew (S := fun w' => Hid (Arr w' (w.heap.size + 1) 22 (u8s b))) (by kernel_rfl) (hide HR.out.2.1) (fun hHeld => ?_)
      refine take_dstH (i := 0) (d := 9) (v := ?_) rfl rfl (by kernel_rfl) (by kernel_rfl) (by kernel_rfl) (fun _ _ _ h => h) (by rfl) hHeld ?_ ?_
      rotate_left
      · intro wZ hSw; clear hSw; go_simp; first | (with_reducible rfl) | (rw [if_pos (by omega)]; with_reducible rfl) | skip
      try simp only [Act.put, List.setIfInBounds_toArray, List.set_cons_zero, List.set_cons_succ]
      refine take_dstH (i := 1) (d := 10) (v := ?_) rfl rfl (by kernel_rfl) (by kernel_rfl) (by kernel_rfl) (fun _ _ _ h => h) (by rfl) hHeld ?_ ?_
      rotate_left
      · intro wZ hSw; clear hSw; go_simp; first | (with_reducible rfl) | (rw [if_pos (by omega)]; with_reducible rfl) | skip
      try simp only [Act.put, List.setIfInBounds_toArray, List.set_cons_zero, List.set_cons_succ]
      refine take_dstH (i := 3) (d := 12) (v := ?_) rfl rfl (by kernel_rfl) (by kernel_rfl) (by kernel_rfl) (fun _ _ _ h => h) (by rfl) hHeld ?_ ?_
      rotate_left
      · intro wZ hSw; clear hSw; go_simp; first | (with_reducible rfl) | (rw [if_pos (by omega)]; with_reducible rfl) | skip
      try simp only [Act.put, List.setIfInBounds_toArray, List.set_cons_zero, List.set_cons_succ]
      refine take_dstH (i := 4) (d := 13) (v := ?_) rfl rfl (by kernel_rfl) (by kernel_rfl) (by kernel_rfl) (fun _ _ _ h => h) (by rfl) hHeld ?_ ?_
      rotate_left
      · intro wZ hSw; clear hSw; go_simp; first | (with_reducible rfl) | (rw [if_pos (by omega)]; with_reducible rfl) | skip
      try simp only [Act.put, List.setIfInBounds_toArray, List.set_cons_zero, List.set_cons_succ]
      refine take_dstH (i := 5) (d := 14) (v := ?_) rfl rfl (by kernel_rfl) (by kernel_rfl) (by kernel_rfl) (fun _ _ _ h => h) (by rfl) hHeld ?_ ?_
      rotate_left
      · intro wZ hSw; have hfS := HC.out wZ hSw; clear hSw; go_simp; first | (with_reducible rfl) | (rw [if_pos (by omega)]; with_reducible rfl) | skip
      try simp only [Act.put, List.setIfInBounds_toArray, List.set_cons_zero, List.set_cons_succ]
      refine wpAnyH_ready (rs := [2]) (by kernel_rfl) (by simp) ?_
      refine (AllReadyH.cons rfl (fun K hK => ?_) AllReadyH.nil)
      go_simp
      refine hK.out _ _ ?_ (fun hHeld => ?_)
      · exact hHeld
      clear hK K
      try simp only [Act.put, List.setIfInBounds_toArray, List.set_cons_zero, List.set_cons_succ]
      refine take_dstH (i := 6) (d := 15) (v := ?_) rfl rfl (by kernel_rfl) (by kernel_rfl) (by kernel_rfl) (fun _ _ _ h => h) (by rfl) hHeld ?_ ?_
      rotate_left
      · intro wZ hSw; clear hSw; go_simp; first | (with_reducible rfl) | (rw [if_pos (by omega)]; with_reducible rfl) | skip
      try simp only [Act.put, List.setIfInBounds_toArray, List.set_cons_zero, List.set_cons_succ]
      refine take_dstH (i := 7) (d := 16) (v := ?_) rfl rfl (by kernel_rfl) (by kernel_rfl) (by kernel_rfl) (fun _ _ _ h => h) (by rfl) hHeld ?_ ?_
      rotate_left
      · intro wZ hSw; clear hSw; go_simp; first | (with_reducible rfl) | (rw [if_pos (by omega)]; with_reducible rfl) | skip
      try simp only [Act.put, List.setIfInBounds_toArray, List.set_cons_zero, List.set_cons_succ]
      refine wpAnyH_ready (rs := [8]) (by kernel_rfl) (by simp) ?_
      refine (AllReadyH.cons rfl (fun K hK => ?_) AllReadyH.nil)
      go_simp
      refine hK.out _ _ ?_ (fun hHeld => ?_)
      · exact hide (HR.out.drew.set i _).2.1
      clear hK K
      try simp only [Act.put, List.setIfInBounds_toArray, List.set_cons_zero, List.set_cons_succ]
      refine wpAnyH_done (by kernel_rfl) ?_ _
      rw [HX.out, ← HN.out]
      clear hHeld
      go_wp2
      go_roundg (16 - i)
      case measure => omega
      case rel =>
        refine ⟨i + 1, by go_num, by omega, by omega, ?_⟩
        have := (HR.out.set i (T.getD i 0)).drew
        rw [over_set _ _ _ _ TL.out AL.out hlt] at this
        exact this
    · have e : i = 16 := by omega
      subst e
      rw [over_full _ _ _ TL.out AL.out] at HR
      have K0 := hide HR.out.1
      have K2 := hide HR.out.2.2.1
      have KB := hide HR.out.2.2.2
      have T1 := hide (sz16 TL.out)
      have T2 := hide (old16 TL.out)
      have O2 := hide (one_u8s T)
      clear HR
      go_wp2_with (first
        | (refine wpList_load_row rfl 22 _ rfl w.heap.size rfl 22 _ (0, 0) _ K0.out Try.underlying22 rfl T1.out ?_)
        | (refine wpList_store_row rfl 22 _ _ rfl (w.heap.size + 1 + 1) _ rfl rfl 22 _ K2.out T1.out T2.out O2.out ?_))
      exact bodyPost_ret (v := .agg (u8s T).toArray) (results_cell_row Try.results36 _ _ (w.heap.size + 1 + 1) 22 _ (0, 0) _ rfl (K2.out.row _) Try.underlying22 rfl T1.out) rfl ⟨rfl, below_setRow KB.out (by omega) K2.out.lt _⟩

set_option maxHeartbeats 8000000 in
set_option maxRecDepth 100000 in
theorem each_of (a b T : List Nat) (w : World) (al : a.length = 16) (bl : b.length = 256) (ha : ∀ x ∈ a, x < 256) (hTL : T.length = 16) (hT : ∀ i, i < 16 → T.getD i 0 = b.getD (a.getD i 0) 0) :
    Calls Try.prog 38 #[.agg (u8s a).toArray, .agg (u8s b).toArray] w fun e w' => e = .returned (.agg (u8s T).toArray) ∧ Below w.heap.size w w' := by
  have AL := hide al
  have BL := hide bl
  have HA := hide (fun i => getD_lt ha (by omega) i)
  have TL := hide hTL
  have HT := hide hT
  clear al bl ha hTL hT
  go_enter Try.func38, Try.ntmps38
  go_wp2
  go_loopg [6] 17 (fun f s6 wr => ∃ (i : Nat), s6 = .int .i64 i ∧ i ≤ 16 ∧ 16 - i < f ∧ Hid (St3 w wr 52 (over T a i) b))
  case atStart =>
    refine ⟨0, rfl, by omega, by omega, ?_⟩
    rw [over_zero]
    exact St3.start w _ a b
  case round =>
    obtain ⟨i, rfl, hi, hf, HR⟩ := hrel
    by_cases hlt : i < 16
    · have e1 := over_at T a 16 i i TL.out AL.out hlt
      rw [if_neg (by omega)] at e1
      have ca := (HR.out.1.cell i).trans (u8s_at (by rw [over_length _ _ _ _ TL.out AL.out (by omega)]; omega))
      rw [e1] at ca
      have fa := HR.out.1.frozen i
      have hx := HA.out i
      have HN := hide (HT.out i hlt)
      clear e1
      generalize a.getD i 0 = x at *
      have cb := (HR.out.2.1.cell x).trans (u8s_at (by rw [BL.out]; omega))
      rw [← HN.out] at cb
      have hi16 : (i : Int) < 16 := by omega
      generalize hz : T.getD i 0 = z at *
      have HZ := hide hz
      clear hz
      go_wp2
      go_roundg (16 - i)
      case measure => omega
      case rel =>
        refine ⟨i + 1, by go_num, by omega, by omega, ?_⟩
        have := (HR.out.set i z)
        rw [← HZ.out, over_set _ _ _ _ TL.out AL.out hlt, HZ.out] at this
        exact this
    · have e : i = 16 := by omega
      subst e
      rw [over_full _ _ _ TL.out AL.out] at HR
      have K0 := hide HR.out.1
      have K2 := hide HR.out.2.2.1
      have KB := hide HR.out.2.2.2
      have T1 := hide (sz16 TL.out)
      have T2 := hide (old16 TL.out)
      have O2 := hide (one_u8s T)
      clear HR
      go_wp2_with (first
        | (refine wpList_load_row rfl 22 _ rfl w.heap.size rfl 22 _ (0, 0) _ K0.out Try.underlying22 rfl T1.out ?_)
        | (refine wpList_store_row rfl 22 _ _ rfl (w.heap.size + 1 + 1) _ rfl rfl 22 _ K2.out T1.out T2.out O2.out ?_))
      exact bodyPost_ret (v := .agg (u8s T).toArray) (results_cell_row Try.results38 _ _ (w.heap.size + 1 + 1) 22 _ (0, 0) _ rfl (K2.out.row _) Try.underlying22 rfl T1.out) rfl ⟨rfl, below_setRow KB.out (by omega) K2.out.lt _⟩

/-- what lies in memory while rows are moved -/
def StM (w wr : World) (b m : List Nat) : Prop :=
  Arr wr w.heap.size 22 (u8s b) ∧ Arr wr (w.heap.size + 1) 22 (u8s z16) ∧ Arr wr (w.heap.size + 1 + 1) 22 (u8s m) ∧ Below w.heap.size w wr

theorem StM.set {w wr : World} {b m : List Nat} (r : StM w wr b m) (i x : Nat) : StM w (wr.setCell ⟨w.heap.size + 1 + 1, i, none⟩ (.int .u8 ((x : Nat) : Int))) b (m.set i x) := by
  obtain ⟨h0, h1, h2, h3⟩ := r
  refine ⟨h0.other _ _ (show w.heap.size ≠ w.heap.size + 1 + 1 by omega), h1.other _ _ (show w.heap.size + 1 ≠ w.heap.size + 1 + 1 by omega), ?_, h3.setCell (show w.heap.size ≤ w.heap.size + 1 + 1 by omega) _⟩
  have := h2.set i (.int .u8 ((x : Nat) : Int))
  rw [u8s_set] at this
  exact this

theorem part_zero16 (T : List Nat) : part T 16 0 = z16 := by simp [part, z16]

set_option maxHeartbeats 8000000 in
set_option maxRecDepth 100000 in
theorem moved_of (b T : List Nat) (t : Nat) (w : World) (ht : t ≤ 3) (bl : b.length = 16) (hTL : T.length = 16) (hT : ∀ i, i < 16 → T.getD i 0 = b.getD ((i + 4 * t * (i % 4)) % 16) 0) :
    Calls Try.prog 37 #[.agg (u8s b).toArray, .int .i64 (t : Int)] w fun e w' => e = .returned (.agg (u8s T).toArray) ∧ Below w.heap.size w w' := by
  have BL := hide bl
  have TL := hide hTL
  have HT := hide hT
  clear bl hTL hT
  go_enter Try.func37, Try.ntmps37
  go_wp2
  go_loopg [7] 17 (fun f s7 wr => ∃ (i : Nat), s7 = .int .i64 i ∧ i ≤ 16 ∧ 16 - i < f ∧ Hid (StM w wr b (part T 16 i)))
  case atStart =>
    refine ⟨0, rfl, by omega, by omega, ?_⟩
    rw [part_zero16]
    refine ⟨((Arr.new w _ (u8s b)).alloc _).alloc _, (Arr.newAt (w.alloc _) _ (u8s z16) _ (by simp)).alloc _, Arr.newAt ((w.alloc _).alloc _) _ (u8s z16) _ (by simp), ?_⟩
    exact (((((Below.refl _ _).alloc (Nat.le_refl _) _).alloc (by simp) _).alloc (by simp; omega) _))
  case round =>
    obtain ⟨i, rfl, hi, hf, HR⟩ := hrel
    by_cases hlt : i < 16
    · obtain ⟨q, hq⟩ : ∃ q, q = i % 4 := ⟨_, rfl⟩
      obtain ⟨f4, hf4⟩ : ∃ f, f = 4 * t := ⟨_, rfl⟩
      obtain ⟨g, hg⟩ : ∃ g, g = f4 * q := ⟨_, rfl⟩
      obtain ⟨r, hr⟩ : ∃ r, r = (i + g) % 16 := ⟨_, rfl⟩
      have hg36 : g ≤ 36 := by
        rw [hg]
        exact Nat.mul_le_mul (show f4 ≤ 12 by omega) (show q ≤ 3 by omega)
      have HN : Hid (T.getD i 0 = b.getD r 0) := by show _ = _; rw [HT.out i hlt, hr, hg, hf4, hq]
      have q1 : Int.tmod (i : Int) 4 = (q : Int) := by rw [Int.tmod_eq_emod_of_nonneg (by omega)]; omega
      have q2 : (i : Int) % 4 = (q : Int) := by omega
      have q3 : (4 : Int) * (t : Int) = (f4 : Int) := by omega
      have q4 : (f4 : Int) * (q : Int) = (g : Int) := by rw [hg]; simp
      have q5 : Int.tmod ((i : Int) + (g : Int)) 16 = (r : Int) := by rw [Int.tmod_eq_emod_of_nonneg (by omega)]; omega
      have q6 : ((i : Int) + (g : Int)) % 16 = (r : Int) := by omega
      have cb := (HR.out.1.cell r).trans (u8s_at (by rw [BL.out]; omega))
      rw [← HN.out] at cb
      have cw := (HR.out.2.2.1.cell i).trans (u8s_at (by rw [part_length _ _ _ TL.out (by omega)]; omega))
      have fw := HR.out.2.2.1.frozen i
      have hr16 : (r : Int) < 16 := by omega
      have hf12 : f4 ≤ 12 := by omega
      have hq3 : q ≤ 3 := by omega
      clear hq hf4 hg hr
      generalize (part T 16 i).getD i 0 = old at *
      generalize hz : T.getD i 0 = z at *
      have HZ := hide hz
      clear hz
      go_wp2
      go_roundg (16 - i)
      case measure => omega
      case rel =>
        refine ⟨i + 1, by go_num, by omega, by omega, ?_⟩
        have := (HR.out.set i z)
        rw [← HZ.out, part_set _ _ _ TL.out hlt, HZ.out] at this
        exact this
    · have e : i = 16 := by omega
      subst e
      rw [part_full _ _ TL.out] at HR
      have K0 := hide HR.out.2.2.1
      have K2 := hide HR.out.2.1
      have KB := hide HR.out.2.2.2
      have T1 := hide (sz16 TL.out)
      have T2 := hide (old16 TL.out)
      have O2 := hide (one_u8s T)
      clear HR
      go_wp2_with (first
        | (refine wpList_load_row rfl 22 _ rfl (w.heap.size + 1 + 1) rfl 22 _ (0, 0) _ K0.out Try.underlying22 rfl T1.out ?_)
        | (refine wpList_store_row rfl 22 _ _ rfl (w.heap.size + 1) _ rfl rfl 22 _ K2.out T1.out T2.out O2.out ?_))
      exact bodyPost_ret (v := .agg (u8s T).toArray) (results_cell_row Try.results37 _ _ (w.heap.size + 1) 22 _ (0, 0) _ rfl (K2.out.row _) Try.underlying22 rfl T1.out) rfl ⟨rfl, below_setRow KB.out (by omega) K2.out.lt _⟩

end Go.Proofs.Ytflakgigekfgcaa
