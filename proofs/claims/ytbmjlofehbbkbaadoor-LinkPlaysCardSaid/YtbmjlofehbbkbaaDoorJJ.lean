/-
  Several texts, joined: EE, EF, EG, EH, EI, EJ, EO.
-/
import Derived.Test.YtbmjlofehbbkbaaDoorJI
import Derived.Laws.CopyRow
import Derived.Test.YtbmjlofehbbkbaaDoorJA
import Derived.Test.YtbmjlofehbbkbaaDoorRows
import Derived.ProofKit
import Derived.OpenShut
import Derived.ShutString
import Derived.ChangeOld
import Derived.Below

/- Walks: blocks added, each byte of a block by a table, rows moved. -/
namespace Go.Proofs.YtbmjlofehbbkbaaDoor
open Go.RowKit

def z16 : List Nat := List.replicate 16 0
theorem z16_length : z16.length = 16 := rfl

/-- what lies in memory: a block that is written, something beside it, room for what is told -/
def St3 (w wr : World) (t : TypeId) (a c : List Nat) : Prop :=
  Arr wr w.heap.size 22 (u8s a) ∧ Arr wr (w.heap.size + 1) t (u8s c) ∧ Arr wr (w.heap.size + 1 + 1) 22 (u8s z16) ∧ Below w.heap.size w wr

theorem St3.set {w wr : World} {t : TypeId} {a c : List Nat} (r : St3 w wr t a c) (i x : Nat) : St3 w (wr.setCell ⟨w.heap.size, i, none⟩ (.int .u8 ((x : Nat) : Int))) t (a.set i x) c := by
  obtain ⟨h0, h1, h2, h3⟩ := r
  refine ⟨?_, h1.other _ _ (show w.heap.size + 1 ≠ w.heap.size by omega), h2.other _ _ (show w.heap.size + 1 + 1 ≠ w.heap.size by omega), h3.setCell (show w.heap.size ≤ w.heap.size by omega) _⟩
  have := h0.set i (.int .u8 ((x : Nat) : Int))
  rw [u8s_set] at this
  exact this
theorem St3.drew {w wr : World} {t : TypeId} {a c : List Nat} (r : St3 w wr t a c) : St3 w wr.drew t a c := ⟨r.1, r.2.1, r.2.2.1, r.2.2.2.drew⟩

theorem St3.start (w : World) (t : TypeId) (a c : List Nat) : St3 w (((w.alloc (Obj.cells (u8s a).toArray 22)).alloc (Obj.cells (u8s c).toArray t)).alloc (Obj.cells (u8s z16).toArray 22)) t a c := by
  refine ⟨((Arr.new w _ (u8s a)).alloc _).alloc _, (Arr.newAt (w.alloc _) t (u8s c) _ (by simp)).alloc _, Arr.newAt ((w.alloc _).alloc _) _ (u8s z16) _ (by simp), ?_⟩
  exact (((((Below.refl _ _).alloc (Nat.le_refl _) _).alloc (by simp) _).alloc (by simp; omega) _))

theorem sz16 {T : List Nat} (h : T.length = 16) : (Tryd.prog.info? 22).map (·.size) = some (u8s T).toArray.size := by rw [info16]; simp [u8s, h]
theorem old16 {T : List Nat} (h : T.length = 16) : (u8s z16).toArray.size = (u8s T).toArray.size := by simp [u8s, h, z16]

set_option maxHeartbeats 8000000 in
set_option maxRecDepth 100000 in
theorem sum_of (a b T : List Nat) (w : World) (al : a.length = 16) (bl : b.length = 16) (ha : ∀ x ∈ a, x < 256) (hb : ∀ x ∈ b, x < 256) (hTL : T.length = 16) (hT : ∀ i, i < 16 → T.getD i 0 = a.getD i 0 ^^^ b.getD i 0) :
    Calls Tryd.prog 72 #[.agg (u8s a).toArray, .agg (u8s b).toArray] w fun e w' => e = .returned (.agg (u8s T).toArray) ∧ Below w.heap.size w w' := by
  have AL := hide al
  have BL := hide bl
  have HA := hide (fun i => getD_lt ha (by omega) i)
  have HB := hide (fun i => getD_lt hb (by omega) i)
  have TL := hide hTL
  have HT := hide hT
  clear al bl ha hb hTL hT
  go_enter Tryd.func72, Tryd.ntmps72
  go_wp2
  go_loopg [6] 17 (fun f s6 wr => ∃ (i : Nat), s6 = .int .i64 i ∧ i ≤ 16 ∧ 16 - i < f ∧ Hid (St3 w wr 22 (over T a i) b))
  case atStart =>
    refine ⟨0, rfl, by omega, by omega, ?_⟩
    rw [over_zero]
    exact St3.start w _ a b
  case round =>
    obtain ⟨i, rfl, hi, hf, HR⟩ := hrel
    by_cases hlt : i < 16
    · have e1 := over_at T a 16 i i TL.out AL.out hlt
      rw [if_neg (by omega)] at e1
      have ca := (HR.out.1.cell i).trans (u8s_at (by rw [over_length _ _ _ _ TL.out AL.out (by omega)]; omega))
      rw [e1] at ca
      have fa := HR.out.1.frozen i
      have HC : Hid (∀ v : World, Hid (Arr v (w.heap.size + 1) 22 (u8s b)) → v.cell? ⟨w.heap.size + 1, i, none⟩ = some (.int .u8 ((b.getD i 0 : Nat) : Int))) := fun v hv => (hv.out.cell i).trans (u8s_at (by rw [BL.out]; omega))
      have HX := hide (u8_xor_nat (a.getD i 0) (b.getD i 0) (HA.out i) (HB.out i))
      have HN := hide (HT.out i hlt)
      clear e1
      generalize a.getD i 0 = x at *
      generalize b.getD i 0 = y at *
      have hi16 : (i : Int) < 16 := by omega
      go_wp2_with fail
      refine wp_region_held_drew (S := fun w' => Hid (Arr w' (w.heap.size + 1) 22 (u8s b))) (by kernel_rfl) (hide HR.out.2.1) (fun hHeld => ?_)
      refine take_dstH (i := 0) (d := 9) (v := ?_) rfl rfl (by kernel_rfl) (by kernel_rfl) (by kernel_rfl) (fun _ _ _ h => h) (by rfl) hHeld ?_ ?_
      rotate_left
      · intro wZ hSw; clear hSw; go_simp; first | (with_reducible rfl) | (rw [if_pos (by omega)]; with_reducible rfl) | skip
      try simp only [Act.put, List.setIfInBounds_toArray, List.set_cons_zero, List.set_cons_succ]
      refine take_dstH (i := 1) (d := 10) (v := ?_) rfl rfl (by kernel_rfl) (by kernel_rfl) (by kernel_rfl) (fun _ _ _ h => h) (by rfl) hHeld ?_ ?_
      rotate_left
      · intro wZ hSw; clear hSw; go_simp; first | (with_reducible rfl) | (rw [if_pos (by omega)]; with_reducible rfl) | skip
      try simp only [Act.put, List.setIfInBounds_toArray, List.set_cons_zero, List.set_cons_succ]
      refine take_dstH (i := 3) (d := 12) (v := ?_) rfl rfl (by kernel_rfl) (by kernel_rfl) (by kernel_rfl) (fun _ _ _ h => h) (by rfl) hHeld ?_ ?_
      rotate_left
      · intro wZ hSw; clear hSw; go_simp; first | (with_reducible rfl) | (rw [if_pos (by omega)]; with_reducible rfl) | skip
      try simp only [Act.put, List.setIfInBounds_toArray, List.set_cons_zero, List.set_cons_succ]
      refine take_dstH (i := 4) (d := 13) (v := ?_) rfl rfl (by kernel_rfl) (by kernel_rfl) (by kernel_rfl) (fun _ _ _ h => h) (by rfl) hHeld ?_ ?_
      rotate_left
      · intro wZ hSw; clear hSw; go_simp; first | (with_reducible rfl) | (rw [if_pos (by omega)]; with_reducible rfl) | skip
      try simp only [Act.put, List.setIfInBounds_toArray, List.set_cons_zero, List.set_cons_succ]
      refine take_dstH (i := 5) (d := 14) (v := ?_) rfl rfl (by kernel_rfl) (by kernel_rfl) (by kernel_rfl) (fun _ _ _ h => h) (by rfl) hHeld ?_ ?_
      rotate_left
      · intro wZ hSw; have hfS := HC.out wZ hSw; clear hSw; go_simp; first | (with_reducible rfl) | (rw [if_pos (by omega)]; with_reducible rfl) | skip
      try simp only [Act.put, List.setIfInBounds_toArray, List.set_cons_zero, List.set_cons_succ]
      refine wpAnyH_ready (rs := [2]) (by kernel_rfl) (by simp) ?_
      refine (AllReadyH.cons rfl (fun K hK => ?_) AllReadyH.nil)
      go_simp
      refine hK.out _ _ ?_ (fun hHeld => ?_)
      · exact hHeld
      clear hK K
      try simp only [Act.put, List.setIfInBounds_toArray, List.set_cons_zero, List.set_cons_succ]
      refine take_dstH (i := 6) (d := 15) (v := ?_) rfl rfl (by kernel_rfl) (by kernel_rfl) (by kernel_rfl) (fun _ _ _ h => h) (by rfl) hHeld ?_ ?_
      rotate_left
      · intro wZ hSw; clear hSw; go_simp; first | (with_reducible rfl) | (rw [if_pos (by omega)]; with_reducible rfl) | skip
      try simp only [Act.put, List.setIfInBounds_toArray, List.set_cons_zero, List.set_cons_succ]
      refine take_dstH (i := 7) (d := 16) (v := ?_) rfl rfl (by kernel_rfl) (by kernel_rfl) (by kernel_rfl) (fun _ _ _ h => h) (by rfl) hHeld ?_ ?_
      rotate_left
      · intro wZ hSw; clear hSw; go_simp; first | (with_reducible rfl) | (rw [if_pos (by omega)]; with_reducible rfl) | skip
      try simp only [Act.put, List.setIfInBounds_toArray, List.set_cons_zero, List.set_cons_succ]
      refine wpAnyH_ready (rs := [8]) (by kernel_rfl) (by simp) ?_
      refine (AllReadyH.cons rfl (fun K hK => ?_) AllReadyH.nil)
      go_simp
      refine hK.out _ _ ?_ (fun hHeld => ?_)
      · exact hide (HR.out.drew.set i _).2.1
      clear hK K
      try simp only [Act.put, List.setIfInBounds_toArray, List.set_cons_zero, List.set_cons_succ]
      refine wpAnyH_done (by kernel_rfl) ?_ _
      rw [HX.out, ← HN.out]
      clear hHeld
      go_wp2
      go_roundg (16 - i)
      case measure => omega
      case rel =>
        refine ⟨i + 1, by go_num, by omega, by omega, ?_⟩
        have := (HR.out.set i (T.getD i 0)).drew
        rw [over_set _ _ _ _ TL.out AL.out hlt] at this
        exact this
    · have e : i = 16 := by omega
      subst e
      rw [over_full _ _ _ TL.out AL.out] at HR
      have K0 := hide HR.out.1
      have K2 := hide HR.out.2.2.1
      have KB := hide HR.out.2.2.2
      have T1 := hide (sz16 TL.out)
      have T2 := hide (old16 TL.out)
      have O2 := hide (one_u8s T)
      clear HR
      go_wp2_with (first
        | (refine wpList_load_row rfl 22 _ rfl w.heap.size rfl 22 _ (0, 0) _ K0.out Tryd.underlying22 rfl T1.out ?_)
        | (refine wpList_store_row rfl 22 _ _ rfl (w.heap.size + 1 + 1) _ rfl rfl 22 _ K2.out T1.out T2.out O2.out ?_))
      exact bodyPost_ret (v := .agg (u8s T).toArray) (results_cell_row Tryd.results72 _ _ (w.heap.size + 1 + 1) 22 _ (0, 0) _ rfl (K2.out.row _) Tryd.underlying22 rfl T1.out) rfl ⟨rfl, below_setRow KB.out (by omega) K2.out.lt _⟩

set_option maxHeartbeats 8000000 in
set_option maxRecDepth 100000 in
theorem each_of (a b T : List Nat) (w : World) (al : a.length = 16) (bl : b.length = 256) (ha : ∀ x ∈ a, x < 256) (hTL : T.length = 16) (hT : ∀ i, i < 16 → T.getD i 0 = b.getD (a.getD i 0) 0) :
    Calls Tryd.prog 74 #[.agg (u8s a).toArray, .agg (u8s b).toArray] w fun e w' => e = .returned (.agg (u8s T).toArray) ∧ Below w.heap.size w w' := by
  have AL := hide al
  have BL := hide bl
  have HA := hide (fun i => getD_lt ha (by omega) i)
  have TL := hide hTL
  have HT := hide hT
  clear al bl ha hTL hT
  go_enter Tryd.func74, Tryd.ntmps74
  go_wp2
  go_loopg [6] 17 (fun f s6 wr => ∃ (i : Nat), s6 = .int .i64 i ∧ i ≤ 16 ∧ 16 - i < f ∧ Hid (St3 w wr 128 (over T a i) b))
  case atStart =>
    refine ⟨0, rfl, by omega, by omega, ?_⟩
    rw [over_zero]
    exact St3.start w _ a b
  case round =>
    obtain ⟨i, rfl, hi, hf, HR⟩ := hrel
    by_cases hlt : i < 16
    · have e1 := over_at T a 16 i i TL.out AL.out hlt
      rw [if_neg (by omega)] at e1
      have ca := (HR.out.1.cell i).trans (u8s_at (by rw [over_length _ _ _ _ TL.out AL.out (by omega)]; omega))
      rw [e1] at ca
      have fa := HR.out.1.frozen i
      have hx := HA.out i
      have HN := hide (HT.out i hlt)
      clear e1
      generalize a.getD i 0 = x at *
      have cb := (HR.out.2.1.cell x).trans (u8s_at (by rw [BL.out]; omega))
      rw [← HN.out] at cb
      have hi16 : (i : Int) < 16 := by omega
      generalize hz : T.getD i 0 = z at *
      have HZ := hide hz
      clear hz
      go_wp2
      go_roundg (16 - i)
      case measure => omega
      case rel =>
        refine ⟨i + 1, by go_num, by omega, by omega, ?_⟩
        have := (HR.out.set i z)
        rw [← HZ.out, over_set _ _ _ _ TL.out AL.out hlt, HZ.out] at this
        exact this
    · have e : i = 16 := by omega
      subst e
      rw [over_full _ _ _ TL.out AL.out] at HR
      have K0 := hide HR.out.1
      have K2 := hide HR.out.2.2.1
      have KB := hide HR.out.2.2.2
      have T1 := hide (sz16 TL.out)
      have T2 := hide (old16 TL.out)
      have O2 := hide (one_u8s T)
      clear HR
      go_wp2_with (first
        | (refine wpList_load_row rfl 22 _ rfl w.heap.size rfl 22 _ (0, 0) _ K0.out Tryd.underlying22 rfl T1.out ?_)
        | (refine wpList_store_row rfl 22 _ _ rfl (w.heap.size + 1 + 1) _ rfl rfl 22 _ K2.out T1.out T2.out O2.out ?_))
      exact bodyPost_ret (v := .agg (u8s T).toArray) (results_cell_row Tryd.results74 _ _ (w.heap.size + 1 + 1) 22 _ (0, 0) _ rfl (K2.out.row _) Tryd.underlying22 rfl T1.out) rfl ⟨rfl, below_setRow KB.out (by omega) K2.out.lt _⟩

/-- what lies in memory while rows are moved -/
def StM (w wr : World) (b m : List Nat) : Prop :=
  Arr wr w.heap.size 22 (u8s b) ∧ Arr wr (w.heap.size + 1) 22 (u8s z16) ∧ Arr wr (w.heap.size + 1 + 1) 22 (u8s m) ∧ Below w.heap.size w wr

theorem StM.set {w wr : World} {b m : List Nat} (r : StM w wr b m) (i x : Nat) : StM w (wr.setCell ⟨w.heap.size + 1 + 1, i, none⟩ (.int .u8 ((x : Nat) : Int))) b (m.set i x) := by
  obtain ⟨h0, h1, h2, h3⟩ := r
  refine ⟨h0.other _ _ (show w.heap.size ≠ w.heap.size + 1 + 1 by omega), h1.other _ _ (show w.heap.size + 1 ≠ w.heap.size + 1 + 1 by omega), ?_, h3.setCell (show w.heap.size ≤ w.heap.size + 1 + 1 by omega) _⟩
  have := h2.set i (.int .u8 ((x : Nat) : Int))
  rw [u8s_set] at this
  exact this

theorem part_zero16 (T : List Nat) : part T 16 0 = z16 := by simp [part, z16]

set_option maxHeartbeats 8000000 in
set_option maxRecDepth 100000 in
theorem moved_of (b T : List Nat) (t : Nat) (w : World) (ht : t ≤ 3) (bl : b.length = 16) (hTL : T.length = 16) (hT : ∀ i, i < 16 → T.getD i 0 = b.getD ((i + 4 * t * (i % 4)) % 16) 0) :
    Calls Tryd.prog 73 #[.agg (u8s b).toArray, .int .i64 (t : Int)] w fun e w' => e = .returned (.agg (u8s T).toArray) ∧ Below w.heap.size w w' := by
  have BL := hide bl
  have TL := hide hTL
  have HT := hide hT
  clear bl hTL hT
  go_enter Tryd.func73, Tryd.ntmps73
  go_wp2
  go_loopg [7] 17 (fun f s7 wr => ∃ (i : Nat), s7 = .int .i64 i ∧ i ≤ 16 ∧ 16 - i < f ∧ Hid (StM w wr b (part T 16 i)))
  case atStart =>
    refine ⟨0, rfl, by omega, by omega, ?_⟩
    rw [part_zero16]
    refine ⟨((Arr.new w _ (u8s b)).alloc _).alloc _, (Arr.newAt (w.alloc _) _ (u8s z16) _ (by simp)).alloc _, Arr.newAt ((w.alloc _).alloc _) _ (u8s z16) _ (by simp), ?_⟩
    exact (((((Below.refl _ _).alloc (Nat.le_refl _) _).alloc (by simp) _).alloc (by simp; omega) _))
  case round =>
    obtain ⟨i, rfl, hi, hf, HR⟩ := hrel
    by_cases hlt : i < 16
    · obtain ⟨q, hq⟩ : ∃ q, q = i % 4 := ⟨_, rfl⟩
      obtain ⟨f4, hf4⟩ : ∃ f, f = 4 * t := ⟨_, rfl⟩
      obtain ⟨g, hg⟩ : ∃ g, g = f4 * q := ⟨_, rfl⟩
      obtain ⟨r, hr⟩ : ∃ r, r = (i + g) % 16 := ⟨_, rfl⟩
      have hg36 : g ≤ 36 := by
        rw [hg]
        exact Nat.mul_le_mul (show f4 ≤ 12 by omega) (show q ≤ 3 by omega)
      have HN : Hid (T.getD i 0 = b.getD r 0) := by show _ = _; rw [HT.out i hlt, hr, hg, hf4, hq]
      have q1 : Int.tmod (i : Int) 4 = (q : Int) := by rw [Int.tmod_eq_emod_of_nonneg (by omega)]; omega
      have q2 : (i : Int) % 4 = (q : Int) := by omega
      have q3 : (4 : Int) * (t : Int) = (f4 : Int) := by omega
      have q4 : (f4 : Int) * (q : Int) = (g : Int) := by rw [hg]; simp
      have q5 : Int.tmod ((i : Int) + (g : Int)) 16 = (r : Int) := by rw [Int.tmod_eq_emod_of_nonneg (by omega)]; omega
      have q6 : ((i : Int) + (g : Int)) % 16 = (r : Int) := by omega
      have cb := (HR.out.1.cell r).trans (u8s_at (by rw [BL.out]; omega))
      rw [← HN.out] at cb
      have cw := (HR.out.2.2.1.cell i).trans (u8s_at (by rw [part_length _ _ _ TL.out (by omega)]; omega))
      have fw := HR.out.2.2.1.frozen i
      have hr16 : (r : Int) < 16 := by omega
      have hf12 : f4 ≤ 12 := by omega
      have hq3 : q ≤ 3 := by omega
      clear hq hf4 hg hr
      generalize (part T 16 i).getD i 0 = old at *
      generalize hz : T.getD i 0 = z at *
      have HZ := hide hz
      clear hz
      go_wp2
      go_roundg (16 - i)
      case measure => omega
      case rel =>
        refine ⟨i + 1, by go_num, by omega, by omega, ?_⟩
        have := (HR.out.set i z)
        rw [← HZ.out, part_set _ _ _ TL.out hlt, HZ.out] at this
        exact this
    · have e : i = 16 := by omega
      subst e
      rw [part_full _ _ TL.out] at HR
      have K0 := hide HR.out.2.2.1
      have K2 := hide HR.out.2.1
      have KB := hide HR.out.2.2.2
      have T1 := hide (sz16 TL.out)
      have T2 := hide (old16 TL.out)
      have O2 := hide (one_u8s T)
      clear HR
      go_wp2_with (first
        | (refine wpList_load_row rfl 22 _ rfl (w.heap.size + 1 + 1) rfl 22 _ (0, 0) _ K0.out Tryd.underlying22 rfl T1.out ?_)
        | (refine wpList_store_row rfl 22 _ _ rfl (w.heap.size + 1) _ rfl rfl 22 _ K2.out T1.out T2.out O2.out ?_))
      exact bodyPost_ret (v := .agg (u8s T).toArray) (results_cell_row Tryd.results73 _ _ (w.heap.size + 1) 22 _ (0, 0) _ rfl (K2.out.row _) Tryd.underlying22 rfl T1.out) rfl ⟨rfl, below_setRow KB.out (by omega) K2.out.lt _⟩

end Go.Proofs.YtbmjlofehbbkbaaDoor

/- A walk: columns mixed. -/
namespace Go.Proofs.YtbmjlofehbbkbaaDoor
open Go.RowKit

/-- a byte of a mixed block, of so many factors -/
def mxA (b f : List Nat) (i : Nat) : Nat → Nat
  | 0 => 0
  | k + 1 => mxA b f i k ^^^ tmF (b.getD (i - i % 4 + (i % 4 + k) % 4) 0) (f.getD k 0)

theorem mxA_lt {b : List Nat} (f : List Nat) (hb : ∀ i, b.getD i 0 < 256) (i : Nat) : ∀ k, mxA b f i k < 256 := by
  intro k
  induction k with
  | zero => show (0 : Nat) < 256; omega
  | succ k ih => exact xor_lt8 ih (tmF_lt _ (hb _))

theorem run_index4 (T : List Nat) (i x : Nat) (w : World) (hi : i < 4) (hx : (u8s T)[i]? = some (.int .u8 ((x : Nat) : Int))) :
    (Instr.index 135 (Value.agg (u8s T).toArray) (Value.int IntKind.i64 (i : Int))).run Tryd.prog w = .ok (.int .u8 ((x : Nat) : Int)) w := by
  obtain ⟨i0, hi0, hz0, hz1, hz2⟩ := info_parts info8s
  unfold Instr.index
  simp [asIntOf, run_underlying Tryd.underlying135 w, hi, Go.sizeOf, typeInfo, hi0, hz1, Go.part, hx]

/-- what lies in memory while columns are mixed -/
def StX (w wr : World) (b fs m : List Nat) : Prop :=
  Arr wr w.heap.size 22 (u8s b) ∧ Arr wr (w.heap.size + 1) 135 (u8s fs) ∧ Arr wr (w.heap.size + 1 + 1) 22 (u8s z16) ∧ Arr wr (w.heap.size + 1 + 1 + 1) 22 (u8s m) ∧ Below w.heap.size w wr

theorem StX.set {w wr : World} {b fs m : List Nat} (r : StX w wr b fs m) (i x : Nat) : StX w (wr.setCell ⟨w.heap.size + 1 + 1 + 1, i, none⟩ (.int .u8 ((x : Nat) : Int))) b fs (m.set i x) := by
  obtain ⟨h0, h1, h2, h3, h4⟩ := r
  refine ⟨h0.other _ _ (show w.heap.size ≠ w.heap.size + 1 + 1 + 1 by omega), h1.other _ _ (show w.heap.size + 1 ≠ w.heap.size + 1 + 1 + 1 by omega), h2.other _ _ (show w.heap.size + 1 + 1 ≠ w.heap.size + 1 + 1 + 1 by omega), ?_, h4.setCell (show w.heap.size ≤ w.heap.size + 1 + 1 + 1 by omega) _⟩
  have := h3.set i (.int .u8 ((x : Nat) : Int))
  rw [u8s_set] at this
  exact this
theorem StX.drew {w wr : World} {b fs m : List Nat} (r : StX w wr b fs m) : StX w wr.drew b fs m := ⟨r.1, r.2.1, r.2.2.1, r.2.2.2.1, r.2.2.2.2.drew⟩

theorem set_set (l : List Nat) (i x y : Nat) : (l.set i x).set i y = l.set i y := by simp
theorem set_at (l : List Nat) (i x : Nat) (h : i < l.length) : (l.set i x).getD i 0 = x := by simp [List.getD, h]
theorem part_next (T : List Nat) (n i : Nat) (h : T.length = n) (hi : i < n) : (part T n i).getD i 0 = 0 := by
  simp [part, List.getD, h, show min i n = i by omega, show 0 < n - i by omega]
theorem set_self (l : List Nat) (i : Nat) (h : i < l.length) : l.set i (l.getD i 0) = l := by
  simp [List.getD, h]

set_option maxHeartbeats 8000000 in
set_option maxRecDepth 100000 in
theorem mixed_of (b fs T : List Nat) (X : Nat → Nat → Nat) (w : World) (bl : b.length = 16) (fl : fs.length = 4) (hb : ∀ i, b.getD i 0 < 256) (hfs : ∀ i, fs.getD i 0 < 256) (hTL : T.length = 16) (hT : ∀ i, i < 16 → T.getD i 0 = X i 4)
    (hX0 : ∀ i, X i 0 = 0) (hXN : ∀ i k, X i (k + 1) = X i k ^^^ tmF (b.getD (i - i % 4 + (i % 4 + k) % 4) 0) (fs.getD k 0)) (hXB : ∀ i k, X i k < 256) :
    Calls Tryd.prog 75 #[.agg (u8s b).toArray, .agg (u8s fs).toArray] w fun e w' => e = .returned (.agg (u8s T).toArray) ∧ Below w.heap.size w w' := by
  have BL := hide bl
  have FL := hide fl
  have HB := hide hb
  have HF := hide hfs
  have TL := hide hTL
  have HT := hide hT
  have X0 := hide hX0
  have XN := hide hXN
  have XB := hide hXB
  clear bl fl hb hfs hTL hT hX0 hXN hXB
  have I4 : Hid ((Tryd.prog.info? 135).map (·.size) = some (u8s fs).toArray.size) := by show _ = _; rw [info4]; simp [u8s, FL.out]
  go_enter Tryd.func75, Tryd.ntmps75
  go_wp2
  go_loopg [10] 17 (fun f s10 wr => ∃ (i : Nat), s10 = .int .i64 i ∧ i ≤ 16 ∧ 16 - i < f ∧ Hid (StX w wr b fs (part T 16 i)))
  case atStart =>
    refine ⟨0, rfl, by omega, by omega, ?_⟩
    rw [part_zero16]
    refine ⟨(((Arr.new w _ (u8s b)).alloc _).alloc _).alloc _, ((Arr.newAt (w.alloc _) _ (u8s fs) _ (by simp)).alloc _).alloc _, (Arr.newAt ((w.alloc _).alloc _) _ (u8s z16) _ (by simp)).alloc _, Arr.newAt (((w.alloc _).alloc _).alloc _) _ (u8s z16) _ (by simp), ?_⟩
    exact ((((((Below.refl _ _).alloc (Nat.le_refl _) _).alloc (by simp) _).alloc (by simp; omega) _).alloc (by simp; omega) _))
  case round =>
    obtain ⟨i, rfl, hi, hf, HR⟩ := hrel
    by_cases hlt : i < 16
    · obtain ⟨q, hq⟩ : ∃ q, q = i % 4 := ⟨_, rfl⟩
      have HQ := hide hq
      have q1 : Int.tmod (i : Int) 4 = (q : Int) := by rw [Int.tmod_eq_emod_of_nonneg (by omega)]; omega
      have q2 : (i : Int) % 4 = (q : Int) := by omega
      have hq3 : q ≤ 3 := by omega
      have hqi : q ≤ i := by omega
      clear hq
      go_wp2_with (refine wpList_load_row rfl 135 _ rfl (w.heap.size + 1) rfl 135 _ (0, 0) _ HR.out.2.1 Tryd.underlying135 rfl I4.out ?_)
      go_loopg [16] 5 (fun f s16 wr => ∃ (k : Nat), s16 = .int .i64 k ∧ k ≤ 4 ∧ 4 - k < f ∧ Hid (StX w wr b fs ((part T 16 i).set i (X i k))))
      case atStart =>
        refine ⟨0, rfl, by omega, by omega, ?_⟩
        rw [X0.out, ← part_next T 16 i TL.out hlt, set_self _ _ (by rw [part_length _ _ _ TL.out (by omega)]; exact hlt)]
        exact HR
      case round =>
        clear HR
        rename_i wq gq
        obtain ⟨k, rfl, hk, hfk, HR⟩ := hrel
        by_cases hk4 : k < 4
        · obtain ⟨m, hm⟩ : ∃ m, m = (q + k) % 4 := ⟨_, rfl⟩
          obtain ⟨d, hd⟩ : ∃ d, d = i - q := ⟨_, rfl⟩
          obtain ⟨r, hr⟩ : ∃ r, r = d + m := ⟨_, rfl⟩
          have hlen : ((part T 16 i).set i (X i k)).length = 16 := by rw [List.length_set, part_length _ _ _ TL.out (by omega)]
          have HN : Hid (X i (k + 1) = X i k ^^^ tmF (b.getD r 0) (fs.getD k 0)) := by show _ = _; rw [XN.out, hr, hd, hm, HQ.out]
          have m1 : Int.tmod ((q : Int) + (k : Int)) 4 = (m : Int) := by rw [Int.tmod_eq_emod_of_nonneg (by omega)]; omega
          have m2 : ((q : Int) + (k : Int)) % 4 = (m : Int) := by omega
          have m3 : (i : Int) - (q : Int) = (d : Int) := by omega
          have m3w : IntKind.i64.wrap (d : Int) = (d : Int) := by simp [IntKind.wrap, IntKind.bits, IntKind.signed]; omega
          have m4 : (d : Int) + (m : Int) = (r : Int) := by omega
          have m4w : IntKind.i64.wrap (r : Int) = (r : Int) := by simp [IntKind.wrap, IntKind.bits, IntKind.signed]; omega
          have m5w : IntKind.i64.wrap ((q : Int) + (k : Int)) = (q : Int) + (k : Int) := by simp [IntKind.wrap, IntKind.bits, IntKind.signed]; omega
          have hr16 : (r : Int) < 16 := by have : i = 4 * (i / 4) + i % 4 := by omega
                                           have := HQ.out
                                           omega
          have hi16 : (i : Int) < 16 := by omega
          have HC : Hid (∀ v : World, Hid (Arr v w.heap.size 22 (u8s b)) → v.cell? ⟨w.heap.size, r, none⟩ = some (.int .u8 ((b.getD r 0 : Nat) : Int))) := fun v hv => (hv.out.cell r).trans (u8s_at (by rw [BL.out]; omega))
          have hidx := run_index4 fs k (fs.getD k 0) wr hk4 (u8s_at (by rw [FL.out]; exact hk4))
          have hk44 : (k : Int) < 4 := by omega
          have HTM := hide (fun v => times_any (b.getD r 0) (fs.getD k 0) (HB.out r) (HF.out k) v)
          have HX := hide (u8_xor_nat (X i k) (tmF (b.getD r 0) (fs.getD k 0)) (XB.out i k) (tmF_lt _ (HB.out r)))
          have cm := (HR.out.2.2.2.1.cell i).trans (u8s_at (by rw [hlen]; exact hlt))
          rw [set_at _ _ _ (by rw [part_length _ _ _ TL.out (by omega)]; exact hlt)] at cm
          have fm := HR.out.2.2.2.1.frozen i
          clear hm hd hr hlen
          generalize hXk : X i k = xk at *
          have HXK := hide hXk
          clear hXk
          generalize tmF (b.getD r 0) (fs.getD k 0) = tk at *
          generalize b.getD r 0 = y at *
          generalize fs.getD k 0 = fk at *
          go_wp2_with fail
          refine wp_region_held_drew (S := fun w' => Hid (Arr w' w.heap.size 22 (u8s b))) (by kernel_rfl) (hide HR.out.1) (fun hHeld => ?_)
          refine take_dstH (i := 0) (d := 20) (v := ?_) rfl rfl (by kernel_rfl) (by kernel_rfl) (by kernel_rfl) (fun _ _ _ h => h) (by rfl) hHeld ?_ ?_
          rotate_left
          · intro wZ hSw; clear hSw; go_simp; first | (with_reducible rfl) | (rw [if_pos (by omega)]; with_reducible rfl) | skip
          try simp only [Act.put, List.setIfInBounds_toArray, List.set_cons_zero, List.set_cons_succ]
          refine take_dstH (i := 1) (d := 21) (v := ?_) rfl rfl (by kernel_rfl) (by kernel_rfl) (by kernel_rfl) (fun _ _ _ h => h) (by rfl) hHeld ?_ ?_
          rotate_left
          · intro wZ hSw; clear hSw; go_simp; first | (with_reducible rfl) | (rw [if_pos (by omega)]; with_reducible rfl) | skip
          try simp only [Act.put, List.setIfInBounds_toArray, List.set_cons_zero, List.set_cons_succ]
          refine take_dstH (i := 3) (d := 23) (v := ?_) rfl rfl (by kernel_rfl) (by kernel_rfl) (by kernel_rfl) (fun _ _ _ h => h) (by rfl) hHeld ?_ ?_
          rotate_left
          · intro wZ hSw; clear hSw; go_simp; first | (with_reducible rfl) | (rw [if_pos (by omega)]; with_reducible rfl) | skip
          try simp only [Act.put, List.setIfInBounds_toArray, List.set_cons_zero, List.set_cons_succ]
          refine take_dstH (i := 4) (d := 24) (v := ?_) rfl rfl (by kernel_rfl) (by kernel_rfl) (by kernel_rfl) (fun _ _ _ h => h) (by rfl) hHeld ?_ ?_
          rotate_left
          · intro wZ hSw; clear hSw; go_simp; first | (with_reducible rfl) | (rw [if_pos (by omega)]; with_reducible rfl) | skip
          try simp only [Act.put, List.setIfInBounds_toArray, List.set_cons_zero, List.set_cons_succ]
          refine take_dstH (i := 5) (d := 25) (v := ?_) rfl rfl (by kernel_rfl) (by kernel_rfl) (by kernel_rfl) (fun _ _ _ h => h) (by rfl) hHeld ?_ ?_
          rotate_left
          · intro wZ hSw; clear hSw; go_simp; first | (with_reducible rfl) | (rw [if_pos (by omega)]; with_reducible rfl) | skip
          try simp only [Act.put, List.setIfInBounds_toArray, List.set_cons_zero, List.set_cons_succ]
          refine take_dstH (i := 6) (d := 26) (v := ?_) rfl rfl (by kernel_rfl) (by kernel_rfl) (by kernel_rfl) (fun _ _ _ h => h) (by rfl) hHeld ?_ ?_
          rotate_left
          · intro wZ hSw; clear hSw; go_simp; first | (with_reducible rfl) | (rw [if_pos (by omega)]; with_reducible rfl) | skip
          try simp only [Act.put, List.setIfInBounds_toArray, List.set_cons_zero, List.set_cons_succ]
          refine take_dstH (i := 7) (d := 27) (v := ?_) rfl rfl (by kernel_rfl) (by kernel_rfl) (by kernel_rfl) (fun _ _ _ h => h) (by rfl) hHeld ?_ ?_
          rotate_left
          · intro wZ hSw; clear hSw; go_simp; first | (with_reducible rfl) | (rw [if_pos (by omega)]; with_reducible rfl) | skip
          try simp only [Act.put, List.setIfInBounds_toArray, List.set_cons_zero, List.set_cons_succ]
          refine take_dstH (i := 8) (d := 28) (v := ?_) rfl rfl (by kernel_rfl) (by kernel_rfl) (by kernel_rfl) (fun _ _ _ h => h) (by rfl) hHeld ?_ ?_
          rotate_left
          · intro wZ hSw; clear hSw; go_simp; first | (with_reducible rfl) | (rw [if_pos (by omega)]; with_reducible rfl) | skip
          try simp only [Act.put, List.setIfInBounds_toArray, List.set_cons_zero, List.set_cons_succ]
          refine take_dstH (i := 9) (d := 29) (v := ?_) rfl rfl (by kernel_rfl) (by kernel_rfl) (by kernel_rfl) (fun _ _ _ h => h) (by rfl) hHeld ?_ ?_
          rotate_left
          · intro wZ hSw; clear hSw; go_simp; first | (with_reducible rfl) | (rw [if_pos (by omega)]; with_reducible rfl) | skip
          try simp only [Act.put, List.setIfInBounds_toArray, List.set_cons_zero, List.set_cons_succ]
          refine take_dstH (i := 10) (d := 30) (v := ?_) rfl rfl (by kernel_rfl) (by kernel_rfl) (by kernel_rfl) (fun _ _ _ h => h) (by rfl) hHeld ?_ ?_
          rotate_left
          · intro wZ hSw; clear hSw; go_simp; first | (with_reducible rfl) | (rw [if_pos (by omega)]; with_reducible rfl) | skip
          try simp only [Act.put, List.setIfInBounds_toArray, List.set_cons_zero, List.set_cons_succ]
          refine take_dstH (i := 11) (d := 31) (v := ?_) rfl rfl (by kernel_rfl) (by kernel_rfl) (by kernel_rfl) (fun _ _ _ h => h) (by rfl) hHeld ?_ ?_
          rotate_left
          · intro wZ hSw; clear hSw; go_simp; first | (with_reducible rfl) | (rw [if_pos (by omega)]; with_reducible rfl) | skip
          try simp only [Act.put, List.setIfInBounds_toArray, List.set_cons_zero, List.set_cons_succ]
          refine take_dstH (i := 12) (d := 32) (v := ?_) rfl rfl (by kernel_rfl) (by kernel_rfl) (by kernel_rfl) (fun _ _ _ h => h) (by rfl) hHeld ?_ ?_
          rotate_left
          · intro wZ hSw; have hfS := HC.out wZ hSw; clear hSw; go_simp; first | (with_reducible rfl) | (rw [if_pos (by omega)]; with_reducible rfl) | skip
          try simp only [Act.put, List.setIfInBounds_toArray, List.set_cons_zero, List.set_cons_succ]
          refine take_dstH (i := 13) (d := 33) (v := ?_) rfl rfl (by kernel_rfl) (by kernel_rfl) (by kernel_rfl) (fun _ _ _ h => h) (by rfl) hHeld ?_ ?_
          rotate_left
          · intro wZ hSw; clear hSw; go_simp; first | (with_reducible rfl) | (rw [if_pos (by omega)]; with_reducible rfl) | skip
          try simp only [Act.put, List.setIfInBounds_toArray, List.set_cons_zero, List.set_cons_succ]
          refine wpAnyH_ready (rs := [2, 14]) (by kernel_rfl) (by simp) ?_
          refine (AllReadyH.cons rfl (fun K hK => ?_) (AllReadyH.cons rfl (fun K hK => ?_) AllReadyH.nil))
          focus
            go_simp
            refine hK.out _ _ ?_ (fun hHeld => ?_)
            · exact hHeld
            clear hK K
            try simp only [Act.put, List.setIfInBounds_toArray, List.set_cons_zero, List.set_cons_succ]
            refine wpAnyH_ready (rs := [14]) (by kernel_rfl) (by simp) ?_
            refine (AllReadyH.cons rfl (fun K hK => ?_) AllReadyH.nil)
            go_simp
            refine (HTM.out _).mono ?_; rintro e wa ⟨rfl, hwa⟩; subst hwa
            go_wp2_with fail
            refine hK.out _ _ ?_ (fun hHeld => ?_)
            · exact hHeld
            clear hK K
            try simp only [Act.put, List.setIfInBounds_toArray, List.set_cons_zero, List.set_cons_succ]
            refine take_dstH (i := 15) (d := 35) (v := ?_) rfl rfl (by kernel_rfl) (by kernel_rfl) (by kernel_rfl) (fun _ _ _ h => h) (by rfl) hHeld ?_ ?_
            rotate_left
            · intro wZ hSw; clear hSw; go_simp; first | (with_reducible rfl) | (rw [if_pos (by omega)]; with_reducible rfl) | skip
            try simp only [Act.put, List.setIfInBounds_toArray, List.set_cons_zero, List.set_cons_succ]
            refine take_dstH (i := 16) (d := 36) (v := ?_) rfl rfl (by kernel_rfl) (by kernel_rfl) (by kernel_rfl) (fun _ _ _ h => h) (by rfl) hHeld ?_ ?_
            rotate_left
            · intro wZ hSw; clear hSw; go_simp; first | (with_reducible rfl) | (rw [if_pos (by omega)]; with_reducible rfl) | skip
            try simp only [Act.put, List.setIfInBounds_toArray, List.set_cons_zero, List.set_cons_succ]
            refine wpAnyH_ready (rs := [17]) (by kernel_rfl) (by simp) ?_
            refine (AllReadyH.cons rfl (fun K hK => ?_) AllReadyH.nil)
            go_simp
            refine hK.out _ _ ?_ (fun hHeld => ?_)
            · exact hide (HR.out.drew.set i _).1
            clear hK K
            try simp only [Act.put, List.setIfInBounds_toArray, List.set_cons_zero, List.set_cons_succ]
            refine wpAnyH_done (by kernel_rfl) ?_ _
          rotate_left 1
          focus
            go_simp
            refine (HTM.out _).mono ?_; rintro e wa ⟨rfl, hwa⟩; subst hwa
            go_wp2_with fail
            refine hK.out _ _ ?_ (fun hHeld => ?_)
            · exact hHeld
            clear hK K
            try simp only [Act.put, List.setIfInBounds_toArray, List.set_cons_zero, List.set_cons_succ]
            refine wpAnyH_ready (rs := [2]) (by kernel_rfl) (by simp) ?_
            refine (AllReadyH.cons rfl (fun K hK => ?_) AllReadyH.nil)
            go_simp
            refine hK.out _ _ ?_ (fun hHeld => ?_)
            · exact hHeld
            clear hK K
            try simp only [Act.put, List.setIfInBounds_toArray, List.set_cons_zero, List.set_cons_succ]
            refine take_dstH (i := 15) (d := 35) (v := ?_) rfl rfl (by kernel_rfl) (by kernel_rfl) (by kernel_rfl) (fun _ _ _ h => h) (by rfl) hHeld ?_ ?_
            rotate_left
            · intro wZ hSw; clear hSw; go_simp; first | (with_reducible rfl) | (rw [if_pos (by omega)]; with_reducible rfl) | skip
            try simp only [Act.put, List.setIfInBounds_toArray, List.set_cons_zero, List.set_cons_succ]
            refine take_dstH (i := 16) (d := 36) (v := ?_) rfl rfl (by kernel_rfl) (by kernel_rfl) (by kernel_rfl) (fun _ _ _ h => h) (by rfl) hHeld ?_ ?_
            rotate_left
            · intro wZ hSw; clear hSw; go_simp; first | (with_reducible rfl) | (rw [if_pos (by omega)]; with_reducible rfl) | skip
            try simp only [Act.put, List.setIfInBounds_toArray, List.set_cons_zero, List.set_cons_succ]
            refine wpAnyH_ready (rs := [17]) (by kernel_rfl) (by simp) ?_
            refine (AllReadyH.cons rfl (fun K hK => ?_) AllReadyH.nil)
            go_simp
            refine hK.out _ _ ?_ (fun hHeld => ?_)
            · exact hide (HR.out.drew.set i _).1
            clear hK K
            try simp only [Act.put, List.setIfInBounds_toArray, List.set_cons_zero, List.set_cons_succ]
            refine wpAnyH_done (by kernel_rfl) ?_ _
          all_goals
            rw [HX.out, ← HN.out]
            clear hHeld
            go_wp2
            go_roundg (4 - k)
            case measure => omega
            case rel =>
              refine ⟨k + 1, by go_num, by omega, by omega, ?_⟩
              have := (HR.out.set i (X i (k + 1))).drew
              rw [set_set] at this
              exact this
        · have e : k = 4 := by omega
          subst e
          rw [← HT.out i hlt, part_set _ _ _ TL.out hlt] at HR
          go_wp2
          go_roundg (16 - i)
          case measure => omega
          case rel => exact ⟨i + 1, by go_num, by omega, by omega, HR⟩
    · have e : i = 16 := by omega
      subst e
      rw [part_full _ _ TL.out] at HR
      have K0 := hide HR.out.2.2.2.1
      have K2 := hide HR.out.2.2.1
      have KB := hide HR.out.2.2.2.2
      have T1 := hide (sz16 TL.out)
      have T2 := hide (old16 TL.out)
      have O2 := hide (one_u8s T)
      clear HR
      go_wp2_with (first
        | (refine wpList_load_row rfl 22 _ rfl (w.heap.size + 1 + 1 + 1) rfl 22 _ (0, 0) _ K0.out Tryd.underlying22 rfl T1.out ?_)
        | (refine wpList_store_row rfl 22 _ _ rfl (w.heap.size + 1 + 1) _ rfl rfl 22 _ K2.out T1.out T2.out O2.out ?_))
      exact bodyPost_ret (v := .agg (u8s T).toArray) (results_cell_row Tryd.results75 _ _ (w.heap.size + 1 + 1) 22 _ (0, 0) _ rfl (K2.out.row _) Tryd.underlying22 rfl T1.out) rfl ⟨rfl, below_setRow KB.out (by omega) K2.out.lt _⟩

end Go.Proofs.YtbmjlofehbbkbaaDoor

/- A walk: the round behind a round. -/
namespace Go.Proofs.YtbmjlofehbbkbaaDoor
open Go.RowKit

/-- what the first column has added, of the last one of a round -/
def colF (s b : List Nat) (p : Nat) : List Nat := [s.getD (b.getD 13 0) 0 ^^^ p, s.getD (b.getD 14 0) 0, s.getD (b.getD 15 0) 0, s.getD (b.getD 12 0) 0]
/-- a column's byte behind so many bytes -/
def nC (c b : List Nat) : Nat → Nat → Nat
  | 0, j => c.getD j 0
  | i + 1, j => if i % 4 = j then nC c b i j ^^^ b.getD i 0 else nC c b i j
def nK (c b : List Nat) (i : Nat) : List Nat := [nC c b i 0, nC c b i 1, nC c b i 2, nC c b i 3]
/-- the round behind b -/
def nxL (s b : List Nat) (p : Nat) : List Nat := (List.range 16).map fun i => nC (colF s b p) b (i + 1) (i % 4)

theorem nxL_length (s b : List Nat) (p : Nat) : (nxL s b p).length = 16 := by simp [nxL]
theorem nxL_at (s b : List Nat) (p i : Nat) (hi : i < 16) : (nxL s b p).getD i 0 = nC (colF s b p) b (i + 1) (i % 4) := by simp [nxL, List.getD, hi]
theorem nK_length (c b : List Nat) (i : Nat) : (nK c b i).length = 4 := rfl
theorem nK_at (c b : List Nat) (i j : Nat) (hj : j < 4) : (nK c b i).getD j 0 = nC c b i j := by
  rcases (show j = 0 ∨ j = 1 ∨ j = 2 ∨ j = 3 by omega) with rfl | rfl | rfl | rfl <;> rfl
theorem nK_next (c b : List Nat) (i : Nat) : (nK c b i).set (i % 4) (nC c b (i + 1) (i % 4)) = nK c b (i + 1) := by
  have h : i % 4 < 4 := Nat.mod_lt _ (by omega)
  generalize hq : i % 4 = q at h
  rcases (show q = 0 ∨ q = 1 ∨ q = 2 ∨ q = 3 by omega) with rfl | rfl | rfl | rfl <;> simp [nK, nC, hq]
theorem nC_lt {c b : List Nat} (hc : ∀ i, c.getD i 0 < 256) (hb : ∀ i, b.getD i 0 < 256) : ∀ i j, nC c b i j < 256 := by
  intro i
  induction i with
  | zero => intro j; exact hc j
  | succ i ih =>
    intro j
    unfold nC
    split
    · exact xor_lt8 (ih j) (hb i)
    · exact ih j
theorem colF_lt {s b : List Nat} {p : Nat} (hs : ∀ i, s.getD i 0 < 256) (hp : p < 256) (i : Nat) : (colF s b p).getD i 0 < 256 := by
  have h1 := xor_lt8 (hs (b.getD 13 0)) hp
  unfold colF
  match i with
  | 0 => exact h1
  | 1 => exact hs _
  | 2 => exact hs _
  | 3 => exact hs _
  | i + 4 => simp

/-- what lies in memory while the round behind is made -/
def StN (w wr : World) (b s c : List Nat) : Prop :=
  Arr wr w.heap.size 22 (u8s b) ∧ Arr wr (w.heap.size + 1) 128 (u8s s) ∧ Arr wr (w.heap.size + 1 + 1) 22 (u8s z16) ∧ Arr wr (w.heap.size + 1 + 1 + 1) 135 (u8s c) ∧ Below w.heap.size w wr
theorem StN.setB {w wr : World} {b s c : List Nat} (r : StN w wr b s c) (i x : Nat) : StN w (wr.setCell ⟨w.heap.size, i, none⟩ (.int .u8 ((x : Nat) : Int))) (b.set i x) s c := by
  obtain ⟨h0, h1, h2, h3, h4⟩ := r
  refine ⟨?_, h1.other _ _ (show w.heap.size + 1 ≠ w.heap.size by omega), h2.other _ _ (show w.heap.size + 1 + 1 ≠ w.heap.size by omega), h3.other _ _ (show w.heap.size + 1 + 1 + 1 ≠ w.heap.size by omega), h4.setCell (show w.heap.size ≤ w.heap.size by omega) _⟩
  have := h0.set i (.int .u8 ((x : Nat) : Int))
  rw [u8s_set] at this
  exact this
theorem StN.setC {w wr : World} {b s c : List Nat} (r : StN w wr b s c) (i x : Nat) : StN w (wr.setCell ⟨w.heap.size + 1 + 1 + 1, i, none⟩ (.int .u8 ((x : Nat) : Int))) b s (c.set i x) := by
  obtain ⟨h0, h1, h2, h3, h4⟩ := r
  refine ⟨h0.other _ _ (show w.heap.size ≠ w.heap.size + 1 + 1 + 1 by omega), h1.other _ _ (show w.heap.size + 1 ≠ w.heap.size + 1 + 1 + 1 by omega), h2.other _ _ (show w.heap.size + 1 + 1 ≠ w.heap.size + 1 + 1 + 1 by omega), ?_, h4.setCell (show w.heap.size ≤ w.heap.size + 1 + 1 + 1 by omega) _⟩
  have := h3.set i (.int .u8 ((x : Nat) : Int))
  rw [u8s_set] at this
  exact this
theorem StN.drew {w wr : World} {b s c : List Nat} (r : StN w wr b s c) : StN w wr.drew b s c := ⟨r.1, r.2.1, r.2.2.1, r.2.2.2.1, r.2.2.2.2.drew⟩

set_option maxHeartbeats 8000000 in
set_option maxRecDepth 100000 in
theorem next_of (b s T : List Nat) (p : Nat) (w : World) (bl : b.length = 16) (sl : s.length = 256) (hb : ∀ i, b.getD i 0 < 256) (hs : ∀ i, s.getD i 0 < 256) (hp : p < 256) (hT : T = nxL s b p) :
    Calls Tryd.prog 85 #[.agg (u8s b).toArray, .agg (u8s s).toArray, .int .u8 ((p : Nat) : Int)] w fun e w' => e = .returned (.agg (u8s T).toArray) ∧ Below w.heap.size w w' := by
  have BL := hide bl
  have SL := hide sl
  have HB := hide hb
  have HS := hide hs
  have TL : Hid (T.length = 16) := by show _ = _; rw [hT, nxL_length]
  have HT : Hid (∀ i, i < 16 → T.getD i 0 = nC (colF s b p) b (i + 1) (i % 4)) := fun i hi => by rw [hT, nxL_at _ _ _ _ hi]
  obtain ⟨c, hc⟩ : ∃ c, c = colF s b p := ⟨_, rfl⟩
  have HC := hide hc
  have CB : Hid (∀ i, c.getD i 0 < 256) := fun i => by rw [hc]; exact colF_lt hs hp i
  rw [← hc] at HT
  have L13 : Hid (∀ v : World, Hid (Arr v w.heap.size 22 (u8s b) ∧ Arr v (w.heap.size + 1) 128 (u8s s)) → v.cell? ⟨w.heap.size, 13, none⟩ = some (.int .u8 ((b.getD 13 0 : Nat) : Int))) := fun v hv => (hv.out.1.cell 13).trans (u8s_at (by omega))
  have L14 : Hid (∀ v : World, Hid (Arr v w.heap.size 22 (u8s b) ∧ Arr v (w.heap.size + 1) 128 (u8s s)) → v.cell? ⟨w.heap.size, 14, none⟩ = some (.int .u8 ((b.getD 14 0 : Nat) : Int))) := fun v hv => (hv.out.1.cell 14).trans (u8s_at (by omega))
  have L15 : Hid (∀ v : World, Hid (Arr v w.heap.size 22 (u8s b) ∧ Arr v (w.heap.size + 1) 128 (u8s s)) → v.cell? ⟨w.heap.size, 15, none⟩ = some (.int .u8 ((b.getD 15 0 : Nat) : Int))) := fun v hv => (hv.out.1.cell 15).trans (u8s_at (by omega))
  have L12 : Hid (∀ v : World, Hid (Arr v w.heap.size 22 (u8s b) ∧ Arr v (w.heap.size + 1) 128 (u8s s)) → v.cell? ⟨w.heap.size, 12, none⟩ = some (.int .u8 ((b.getD 12 0 : Nat) : Int))) := fun v hv => (hv.out.1.cell 12).trans (u8s_at (by omega))
  have M : ∀ x, x < 256 → ∀ v : World, Hid (Arr v w.heap.size 22 (u8s b) ∧ Arr v (w.heap.size + 1) 128 (u8s s)) → v.cell? ⟨w.heap.size + 1, x, none⟩ = some (.int .u8 ((s.getD x 0 : Nat) : Int)) := fun x hx v hv => (hv.out.2.cell x).trans (u8s_at (by omega))
  have M13 := hide (M _ (hb 13))
  have M14 := hide (M _ (hb 14))
  have M15 := hide (M _ (hb 15))
  have M12 := hide (M _ (hb 12))
  have HX := hide (u8_xor_nat (s.getD (b.getD 13 0) 0) p (hs _) hp)
  have CC : Hid ([Value.int .u8 ((s.getD (b.getD 13 0) 0 ^^^ p : Nat) : Int), .int .u8 ((s.getD (b.getD 14 0) 0 : Nat) : Int), .int .u8 ((s.getD (b.getD 15 0) 0 : Nat) : Int), .int .u8 ((s.getD (b.getD 12 0) 0 : Nat) : Int)] = u8s c) := by show _ = _; rw [hc]; rfl
  have y13 : ((b.getD 13 0 : Nat) : Int) < 256 := by have := hb 13; omega
  have y14 : ((b.getD 14 0 : Nat) : Int) < 256 := by have := hb 14; omega
  have y15 : ((b.getD 15 0 : Nat) : Int) < 256 := by have := hb 15; omega
  have y12 : ((b.getD 12 0 : Nat) : Int) < 256 := by have := hb 12; omega
  clear M hb hs bl sl hT hc
  generalize s.getD (b.getD 13 0) 0 = x13 at *
  generalize s.getD (b.getD 14 0) 0 = x14 at *
  generalize s.getD (b.getD 15 0) 0 = x15 at *
  generalize s.getD (b.getD 12 0) 0 = x12 at *
  generalize b.getD 13 0 = z13 at *
  generalize b.getD 14 0 = z14 at *
  generalize b.getD 15 0 = z15 at *
  generalize b.getD 12 0 = z12 at *
  have H3 := hide (St3.start w 128 b s)
  go_enter Tryd.func85, Tryd.ntmps85
  go_wp2_with fail
  refine wp_region_held_drew (S := fun w' => Hid (Arr w' w.heap.size 22 (u8s b) ∧ Arr w' (w.heap.size + 1) 128 (u8s s))) (by kernel_rfl) (hide ⟨H3.out.1, H3.out.2.1⟩) (fun hHeld => ?_)
  refine take_dstH (i := 0) (d := 9) (v := ?_) rfl rfl (by kernel_rfl) (by kernel_rfl) (by kernel_rfl) (fun _ _ _ h => h) (by rfl) hHeld ?_ ?_
  rotate_left
  · intro wZ hSw; clear hSw; go_simp; first | (with_reducible rfl) | (rw [if_pos (by omega)]; with_reducible rfl) | skip
  try simp only [Act.put, List.setIfInBounds_toArray, List.set_cons_zero, List.set_cons_succ]
  refine take_dstH (i := 1) (d := 10) (v := ?_) rfl rfl (by kernel_rfl) (by kernel_rfl) (by kernel_rfl) (fun _ _ _ h => h) (by rfl) hHeld ?_ ?_
  rotate_left
  · intro wZ hSw; have hfS := L13.out wZ hSw; clear hSw; go_simp; first | (with_reducible rfl) | (rw [if_pos (by omega)]; with_reducible rfl) | skip
  try simp only [Act.put, List.setIfInBounds_toArray, List.set_cons_zero, List.set_cons_succ]
  refine take_dstH (i := 2) (d := 11) (v := ?_) rfl rfl (by kernel_rfl) (by kernel_rfl) (by kernel_rfl) (fun _ _ _ h => h) (by rfl) hHeld ?_ ?_
  rotate_left
  · intro wZ hSw; clear hSw; go_simp; first | (with_reducible rfl) | (rw [if_pos (by omega)]; with_reducible rfl) | skip
  try simp only [Act.put, List.setIfInBounds_toArray, List.set_cons_zero, List.set_cons_succ]
  refine take_dstH (i := 3) (d := 12) (v := ?_) rfl rfl (by kernel_rfl) (by kernel_rfl) (by kernel_rfl) (fun _ _ _ h => h) (by rfl) hHeld ?_ ?_
  rotate_left
  · intro wZ hSw; have hfS := M13.out wZ hSw; clear hSw; go_simp; first | (with_reducible rfl) | (rw [if_pos (by omega)]; with_reducible rfl) | skip
  try simp only [Act.put, List.setIfInBounds_toArray, List.set_cons_zero, List.set_cons_succ]
  refine take_dstH (i := 4) (d := 13) (v := ?_) rfl rfl (by kernel_rfl) (by kernel_rfl) (by kernel_rfl) (fun _ _ _ h => h) (by rfl) hHeld ?_ ?_
  rotate_left
  · intro wZ hSw; clear hSw; go_simp; first | (with_reducible rfl) | (rw [if_pos (by omega)]; with_reducible rfl) | skip
  try simp only [Act.put, List.setIfInBounds_toArray, List.set_cons_zero, List.set_cons_succ]
  refine take_dstH (i := 5) (d := 14) (v := ?_) rfl rfl (by kernel_rfl) (by kernel_rfl) (by kernel_rfl) (fun _ _ _ h => h) (by rfl) hHeld ?_ ?_
  rotate_left
  · intro wZ hSw; clear hSw; go_simp; first | (with_reducible rfl) | (rw [if_pos (by omega)]; with_reducible rfl) | skip
  try simp only [Act.put, List.setIfInBounds_toArray, List.set_cons_zero, List.set_cons_succ]
  refine take_dstH (i := 6) (d := 15) (v := ?_) rfl rfl (by kernel_rfl) (by kernel_rfl) (by kernel_rfl) (fun _ _ _ h => h) (by rfl) hHeld ?_ ?_
  rotate_left
  · intro wZ hSw; clear hSw; go_simp; first | (with_reducible rfl) | (rw [if_pos (by omega)]; with_reducible rfl) | skip
  try simp only [Act.put, List.setIfInBounds_toArray, List.set_cons_zero, List.set_cons_succ]
  refine take_dstH (i := 7) (d := 16) (v := ?_) rfl rfl (by kernel_rfl) (by kernel_rfl) (by kernel_rfl) (fun _ _ _ h => h) (by rfl) hHeld ?_ ?_
  rotate_left
  · intro wZ hSw; have hfS := L14.out wZ hSw; clear hSw; go_simp; first | (with_reducible rfl) | (rw [if_pos (by omega)]; with_reducible rfl) | skip
  try simp only [Act.put, List.setIfInBounds_toArray, List.set_cons_zero, List.set_cons_succ]
  refine take_dstH (i := 8) (d := 17) (v := ?_) rfl rfl (by kernel_rfl) (by kernel_rfl) (by kernel_rfl) (fun _ _ _ h => h) (by rfl) hHeld ?_ ?_
  rotate_left
  · intro wZ hSw; clear hSw; go_simp; first | (with_reducible rfl) | (rw [if_pos (by omega)]; with_reducible rfl) | skip
  try simp only [Act.put, List.setIfInBounds_toArray, List.set_cons_zero, List.set_cons_succ]
  refine take_dstH (i := 9) (d := 18) (v := ?_) rfl rfl (by kernel_rfl) (by kernel_rfl) (by kernel_rfl) (fun _ _ _ h => h) (by rfl) hHeld ?_ ?_
  rotate_left
  · intro wZ hSw; have hfS := M14.out wZ hSw; clear hSw; go_simp; first | (with_reducible rfl) | (rw [if_pos (by omega)]; with_reducible rfl) | skip
  try simp only [Act.put, List.setIfInBounds_toArray, List.set_cons_zero, List.set_cons_succ]
  refine take_dstH (i := 10) (d := 19) (v := ?_) rfl rfl (by kernel_rfl) (by kernel_rfl) (by kernel_rfl) (fun _ _ _ h => h) (by rfl) hHeld ?_ ?_
  rotate_left
  · intro wZ hSw; clear hSw; go_simp; first | (with_reducible rfl) | (rw [if_pos (by omega)]; with_reducible rfl) | skip
  try simp only [Act.put, List.setIfInBounds_toArray, List.set_cons_zero, List.set_cons_succ]
  refine take_dstH (i := 11) (d := 20) (v := ?_) rfl rfl (by kernel_rfl) (by kernel_rfl) (by kernel_rfl) (fun _ _ _ h => h) (by rfl) hHeld ?_ ?_
  rotate_left
  · intro wZ hSw; have hfS := L15.out wZ hSw; clear hSw; go_simp; first | (with_reducible rfl) | (rw [if_pos (by omega)]; with_reducible rfl) | skip
  try simp only [Act.put, List.setIfInBounds_toArray, List.set_cons_zero, List.set_cons_succ]
  refine take_dstH (i := 12) (d := 21) (v := ?_) rfl rfl (by kernel_rfl) (by kernel_rfl) (by kernel_rfl) (fun _ _ _ h => h) (by rfl) hHeld ?_ ?_
  rotate_left
  · intro wZ hSw; clear hSw; go_simp; first | (with_reducible rfl) | (rw [if_pos (by omega)]; with_reducible rfl) | skip
  try simp only [Act.put, List.setIfInBounds_toArray, List.set_cons_zero, List.set_cons_succ]
  refine take_dstH (i := 13) (d := 22) (v := ?_) rfl rfl (by kernel_rfl) (by kernel_rfl) (by kernel_rfl) (fun _ _ _ h => h) (by rfl) hHeld ?_ ?_
  rotate_left
  · intro wZ hSw; have hfS := M15.out wZ hSw; clear hSw; go_simp; first | (with_reducible rfl) | (rw [if_pos (by omega)]; with_reducible rfl) | skip
  try simp only [Act.put, List.setIfInBounds_toArray, List.set_cons_zero, List.set_cons_succ]
  refine take_dstH (i := 14) (d := 23) (v := ?_) rfl rfl (by kernel_rfl) (by kernel_rfl) (by kernel_rfl) (fun _ _ _ h => h) (by rfl) hHeld ?_ ?_
  rotate_left
  · intro wZ hSw; clear hSw; go_simp; first | (with_reducible rfl) | (rw [if_pos (by omega)]; with_reducible rfl) | skip
  try simp only [Act.put, List.setIfInBounds_toArray, List.set_cons_zero, List.set_cons_succ]
  refine take_dstH (i := 15) (d := 24) (v := ?_) rfl rfl (by kernel_rfl) (by kernel_rfl) (by kernel_rfl) (fun _ _ _ h => h) (by rfl) hHeld ?_ ?_
  rotate_left
  · intro wZ hSw; have hfS := L12.out wZ hSw; clear hSw; go_simp; first | (with_reducible rfl) | (rw [if_pos (by omega)]; with_reducible rfl) | skip
  try simp only [Act.put, List.setIfInBounds_toArray, List.set_cons_zero, List.set_cons_succ]
  refine take_dstH (i := 16) (d := 25) (v := ?_) rfl rfl (by kernel_rfl) (by kernel_rfl) (by kernel_rfl) (fun _ _ _ h => h) (by rfl) hHeld ?_ ?_
  rotate_left
  · intro wZ hSw; clear hSw; go_simp; first | (with_reducible rfl) | (rw [if_pos (by omega)]; with_reducible rfl) | skip
  try simp only [Act.put, List.setIfInBounds_toArray, List.set_cons_zero, List.set_cons_succ]
  refine take_dstH (i := 17) (d := 26) (v := ?_) rfl rfl (by kernel_rfl) (by kernel_rfl) (by kernel_rfl) (fun _ _ _ h => h) (by rfl) hHeld ?_ ?_
  rotate_left
  · intro wZ hSw; have hfS := M12.out wZ hSw; clear hSw; go_simp; first | (with_reducible rfl) | (rw [if_pos (by omega)]; with_reducible rfl) | skip
  try simp only [Act.put, List.setIfInBounds_toArray, List.set_cons_zero, List.set_cons_succ]
  refine take_dstH (i := 18) (d := 27) (v := ?_) rfl rfl (by kernel_rfl) (by kernel_rfl) (by kernel_rfl) (fun _ _ _ h => h) (by rfl) hHeld ?_ ?_
  rotate_left
  · intro wZ hSw; clear hSw; go_simp; first | (with_reducible rfl) | (rw [if_pos (by omega)]; with_reducible rfl) | skip
  try simp only [Act.put, List.setIfInBounds_toArray, List.set_cons_zero, List.set_cons_succ]
  refine wpAnyH_ready (rs := [19]) (by kernel_rfl) (by simp) ?_
  refine (AllReadyH.cons rfl (fun K hK => ?_) AllReadyH.nil)
  go_simp
  refine hK.out _ _ ?_ (fun hHeld => ?_)
  · exact (fun h : Hid _ => hide ⟨h.out.1.alloc _, h.out.2.alloc _⟩) hHeld
  clear hK K
  try simp only [Act.put, List.setIfInBounds_toArray, List.set_cons_zero, List.set_cons_succ]
  refine wpAnyH_ready (rs := [20]) (by kernel_rfl) (by simp) ?_
  refine (AllReadyH.cons rfl (fun K hK => ?_) AllReadyH.nil)
  refine wp_store_dst rfl 135 (.tmp 7) (.tmp 27) rfl (w.heap.size + 1 + 1 + 1) _ rfl rfl 135 _ (Arr.newAt (((w.alloc _).alloc _).alloc _) 135 [.int .u8 0, .int .u8 0, .int .u8 0, .int .u8 0] (w.heap.size + 1 + 1 + 1) (by simp)) (by rw [info4]; rfl) rfl (by simp [Value.oneCell']) ?_
  refine hK.out _ _ ?_ (fun hHeld => ?_)
  · exact (fun h : Hid _ => hide ⟨h.out.1.rowOther _ _ (by omega), h.out.2.rowOther _ _ (by omega)⟩) hHeld
  clear hK K
  try simp only [Act.put, List.setIfInBounds_toArray, List.set_cons_zero, List.set_cons_succ]
  refine wpAnyH_done (by kernel_rfl) ?_ _
  rw [HX.out, CC.out]
  clear hHeld L13 L14 L15 L12 M13 M14 M15 M12 HX CC y13 y14 y15 y12
  go_wp2
  go_loopg [28] 17 (fun f s28 wr => ∃ (i : Nat), s28 = .int .i64 i ∧ i ≤ 16 ∧ 16 - i < f ∧ Hid (StN w wr (over T b i) s (nK c b i)))
  case atStart =>
    refine ⟨0, rfl, by omega, by omega, ?_⟩
    rw [over_zero]
    have hc0 : nK c b 0 = c := by rw [HC.out]; rfl
    rw [hc0]
    exact ⟨(H3.out.1.alloc _).rowOther _ _ (by omega), (H3.out.2.1.alloc _).rowOther _ _ (by omega), (H3.out.2.2.1.alloc _).rowOther _ _ (by omega), (Arr.newAt _ _ [.int .u8 0, .int .u8 0, .int .u8 0, .int .u8 0] _ (by simp)).row _, below_setRow (g := w.heap.size + 1 + 1 + 1) ((H3.out.2.2.2.alloc (by simp; omega) _).drew) (by omega) (by simp) _⟩
  case round =>
    clear H3
    obtain ⟨i, rfl, hi, hf, HR⟩ := hrel
    by_cases hlt : i < 16
    · obtain ⟨q, hq⟩ : ∃ q, q = i % 4 := ⟨_, rfl⟩
      have q1 : Int.tmod (i : Int) 4 = (q : Int) := by rw [Int.tmod_eq_emod_of_nonneg (by omega)]; omega
      have q2 : (i : Int) % 4 = (q : Int) := by omega
      have hq3 : (q : Int) < 4 := by omega
      have hi16 : (i : Int) < 16 := by omega
      have e1 := over_at T b 16 i i TL.out BL.out hlt
      rw [if_neg (by omega)] at e1
      have HCB : Hid (∀ v : World, Hid (Arr v w.heap.size 22 (u8s (over T b i))) → v.cell? ⟨w.heap.size, i, none⟩ = some (.int .u8 ((b.getD i 0 : Nat) : Int))) := fun v hv => by rw [← e1]; exact (hv.out.cell i).trans (u8s_at (by rw [over_length _ _ _ _ TL.out BL.out (by omega)]; omega))
      have cm := (HR.out.2.2.2.1.cell q).trans (u8s_at (by rw [nK_length]; omega))
      rw [nK_at _ _ _ _ (by omega)] at cm
      have fm := HR.out.2.2.2.1.frozen q
      have HX := hide (u8_xor_nat (nC c b i q) (b.getD i 0) (nC_lt CB.out HB.out i q) (HB.out i))
      have HN : Hid (nC c b i q ^^^ b.getD i 0 = T.getD i 0) := by show _ = _; rw [HT.out i hlt, ← hq]; show _ = (if i % 4 = q then nC c b i q ^^^ b.getD i 0 else nC c b i q); rw [if_pos hq.symm]
      have HK : Hid ((nK c b i).set q (T.getD i 0) = nK c b (i + 1)) := by show _ = _; rw [HT.out i hlt, hq, nK_next]
      have HO := hide (over_set T b 16 i TL.out BL.out hlt)
      have OL := hide (over_length T b 16 i TL.out BL.out (by omega))
      clear hq e1
      generalize nC c b i q = x at *
      generalize b.getD i 0 = y at *
      generalize hz : T.getD i 0 = z at *
      clear hz
      go_wp2_with fail
      refine wp_region_held_drew (S := fun w' => Hid (Arr w' w.heap.size 22 (u8s (over T b i)))) (by kernel_rfl) (hide HR.out.1) (fun hHeld => ?_)
      refine take_dstH (i := 0) (d := 31) (v := ?_) rfl rfl (by kernel_rfl) (by kernel_rfl) (by kernel_rfl) (fun _ _ _ h => h) (by rfl) hHeld ?_ ?_
      rotate_left
      · intro wZ hSw; clear hSw; go_simp; first | (with_reducible rfl) | (rw [if_pos (by omega)]; with_reducible rfl) | skip
      try simp only [Act.put, List.setIfInBounds_toArray, List.set_cons_zero, List.set_cons_succ]
      refine take_dstH (i := 1) (d := 32) (v := ?_) rfl rfl (by kernel_rfl) (by kernel_rfl) (by kernel_rfl) (fun _ _ _ h => h) (by rfl) hHeld ?_ ?_
      rotate_left
      · intro wZ hSw; clear hSw; go_simp; first | (with_reducible rfl) | (rw [if_pos (by omega)]; with_reducible rfl) | skip
      try simp only [Act.put, List.setIfInBounds_toArray, List.set_cons_zero, List.set_cons_succ]
      refine take_dstH (i := 2) (d := 33) (v := ?_) rfl rfl (by kernel_rfl) (by kernel_rfl) (by kernel_rfl) (fun _ _ _ h => h) (by rfl) hHeld ?_ ?_
      rotate_left
      · intro wZ hSw; clear hSw; go_simp; first | (with_reducible rfl) | (rw [if_pos (by omega)]; with_reducible rfl) | skip
      try simp only [Act.put, List.setIfInBounds_toArray, List.set_cons_zero, List.set_cons_succ]
      refine take_dstH (i := 4) (d := 35) (v := ?_) rfl rfl (by kernel_rfl) (by kernel_rfl) (by kernel_rfl) (fun _ _ _ h => h) (by rfl) hHeld ?_ ?_
      rotate_left
      · intro wZ hSw; clear hSw; go_simp; first | (with_reducible rfl) | (rw [if_pos (by omega)]; with_reducible rfl) | skip
      try simp only [Act.put, List.setIfInBounds_toArray, List.set_cons_zero, List.set_cons_succ]
      refine take_dstH (i := 5) (d := 36) (v := ?_) rfl rfl (by kernel_rfl) (by kernel_rfl) (by kernel_rfl) (fun _ _ _ h => h) (by rfl) hHeld ?_ ?_
      rotate_left
      · intro wZ hSw; clear hSw; go_simp; first | (with_reducible rfl) | (rw [if_pos (by omega)]; with_reducible rfl) | skip
      try simp only [Act.put, List.setIfInBounds_toArray, List.set_cons_zero, List.set_cons_succ]
      refine take_dstH (i := 6) (d := 37) (v := ?_) rfl rfl (by kernel_rfl) (by kernel_rfl) (by kernel_rfl) (fun _ _ _ h => h) (by rfl) hHeld ?_ ?_
      rotate_left
      · intro wZ hSw; have hfS := HCB.out wZ hSw; clear hSw; go_simp; first | (with_reducible rfl) | (rw [if_pos (by omega)]; with_reducible rfl) | skip
      try simp only [Act.put, List.setIfInBounds_toArray, List.set_cons_zero, List.set_cons_succ]
      refine wpAnyH_ready (rs := [3]) (by kernel_rfl) (by simp) ?_
      refine (AllReadyH.cons rfl (fun K hK => ?_) AllReadyH.nil)
      go_simp
      refine hK.out _ _ ?_ (fun hHeld => ?_)
      · exact hHeld
      clear hK K
      try simp only [Act.put, List.setIfInBounds_toArray, List.set_cons_zero, List.set_cons_succ]
      refine take_dstH (i := 7) (d := 38) (v := ?_) rfl rfl (by kernel_rfl) (by kernel_rfl) (by kernel_rfl) (fun _ _ _ h => h) (by rfl) hHeld ?_ ?_
      rotate_left
      · intro wZ hSw; clear hSw; go_simp; first | (with_reducible rfl) | (rw [if_pos (by omega)]; with_reducible rfl) | skip
      try simp only [Act.put, List.setIfInBounds_toArray, List.set_cons_zero, List.set_cons_succ]
      refine take_dstH (i := 8) (d := 39) (v := ?_) rfl rfl (by kernel_rfl) (by kernel_rfl) (by kernel_rfl) (fun _ _ _ h => h) (by rfl) hHeld ?_ ?_
      rotate_left
      · intro wZ hSw; clear hSw; go_simp; first | (with_reducible rfl) | (rw [if_pos (by omega)]; with_reducible rfl) | skip
      try simp only [Act.put, List.setIfInBounds_toArray, List.set_cons_zero, List.set_cons_succ]
      refine wpAnyH_ready (rs := [9]) (by kernel_rfl) (by simp) ?_
      refine (AllReadyH.cons rfl (fun K hK => ?_) AllReadyH.nil)
      go_simp
      refine hK.out _ _ ?_ (fun hHeld => ?_)
      · exact hide (HR.out.drew.setC q _).1
      clear hK K
      try simp only [Act.put, List.setIfInBounds_toArray, List.set_cons_zero, List.set_cons_succ]
      refine wpAnyH_done (by kernel_rfl) ?_ _
      rw [HX.out, HN.out]
      clear hHeld HCB cm fm HX HN
      have HR2 := hide (HR.out.setC q z).drew
      rw [HK.out] at HR2
      clear HR
      generalize World.drew (World.setCell wr ⟨w.heap.size + 1 + 1 + 1, q, none⟩ (.int .u8 (z : Int))) = wr2 at *
      have c2 : wr2.cell? ⟨w.heap.size + 1 + 1 + 1, q, none⟩ = some (.int .u8 (z : Int)) := by
        rw [HR2.out.2.2.2.1.cell q, ← HK.out, ← u8s_set]
        simp [u8s, nK_length, show q < 4 by omega]
      have c3 := (HR2.out.1.cell i).trans (u8s_at (by rw [OL.out]; omega))
      have f3 := HR2.out.1.frozen i
      generalize (over T b i).getD i 0 = old at *
      go_wp2
      go_roundg (16 - i)
      case measure => omega
      case rel =>
        refine ⟨i + 1, by go_num, by omega, by omega, ?_⟩
        have := HR2.out.setB i z
        rw [HO.out] at this
        exact this
    · have e : i = 16 := by omega
      subst e
      rw [over_full _ _ _ TL.out BL.out] at HR
      have K0 := hide HR.out.1
      have K2 := hide HR.out.2.2.1
      have KB := hide HR.out.2.2.2.2
      have T1 := hide (sz16 TL.out)
      have T2 := hide (old16 TL.out)
      have O2 := hide (one_u8s T)
      clear HR
      go_wp2_with (first
        | (refine wpList_load_row rfl 22 _ rfl w.heap.size rfl 22 _ (0, 0) _ K0.out Tryd.underlying22 rfl T1.out ?_)
        | (refine wpList_store_row rfl 22 _ _ rfl (w.heap.size + 1 + 1) _ rfl rfl 22 _ K2.out T1.out T2.out O2.out ?_))
      exact bodyPost_ret (v := .agg (u8s T).toArray) (results_cell_row Tryd.results85 _ _ (w.heap.size + 1 + 1) 22 _ (0, 0) _ rfl (K2.out.row _) Tryd.underlying22 rfl T1.out) rfl ⟨rfl, below_setRow KB.out (by omega) K2.out.lt _⟩

end Go.Proofs.YtbmjlofehbbkbaaDoor

/- A walk: a key's rounds. -/
namespace Go.Proofs.YtbmjlofehbbkbaaDoor
open Go.RowKit

/-- what the first column of a round has added -/
def rcF : Nat → Nat
  | 0 => 1
  | j + 1 => dblF (rcF j)
theorem rcF_lt : ∀ j, rcF j < 256
  | 0 => by decide
  | j + 1 => dblF_lt (rcF_lt j)
/-- a key's rounds -/
def rdF (s key : List Nat) : Nat → List Nat
  | 0 => key
  | j + 1 => nxL s (rdF s key j) (rcF j)
/-- rows, one behind the other -/
def flF (f : Nat → List Nat) : Nat → List Nat
  | 0 => []
  | j + 1 => flF f j ++ f j
theorem flF_length {f : Nat → List Nat} (h : ∀ j, (f j).length = 16) : ∀ j, (flF f j).length = 16 * j
  | 0 => rfl
  | j + 1 => by rw [flF, List.length_append, flF_length h j, h]; omega
/-- .. and noughts behind them -/
def flZ (f : Nat → List Nat) (j : Nat) : List Nat := flF f j ++ List.replicate (176 - 16 * j) 0
theorem flZ_length {f : Nat → List Nat} (h : ∀ j, (f j).length = 16) (j : Nat) (hj : j ≤ 11) : (flZ f j).length = 176 := by rw [flZ, List.length_append, flF_length h, List.length_replicate]; omega
theorem flZ_all {f : Nat → List Nat} : flZ f 11 = flF f 11 := by simp [flZ]
theorem flZ_next {f : Nat → List Nat} (h : ∀ j, (f j).length = 16) (j : Nat) (hj : j < 11) : (flZ f j).take (16 * j) ++ f j ++ (flZ f j).drop (16 * j + 16) = flZ f (j + 1) := by
  have h1 := flF_length h j
  rw [flZ, flZ, flF, List.take_append_of_le_length (by omega), List.take_of_length_le (by omega), ← h1, List.drop_append, List.drop_of_length_le (by omega), List.nil_append, List.drop_replicate]
  congr 2
  rw [h1]; omega
theorem flF_row {f : Nat → List Nat} (h : ∀ j, (f j).length = 16) (j t : Nat) (ht : t < 16) : ∀ n, j < n → (flF f n)[16 * j + t]? = (f j)[t]? := by
  intro n
  induction n with
  | zero => intro hn; omega
  | succ n ih =>
    intro hn
    rw [flF]
    by_cases e : j = n
    · subst e
      rw [List.getElem?_append_right (by rw [flF_length h]; omega), flF_length h]
      congr 1; omega
    · rw [List.getElem?_append_left (by rw [flF_length h]; omega)]
      exact ih (by omega)
theorem flZ_row {f : Nat → List Nat} (h : ∀ j, (f j).length = 16) (j t n : Nat) (ht : t < 16) (hn : j < n) : (flZ f n)[16 * j + t]? = (f j)[t]? := by
  rw [flZ, List.getElem?_append_left (by rw [flF_length h]; omega)]
  exact flF_row h j t ht n hn

def z176 : List Nat := List.replicate 176 0
theorem zero176 (v : World) : (zeroValue 130).run Tryd.prog v = .ok (.agg (u8s z176).toArray) v := by kernel_rfl
theorem z176_is (f : Nat → List Nat) : flZ f 0 = z176 := by simp [flZ, flF, z176]

/-- what lies in memory while rounds are made -/
def StR (w wr : World) (s L : List Nat) : Prop :=
  Arr wr (w.heap.size + 1) 128 (u8s s) ∧ Arr wr (w.heap.size + 1 + 1) 130 (u8s z176) ∧ Arr wr (w.heap.size + 1 + 1 + 1) 130 (u8s L) ∧ Below w.heap.size w wr

theorem built176 (key : List Nat) (h : key.length = 16) : Tryd.prog.built 130 [(0, .agg (u8s key).toArray)] = some (u8s (key ++ List.replicate 160 0)).toArray := by
  obtain ⟨k0, k1, k2, k3, k4, k5, k6, k7, k8, k9, k10, k11, k12, k13, k14, k15, rfl⟩ : ∃ k0 k1 k2 k3 k4 k5 k6 k7 k8 k9 k10 k11 k12 k13 k14 k15, key = [k0, k1, k2, k3, k4, k5, k6, k7, k8, k9, k10, k11, k12, k13, k14, k15] := by
    match key, h with
    | [k0, k1, k2, k3, k4, k5, k6, k7, k8, k9, k10, k11, k12, k13, k14, k15], _ => exact ⟨k0, k1, k2, k3, k4, k5, k6, k7, k8, k9, k10, k11, k12, k13, k14, k15, rfl⟩
  kernel_rfl

set_option maxHeartbeats 8000000 in
set_option maxRecDepth 100000 in
theorem rounds_of (key s L : List Nat) (f : Nat → List Nat) (w : World) (kl : key.length = 16) (sl : s.length = 256) (hs : ∀ i, s.getD i 0 < 256) (hf0 : f 0 = key) (hfN : ∀ j, f (j + 1) = nxL s (f j) (rcF j)) (hfL : ∀ j, (f j).length = 16) (hfB : ∀ j i, (f j).getD i 0 < 256) (hL : L = flF f 11) :
    Calls Tryd.prog 71 #[.agg (u8s key).toArray, .agg (u8s s).toArray] w fun e w' => e = .returned (.agg (u8s L).toArray) ∧ Below w.heap.size w w' := by
  have KL := hide kl
  have SL := hide sl
  have HS := hide hs
  have F0 := hide hf0
  have FN := hide hfN
  have FL := hide hfL
  have FB := hide hfB
  have HL := hide hL
  have HBK := hide (built176 key kl)
  have Z1 := zero176
  have L1 : Hid (key ++ List.replicate 160 0 = flZ f 1) := by show _ = _; rw [← hf0]; rfl
  have FZ := hide (fun j hj => flZ_length hfL j hj)
  rw [L1.out] at HBK
  clear kl sl hs hf0 hfN hfL hfB hL L1
  have IK : Hid ((Tryd.prog.info? 22).map (·.size) = some (u8s key).toArray.size) := sz16 KL.out
  have I1 : Hid ((Tryd.prog.info? 130).map (·.size) = some (u8s (flZ f 1)).toArray.size) := by show _ = _; rw [info176]; simp [u8s, FZ.out 1 (by omega)]
  have I2 : Hid ((u8s z176).toArray.size = (u8s (flZ f 1)).toArray.size) := by show _ = _; simp [u8s, FZ.out 1 (by omega), z176]
  have O1 := hide (one_u8s (flZ f 1))
  have KA : Hid (∀ x y : Obj, Arr (((w.alloc (Obj.cells (u8s key).toArray 22)).alloc x).alloc y) w.heap.size 22 (u8s key)) := fun x y => ((Arr.new w _ (u8s key)).alloc _).alloc _
  go_enter Tryd.func71, Tryd.ntmps71
  go_wp2_with (first
    | (refine wpList_load_row rfl 22 _ rfl w.heap.size rfl 22 _ (0, 0) _ (KA.out _ _) Tryd.underlying22 rfl IK.out ?_
       refine wpList_build_to rfl 130 #[(0, .tmp 8)] rfl [(0, .agg (u8s key).toArray)] (by simp [Act.eval, Act.put]) _ HBK.out ?_)
    | (refine wpList_store_row rfl 130 _ _ rfl (w.heap.size + 1 + 1 + 1) _ rfl rfl 130 _ (Arr.newAt (((w.alloc _).alloc _).alloc _) 130 (u8s z176) (w.heap.size + 1 + 1 + 1) (by simp)) I1.out I2.out O1.out ?_))
  go_loopg [6, 7] 12 (fun f0 s6 s7 wr => ∃ (k j : Nat), s6 = .int .u8 (rcF k : Nat) ∧ s7 = .int .i64 j ∧ j = k + 1 ∧ k ≤ 10 ∧ 11 - k < f0 ∧ Hid (StR w wr s (flZ f j)))
  case atStart =>
    refine ⟨0, 1, rfl, rfl, rfl, by omega, by omega, ?_, ?_, ?_, ?_⟩
    · exact (((Arr.newAt (w.alloc _) _ (u8s s) (w.heap.size + 1) (by simp)).alloc _).alloc _).rowOther _ _ (by omega)
    · exact ((Arr.newAt ((w.alloc _).alloc _) _ (u8s z176) (w.heap.size + 1 + 1) (by simp)).alloc _).rowOther _ _ (by omega)
    · exact (Arr.newAt (((w.alloc _).alloc _).alloc _) _ (u8s z176) (w.heap.size + 1 + 1 + 1) (by simp)).row _
    · exact below_setRow (g := w.heap.size + 1 + 1 + 1) ((((((Below.refl _ _).alloc (Nat.le_refl _) _).alloc (by simp) _).alloc (by simp; omega) _).alloc (by simp; omega) _)) (by omega) (by simp) _
  case round =>
    clear KA HBK I1 I2 O1
    obtain ⟨k, j, rfl, rfl, hjk, hk, hf, HR⟩ := hrel
    by_cases hlt : k < 10
    · have m1 : (j : Int) - 1 = (k : Int) := by omega
      have m2 : IntKind.i64.wrap (k : Int) = (k : Int) := by simp [IntKind.wrap, IntKind.bits, IntKind.signed]; omega
      have m3 : (k : Int) < 11 := by omega
      have m4 : (j : Int) < 11 := by omega
      have m5 : (j : Int) ≤ 10 := by omega
      have RNG : Hid (∀ (v : World) (n : Nat), k < n → Arr v (w.heap.size + 1 + 1 + 1) 130 (u8s (flZ f n)) → v.rangeAt (w.heap.size + 1 + 1 + 1) (k * 16) (u8s (f k))) := fun v n hn hv t x hx => by
        have ht : t < 16 := by have := (List.getElem?_eq_some_iff.1 hx).1; rwa [u8s_length, FL.out] at this
        rw [hv.cell, ← hx, Nat.mul_comm k 16]
        simp only [u8s, List.getElem?_map, flZ_row FL.out k t n ht hn]
      have I16 : Hid ((Tryd.prog.info? 22).map (·.size) = some (u8s (f k)).length) := by show _ = _; rw [info16, u8s_length, FL.out]
      have I256 : Hid ((Tryd.prog.info? 128).map (·.size) = some (u8s s).length) := by show _ = _; rw [info256, u8s_length, SL.out]
      have HN : Hid (∀ v, Calls Tryd.prog 85 #[.agg (u8s (f k)).toArray, .agg (u8s s).toArray, .int .u8 ((rcF k : Nat) : Int)] v fun e w' => e = .returned (.agg (u8s (f j)).toArray) ∧ Below v.heap.size v w') := fun v => next_of (f k) s (f j) (rcF k) v (FL.out k) SL.out (FB.out k) HS.out (rcF_lt k) (by rw [hjk, FN.out])
      have HD := hide (fun v => doubled_any (rcF k) (rcF_lt k) v)
      have IJ : Hid ((Tryd.prog.info? 22).map (·.size) = some (u8s (f j)).toArray.size) := sz16 (FL.out j)
      have IF : Hid (j * 16 + (u8s (f j)).toArray.size ≤ (u8s (flZ f j)).length) := by show _ ≤ _; rw [List.size_toArray, u8s_length, FL.out, u8s_length, FZ.out j (by omega)]; omega
      have OJ := hide (one_u8s (f j))
      have HZ : Hid (((u8s (flZ f j)).take (j * 16) ++ (u8s (f j)).toArray.toList ++ (u8s (flZ f j)).drop (j * 16 + (u8s (f j)).toArray.size)) = u8s (flZ f (j + 1))) := by
        show _ = _
        rw [List.size_toArray, u8s_length, FL.out, Nat.mul_comm j 16, ← flZ_next FL.out j (by omega)]
        simp [u8s]
      have HP : Hid (rcF j = dblF (rcF k)) := by show _ = _; rw [hjk]; rfl
      have HJ := hide hjk
      have hkj : k < j := by omega
      clear hjk
      generalize hp : rcF k = p at *
      have HPK := hide hp
      clear hp
      go_wp2_with fail
      refine wp_region_held_drew (S := fun w' => Hid (Arr w' (w.heap.size + 1) 128 (u8s s) ∧ w'.rangeAt (w.heap.size + 1 + 1 + 1) (k * 16) (u8s (f k)))) (by kernel_rfl) (hide ⟨HR.out.1, RNG.out _ j hkj HR.out.2.2.1⟩) (fun hHeld => ?_)
      refine take_dstH (i := 0) (d := 14) (v := ?_) rfl rfl (by kernel_rfl) (by kernel_rfl) (by kernel_rfl) (fun _ _ _ h => h) (by rfl) hHeld ?_ ?_
      rotate_left
      · intro wZ hSw; clear hSw; go_simp; first | (with_reducible rfl) | (rw [if_pos (by omega)]; with_reducible rfl) | skip
      try simp only [Act.put, List.setIfInBounds_toArray, List.set_cons_zero, List.set_cons_succ]
      refine take_dstH (i := 1) (d := 15) (v := ?_) rfl rfl (by kernel_rfl) (by kernel_rfl) (by kernel_rfl) (fun _ _ _ h => h) (by rfl) hHeld ?_ ?_
      rotate_left
      · intro wZ hSw; clear hSw; go_simp; first | (with_reducible rfl) | (rw [if_pos (by omega)]; with_reducible rfl) | skip
      try simp only [Act.put, List.setIfInBounds_toArray, List.set_cons_zero, List.set_cons_succ]
      refine take_dstH (i := 2) (d := 16) (v := ?_) rfl rfl (by kernel_rfl) (by kernel_rfl) (by kernel_rfl) (fun _ _ _ h => h) (by rfl) hHeld ?_ ?_
      rotate_left
      · intro wZ hSw; clear hSw; go_simp; first | (with_reducible rfl) | (rw [if_pos (by omega)]; with_reducible rfl) | skip
      try simp only [Act.put, List.setIfInBounds_toArray, List.set_cons_zero, List.set_cons_succ]
      refine take_dstH (i := 3) (d := 17) (v := ?_) rfl rfl (by kernel_rfl) (by kernel_rfl) (by kernel_rfl) (fun _ _ _ h => h) (by rfl) hHeld ?_ ?_
      rotate_left
      · intro wZ hSw; clear hSw; go_simp; first | (with_reducible rfl) | (rw [if_pos (by omega)]; with_reducible rfl) | skip
      try simp only [Act.put, List.setIfInBounds_toArray, List.set_cons_zero, List.set_cons_succ]
      refine take_dstH (i := 4) (d := 18) (v := ?_) rfl rfl (by kernel_rfl) (by kernel_rfl) (by kernel_rfl) (fun _ _ _ h => h) (by rfl) hHeld ?_ ?_
      rotate_left
      · intro wZ hSw; refine exec_load_mid 22 (.tmp 17) ?_ (w.heap.size + 1 + 1 + 1) (k * 16) ?_ (u8s (f k)) _ hSw.out.2 Tryd.underlying22 rfl I16.out <;> rfl
      try simp only [Act.put, List.setIfInBounds_toArray, List.set_cons_zero, List.set_cons_succ]
      refine take_dstH (i := 5) (d := 19) (v := ?_) rfl rfl (by kernel_rfl) (by kernel_rfl) (by kernel_rfl) (fun _ _ _ h => h) (by rfl) hHeld ?_ ?_
      rotate_left
      · intro wZ hSw; refine exec_load_all 128 (.tmp 3) ?_ (w.heap.size + 1) ?_ 128 (u8s s) _ hSw.out.1 Tryd.underlying128 rfl I256.out <;> rfl
      try simp only [Act.put, List.setIfInBounds_toArray, List.set_cons_zero, List.set_cons_succ]
      refine take_dstH (i := 6) (d := 20) (v := ?_) rfl rfl (by kernel_rfl) (by kernel_rfl) (by kernel_rfl) (fun _ _ _ h => h) (by rfl) hHeld ?_ ?_
      rotate_left
      · intro wZ hSw; clear hSw; go_simp; first | (with_reducible rfl) | (rw [if_pos (by omega)]; with_reducible rfl) | skip
      try simp only [Act.put, List.setIfInBounds_toArray, List.set_cons_zero, List.set_cons_succ]
      refine wpAnyH_ready (rs := [7]) (by kernel_rfl) (by simp) ?_
      refine (AllReadyH.cons rfl (fun K hK => ?_) AllReadyH.nil)
      go_simp
      refine (HN.out _).mono ?_; rintro e wa ⟨rfl, hba⟩; have HBa := hide hba; clear hba
      go_wp2_with fail
      refine hK.out _ _ ?_ (fun hHeld => ?_)
      · exact (fun h : Hid _ => hide ⟨h.out.1.kept HBa.out, RNG.out _ j hkj (Arr.kept (w := World.drew wr) HR.out.2.2.1 HBa.out)⟩) hHeld
      clear hK K
      try simp only [Act.put, List.setIfInBounds_toArray, List.set_cons_zero, List.set_cons_succ]
      refine take_dstH (i := 8) (d := 22) (v := ?_) rfl rfl (by kernel_rfl) (by kernel_rfl) (by kernel_rfl) (fun _ _ _ h => h) (by rfl) hHeld ?_ ?_
      rotate_left
      · intro wZ hSw; clear hSw; go_simp; first | (with_reducible rfl) | (rw [if_pos (by omega)]; with_reducible rfl) | skip
      try simp only [Act.put, List.setIfInBounds_toArray, List.set_cons_zero, List.set_cons_succ]
      refine wpAnyH_ready (rs := [9]) (by kernel_rfl) (by simp) ?_
      refine (AllReadyH.cons rfl (fun K hK => ?_) AllReadyH.nil)
      refine wp_store_at rfl 22 (.tmp 22) (.tmp 21) rfl (w.heap.size + 1 + 1 + 1) (j * 16) _ rfl rfl 130 _ (Arr.kept (w := World.drew wr) HR.out.2.2.1 HBa.out) IJ.out IF.out OJ.out ?_; rw [HZ.out]
      refine hK.out _ _ ?_ (fun hHeld => ?_)
      · exact (fun h : Hid _ => hide ⟨h.out.1.rowOther _ _ (by omega), RNG.out _ (j + 1) (by omega) ((Arr.kept (w := World.drew wr) HR.out.2.2.1 HBa.out).row _)⟩) hHeld
      clear hK K
      try simp only [Act.put, List.setIfInBounds_toArray, List.set_cons_zero, List.set_cons_succ]
      refine wpAnyH_done (by kernel_rfl) ?_ _
      clear hHeld
      have H2 : Hid (StR w (wa.setRow (w.heap.size + 1 + 1 + 1) (u8s (flZ f (j + 1))).toArray) s (flZ f (j + 1))) := by
        obtain ⟨h0, h1, h2, h3⟩ := HR.out
        have hB := HBa.out
        have k0 := Arr.kept (w := World.drew wr) h0 hB
        have k1 := Arr.kept (w := World.drew wr) h1 hB
        have k2 := Arr.kept (w := World.drew wr) h2 hB
        exact ⟨k0.rowOther _ _ (by omega), k1.rowOther _ _ (by omega), k2.row _, below_setRow (g := w.heap.size + 1 + 1 + 1) (h3.drew.trans (hB.mono h3.drew.size)) (by omega) k2.lt _⟩
      clear HR HBa HZ IJ IF OJ HN I16 I256 RNG
      generalize wa.setRow (w.heap.size + 1 + 1 + 1) (u8s (flZ f (j + 1))).toArray = wb at *
      go_wp2_with (refine (HD.out _).mono ?_; rintro e wc ⟨rfl, hwc⟩; subst hwc)
      go_roundg (11 - k)
      case measure => omega
      case rel => exact ⟨j, j + 1, by rw [HP.out], by go_num, rfl, by omega, by omega, H2⟩
    · have e : k = 10 := by omega
      subst e
      subst hjk
      have LL : Hid (flZ f (10 + 1) = L) := by show _ = _; rw [HL.out]; exact flZ_all
      rw [LL.out] at HR
      have lL : L.length = 176 := by rw [← LL.out]; exact FZ.out 11 (by omega)
      have K0 := hide HR.out.2.2.1
      have K2 := hide HR.out.2.1
      have KB := hide HR.out.2.2.2
      have T1 : Hid ((Tryd.prog.info? 130).map (·.size) = some (u8s L).toArray.size) := by show _ = _; rw [info176]; simp [u8s, lL]
      have T2 : Hid ((u8s z176).toArray.size = (u8s L).toArray.size) := by show _ = _; simp [u8s, lL, z176]
      have O2 := hide (one_u8s L)
      clear HR lL
      go_wp2_with (first
        | (refine wpList_load_row rfl 130 _ rfl (w.heap.size + 1 + 1 + 1) rfl 130 _ (0, 0) _ K0.out Tryd.underlying130 rfl T1.out ?_)
        | (refine wpList_store_row rfl 130 _ _ rfl (w.heap.size + 1 + 1) _ rfl rfl 130 _ K2.out T1.out T2.out O2.out ?_))
      exact bodyPost_ret (v := .agg (u8s L).toArray) (results_cell_row Tryd.results71 _ _ (w.heap.size + 1 + 1) 130 _ (0, 0) _ rfl (K2.out.row _) Tryd.underlying130 rfl T1.out) rfl ⟨rfl, below_setRow KB.out (by omega) K2.out.lt _⟩

end Go.Proofs.YtbmjlofehbbkbaaDoor

/- Walks: a key's rounds by all bytes swapped; a block hidden. -/
namespace Go.Proofs.YtbmjlofehbbkbaaDoor
open Go.RowKit

theorem sw_lt (i : Nat) : swT.getD i 0 < 256 := getD_lt swT_lt (by omega) i
theorem rdF_length {s key : List Nat} (h : key.length = 16) : ∀ j, (rdF s key j).length = 16
  | 0 => h
  | _ + 1 => nxL_length _ _ _
theorem range16_at (g : Nat → Nat) (i : Nat) : ((List.range 16).map g).getD i 0 = if i < 16 then g i else 0 := by
  by_cases h : i < 16
  · simp [List.getD, h]
  · simp [List.getD, h]
theorem rdF_lt {s key : List Nat} (hs : ∀ i, s.getD i 0 < 256) (hk : ∀ i, key.getD i 0 < 256) : ∀ j i, (rdF s key j).getD i 0 < 256
  | 0, i => hk i
  | j + 1, i => by
    show (nxL s (rdF s key j) (rcF j)).getD i 0 < 256
    rw [nxL, range16_at]
    split
    · exact nC_lt (colF_lt hs (rcF_lt j)) (rdF_lt hs hk j) _ _
    · omega


end Go.Proofs.YtbmjlofehbbkbaaDoor

/- A walk: a block hidden. -/
namespace Go.Proofs.YtbmjlofehbbkbaaDoor
open Go.RowKit

/-- a block: sixteen bytes -/
structure Blk (b : List Nat) : Prop where
  len : b.length = 16
  lt : ∀ i, b.getD i 0 < 256
theorem Blk.mem {b : List Nat} (h : Blk b) : ∀ x ∈ b, x < 256 := by
  intro x hx
  obtain ⟨i, hi, rfl⟩ := List.getElem_of_mem hx
  have := h.lt i
  simpa [List.getD, hi] using this
theorem range16_blk {g : Nat → Nat} (h : ∀ i, i < 16 → g i < 256) : Blk ((List.range 16).map g) := by
  refine ⟨by simp, fun i => ?_⟩
  rw [range16_at]
  split
  · exact h i ‹_›
  · omega
def addL (a b : List Nat) : List Nat := (List.range 16).map fun i => a.getD i 0 ^^^ b.getD i 0
def eachL (t b : List Nat) : List Nat := (List.range 16).map fun i => t.getD (b.getD i 0) 0
def movL (t : Nat) (b : List Nat) : List Nat := (List.range 16).map fun i => b.getD ((i + 4 * t * (i % 4)) % 16) 0
def mixL (fs b : List Nat) : List Nat := (List.range 16).map fun i => mxA b fs i 4
theorem Blk.add {a b : List Nat} (ha : Blk a) (hb : Blk b) : Blk (addL a b) := range16_blk fun i _ => xor_lt8 (ha.lt i) (hb.lt i)
theorem eachL_blk {t : List Nat} (ht : ∀ i, t.getD i 0 < 256) (b : List Nat) : Blk (eachL t b) := range16_blk fun _ _ => ht _
theorem Blk.mov {b : List Nat} (h : Blk b) (t : Nat) : Blk (movL t b) := range16_blk fun _ _ => h.lt _
theorem Blk.mix {b : List Nat} (h : Blk b) (fs : List Nat) : Blk (mixL fs b) := range16_blk fun i _ => mxA_lt fs h.lt i 4
/-- a block, so many rounds on -/
def hdF (f : Nat → List Nat) (b : List Nat) : Nat → List Nat
  | 0 => addL b (f 0)
  | r + 1 => addL (if r + 1 < 10 then mixL [2, 3, 1, 1] (movL 1 (eachL swT (hdF f b r))) else movL 1 (eachL swT (hdF f b r))) (f (r + 1))
theorem hdF_blk {f : Nat → List Nat} {b : List Nat} (hf : ∀ j, Blk (f j)) (hb : Blk b) : ∀ r, Blk (hdF f b r)
  | 0 => hb.add (hf 0)
  | r + 1 => by
    rw [hdF]
    refine Blk.add ?_ (hf _)
    split
    · exact ((eachL_blk sw_lt _).mov 1).mix _
    · exact (eachL_blk sw_lt _).mov 1
theorem rd_blk {s key : List Nat} (hs : ∀ i, s.getD i 0 < 256) (hk : Blk key) (j : Nat) : Blk (rdF s key j) := ⟨rdF_length hk.len j, rdF_lt hs hk.lt j⟩

theorem sum_c {a b : List Nat} (ha : Blk a) (hb : Blk b) (v : World) : Calls Tryd.prog 72 #[.agg (u8s a).toArray, .agg (u8s b).toArray] v fun e w' => e = .returned (.agg (u8s (addL a b)).toArray) ∧ Below v.heap.size v w' :=
  sum_of a b _ v ha.len hb.len ha.mem hb.mem (ha.add hb).len (fun i hi => by rw [addL, range16_at, if_pos hi])
theorem each_c {t b : List Nat} (tl : t.length = 256) (ht : ∀ i, t.getD i 0 < 256) (hb : Blk b) (v : World) : Calls Tryd.prog 74 #[.agg (u8s b).toArray, .agg (u8s t).toArray] v fun e w' => e = .returned (.agg (u8s (eachL t b)).toArray) ∧ Below v.heap.size v w' :=
  each_of b t _ v hb.len tl hb.mem (eachL_blk ht b).len (fun i hi => by rw [eachL, range16_at, if_pos hi])
theorem moved_c {b : List Nat} (t : Nat) (ht : t ≤ 3) (hb : Blk b) (v : World) : Calls Tryd.prog 73 #[.agg (u8s b).toArray, .int .i64 (t : Int)] v fun e w' => e = .returned (.agg (u8s (movL t b)).toArray) ∧ Below v.heap.size v w' :=
  moved_of b _ t v ht hb.len (hb.mov t).len (fun i hi => by rw [movL, range16_at, if_pos hi])
theorem mixed_c {b fs : List Nat} (fl : fs.length = 4) (hf : ∀ i, fs.getD i 0 < 256) (hb : Blk b) (v : World) : Calls Tryd.prog 75 #[.agg (u8s b).toArray, .agg (u8s fs).toArray] v fun e w' => e = .returned (.agg (u8s (mixL fs b)).toArray) ∧ Below v.heap.size v w' :=
  mixed_of b fs _ (mxA b fs) v hb.len fl hb.lt hf (hb.mix fs).len (fun i hi => by rw [mixL, range16_at, if_pos hi]) (fun _ => rfl) (fun _ _ => rfl) (fun i k => mxA_lt fs hb.lt i k)

theorem St3.kept {w wr w' : World} {t : TypeId} {a c : List Nat} (r : St3 w wr t a c) (h : Below wr.heap.size wr w') : St3 w w' t a c :=
  ⟨r.1.kept h, r.2.1.kept h, r.2.2.1.kept h, r.2.2.2.trans (h.mono r.2.2.2.size)⟩
theorem St3.more {w wr : World} {t : TypeId} {a c : List Nat} (r : St3 w wr t a c) (o : Obj) : St3 w (wr.alloc o) t a c :=
  ⟨r.1.alloc o, r.2.1.alloc o, r.2.2.1.alloc o, r.2.2.2.alloc r.2.2.2.size o⟩
theorem St3.row {w wr : World} {t : TypeId} {a c : List Nat} (r : St3 w wr t a c) (g : Nat) (us : Array Value) (hg : w.heap.size + 1 + 1 < g) (hl : g < wr.heap.size) : St3 w (wr.setRow g us) t a c :=
  ⟨r.1.rowOther g us (by omega), r.2.1.rowOther g us (by omega), r.2.2.1.rowOther g us (by omega), below_setRow r.2.2.2 (by omega) hl us⟩

/-- what lies in memory while a block is hidden -/
structure StH (w wr : World) (g1 g2 : Nat) (key b s L : List Nat) : Prop where
  st : St3 w wr 22 key b
  tab : Arr wr g1 128 (u8s s)
  lst : Arr wr g2 130 (u8s L)
  h1 : w.heap.size + 1 + 1 < g1
  h2 : g1 < g2
theorem StH.kept {w wr w' : World} {g1 g2 : Nat} {key b s L : List Nat} (r : StH w wr g1 g2 key b s L) (h : Below wr.heap.size wr w') : StH w w' g1 g2 key b s L :=
  ⟨r.st.kept h, r.tab.kept h, r.lst.kept h, r.h1, r.h2⟩
theorem StH.drew {w wr : World} {g1 g2 : Nat} {key b s L : List Nat} (r : StH w wr g1 g2 key b s L) : StH w wr.drew g1 g2 key b s L :=
  ⟨r.st.drew, r.tab, r.lst, r.h1, r.h2⟩
theorem StH.put {w wr : World} {g1 g2 : Nat} {key b s L : List Nat} (r : StH w wr g1 g2 key b s L) (c : List Nat) : StH w (wr.setRow (w.heap.size + 1) (u8s c).toArray) g1 g2 key c s L := by
  have e1 := r.h1
  have e2 := r.h2
  exact ⟨⟨r.st.1.rowOther _ _ (by omega), r.st.2.1.row _, r.st.2.2.1.rowOther _ _ (by omega), below_setRow r.st.2.2.2 (by omega) r.st.2.1.lt _⟩, r.tab.rowOther _ _ (by omega), r.lst.rowOther _ _ (by omega), e1, e2⟩
theorem StH.range {w wr : World} {g1 g2 : Nat} {key b s : List Nat} {f : Nat → List Nat} (r : StH w wr g1 g2 key b s (flF f 11)) (hf : ∀ j, (f j).length = 16) (k : Nat) (hk : k < 11) : wr.rangeAt g2 (k * 16) (u8s (f k)) := fun t x hx => by
  have ht : t < 16 := by have := (List.getElem?_eq_some_iff.1 hx).1; rwa [u8s_length, hf] at this
  rw [r.lst.cell, ← hx, Nat.mul_comm k 16]
  simp only [u8s, List.getElem?_map, flF_row hf k t ht 11 hk]

theorem szb {b : List Nat} (h : Blk b) : (Tryd.prog.info? 22).map (·.size) = some (u8s b).toArray.size := sz16 h.len
theorem szl {b : List Nat} (h : Blk b) : (Tryd.prog.info? 22).map (·.size) = some (u8s b).length := by rw [info16, u8s_length, h.len]
theorem szz {b c : List Nat} (h : Blk b) (k : Blk c) : (u8s b).toArray.size = (u8s c).toArray.size := by simp [u8s, h.len, k.len]

set_option maxHeartbeats 8000000 in
set_option maxRecDepth 100000 in
theorem Hide_of (key b T : List Nat) (w : World) (hk : Blk key) (hb : Blk b) (hT : T = hdF (rdF swT key) b 10) :
    Calls Tryd.prog 56 #[.agg (u8s key).toArray, .agg (u8s b).toArray] w fun e w' => e = .returned (.agg (u8s T).toArray) ∧ Below w.heap.size w w' := by
  obtain ⟨f, hf⟩ : ∃ f, f = rdF swT key := ⟨_, rfl⟩
  obtain ⟨L, hL⟩ : ∃ L, L = flF f 11 := ⟨_, rfl⟩
  have lL : L.length = 176 := by rw [hL, hf, flF_length (rdF_length hk.len)]
  have HK := hide hk
  have HB := hide hb
  have FB : Hid (∀ j, Blk (f j)) := by rw [hf]; exact rd_blk sw_lt hk
  have HL := hide hL
  have HRD := hide (fun v => rounds_of key swT L f v hk.len swT_length sw_lt (by rw [hf]; rfl) (by intro j; rw [hf]; rfl) (fun j => (FB.out j).len) (fun j => (FB.out j).lt) hL)
  have HT : Hid (T = hdF f b 10) := by rw [hf]; exact hT
  have HSW := hide swaps_any
  have HSU := hide (fun a c (ha : Blk a) (hc : Blk c) v => sum_c ha hc v)
  have HEA := hide (fun c (hc : Blk c) v => each_c swT_length sw_lt hc v)
  have HMO : Hid (∀ c, Blk c → ∀ v, Calls Tryd.prog 73 #[.agg (u8s c).toArray, .int .i64 1] v fun e w' => e = .returned (.agg (u8s (movL 1 c)).toArray) ∧ Below v.heap.size v w') := fun c hc v => moved_c (b := c) 1 (by omega) hc v
  have HMI : Hid (∀ c, Blk c → ∀ v, Calls Tryd.prog 75 #[.agg (u8s c).toArray, .agg #[.int .u8 2, .int .u8 3, .int .u8 1, .int .u8 1]] v fun e w' => e = .returned (.agg (u8s (mixL [2, 3, 1, 1] c)).toArray) ∧ Below v.heap.size v w') := fun c hc v => mixed_c (b := c) (fs := [2, 3, 1, 1]) rfl (fun i => getD_lt (by decide) (by omega) i) hc v
  have SL : Hid (swT.length = 256) := swT_length
  have EB := hide (eachL_blk sw_lt)
  have HS1 : Hid (∀ r, r + 1 < 10 → hdF f b (r + 1) = addL (mixL [2, 3, 1, 1] (movL 1 (eachL swT (hdF f b r)))) (f (r + 1))) := fun r hr => by rw [hdF, if_pos hr]
  have HS2 : Hid (∀ r, ¬ r + 1 < 10 → hdF f b (r + 1) = addL (movL 1 (eachL swT (hdF f b r))) (f (r + 1))) := fun r hr => by rw [hdF, if_neg hr]
  have HBB := hide (hdF_blk FB.out hb)
  have IS : Hid ((Tryd.prog.info? 128).map (·.size) = some (u8s swT).toArray.size) := by show _ = _; rw [info256]; simp [u8s, swT_length]
  have IS2 : Hid ((u8s z256).toArray.size = (u8s swT).toArray.size) := by show _ = _; simp [u8s, swT_length, z256]
  have OS := hide (one_u8s swT)
  have T1 : Hid ((Tryd.prog.info? 130).map (·.size) = some (u8s L).toArray.size) := by show _ = _; rw [info176]; simp [u8s, lL]
  have T2 : Hid ((u8s z176).toArray.size = (u8s L).toArray.size) := by show _ = _; simp [u8s, lL, z176]
  have OL := hide (one_u8s L)
  have ZZ : Hid (Blk z16) := ⟨rfl, fun i => getD_lt (by decide) (by omega) i⟩
  have Z1 := zero256
  have Z2 := zero176
  have H3 := hide (St3.start w 22 key b)
  clear lL hL hf hk hb hT
  generalize swT = SW at *
  go_enter Tryd.func56, Tryd.ntmps56
  go_wp2_with (first
    | (refine (HSW.out _).mono ?_; rintro e wa ⟨rfl, hba⟩; have Ha := hide (H3.out.kept hba); clear hba)
    | (refine wpList_store_row rfl 128 _ _ rfl wa.heap.size (u8s SW).toArray rfl rfl 128 _ (Arr.new wa _ (u8s z256)) IS.out IS2.out OS.out ?_
       have hlt : w.heap.size + 1 + 1 < wa.heap.size := Ha.out.2.2.1.lt
       have Hb := hide ((Ha.out.more (Obj.cells (u8s z256).toArray 128)).row wa.heap.size (u8s SW).toArray hlt (by simp))
       have Gb : Hid (Arr ((wa.alloc (Obj.cells (u8s z256).toArray 128)).setRow wa.heap.size (u8s SW).toArray) wa.heap.size 128 (u8s SW)) := (Arr.new wa _ (u8s z256)).row _
       generalize (wa.alloc (Obj.cells (u8s z256).toArray 128)).setRow wa.heap.size (u8s SW).toArray = wb at *
       generalize hg1 : wa.heap.size = g1 at *
       clear hg1 Ha)
    | (refine wpList_load_row rfl 22 _ rfl w.heap.size rfl 22 _ (0, 0) _ Hb.out.1 Tryd.underlying22 rfl (szb HK.out) ?_)
    | (refine wpList_load_row rfl 128 _ rfl g1 rfl 128 _ (0, 0) _ Gb.out Tryd.underlying128 rfl IS.out ?_)
    | (refine (HRD.out _).mono ?_; rintro e wc ⟨rfl, hbc⟩; have Hc := hide (Hb.out.kept hbc); have Gc := hide (Gb.out.kept hbc); clear hbc)
    | (refine wpList_store_row rfl 130 _ _ rfl wc.heap.size (u8s L).toArray rfl rfl 130 _ (Arr.new wc _ (u8s z176)) T1.out T2.out OL.out ?_
       have hlt2 : g1 < wc.heap.size := Gc.out.lt
       have Hd : Hid (StH w ((wc.alloc (Obj.cells (u8s z176).toArray 130)).setRow wc.heap.size (u8s L).toArray) g1 wc.heap.size key b SW L) := ⟨(Hc.out.more _).row _ _ (by omega) (by simp), (Gc.out.alloc _).rowOther _ _ (by omega), (Arr.new wc _ (u8s z176)).row _, hlt, hlt2⟩
       generalize (wc.alloc (Obj.cells (u8s z176).toArray 130)).setRow wc.heap.size (u8s L).toArray = wd at *
       generalize hg2 : wc.heap.size = g2 at *
       have R0 := hide (StH.range (f := f) (by rw [← HL.out]; exact Hd.out) (fun j => (FB.out j).len) 0 (by omega))
       clear hg2 Hc Gc Hb Gb)
    | (refine wpList_load_row rfl 22 _ rfl (w.heap.size + 1) rfl 22 _ (0, 0) _ Hd.out.st.2.1 Tryd.underlying22 rfl (szb HB.out) ?_)
    | (refine wpList_load_mid rfl 22 _ rfl g2 (0 * 16) rfl (u8s (f 0)) _ R0.out Tryd.underlying22 rfl (szl (FB.out 0)) ?_)
    | (refine (HSU.out _ _ HB.out (FB.out 0) _).mono ?_; rintro e we ⟨rfl, hbe⟩; have He := hide (Hd.out.kept hbe); clear hbe)
    | (refine wpList_store_row rfl 22 _ _ rfl (w.heap.size + 1) (u8s (addL b (f 0))).toArray rfl rfl 22 _ He.out.st.2.1 (szb (HB.out.add (FB.out 0))) (szz HB.out (HB.out.add (FB.out 0))) (one_u8s _) ?_
       have Hf := hide (He.out.put (addL b (f 0)))
       generalize we.setRow (w.heap.size + 1) (u8s (addL b (f 0))).toArray = wf at *
       clear He Hd R0))
  go_loopg [7] 12 (fun f0 s7 wr => ∃ (k j : Nat), s7 = .int .i64 j ∧ j = k + 1 ∧ k ≤ 10 ∧ 11 - k < f0 ∧ Hid (StH w wr g1 g2 key (hdF f b k) SW L))
  case atStart => exact ⟨0, 1, rfl, rfl, by omega, by omega, Hf⟩
  case round =>
    clear Hf
    obtain ⟨k, j, rfl, hjk, hk, hf, HR⟩ := hrel
    by_cases hlt10 : k < 10
    · have m4 : (j : Int) < 11 := by omega
      have m5 : (j : Int) ≤ 10 := by omega
      have B0 := hide (HBB.out k)
      have B1 := hide (EB.out (hdF f b k))
      have B2 := hide (B1.out.mov 1)
      have B3 := hide (B2.out.mix [2, 3, 1, 1])
      have BF := hide (FB.out j)
      have S1 : Hid (j < 10 → hdF f b j = addL (mixL [2, 3, 1, 1] (movL 1 (eachL SW (hdF f b k)))) (f j)) := by rw [hjk]; exact HS1.out k
      have S2 : Hid (¬ j < 10 → hdF f b j = addL (movL 1 (eachL SW (hdF f b k))) (f j)) := by rw [hjk]; exact HS2.out k
      have HJ := hide hjk
      have BJ := hide (HBB.out j)
      have RG : Hid (∀ (v : World) (c : List Nat), StH w v g1 g2 key c SW L → v.rangeAt g2 (j * 16) (u8s (f j))) := fun v c h => StH.range (f := f) (by rw [← HL.out]; exact h) (fun j => (FB.out j).len) j (by omega)
      have CE := hide (HEA.out (hdF f b k) B0.out)
      have CM := hide (HMO.out (eachL SW (hdF f b k)) B1.out)
      have CX := hide (HMI.out (movL 1 (eachL SW (hdF f b k))) B2.out)
      have CS1 := hide (HSU.out (mixL [2, 3, 1, 1] (movL 1 (eachL SW (hdF f b k)))) (f j) B3.out BF.out)
      have CS2 := hide (HSU.out (movL 1 (eachL SW (hdF f b k))) (f j) B2.out BF.out)
      clear hjk HEA HMO HMI HSU HSW HRD HS1 HS2 HBB EB
      generalize hdF f b k = B at *
      generalize eachL SW B = E at *
      generalize movL 1 E = M at *
      generalize mixL [2, 3, 1, 1] M = X at *
      have IF := hide (szl BF.out)
      by_cases hj10 : j < 10
      · have i10 : (j : Int) < 10 := by omega
        have HV := hide (S1.out hj10)
        have HSF := CS1
        rw [← HV.out] at HSF
        clear CS1 CS2
        go_wp2_with (first | (refine wpList_load_row rfl 22 _ rfl (w.heap.size + 1) rfl 22 _ (0, 0) _ HR.out.st.2.1 Tryd.underlying22 rfl (szb B0.out) ?_) | (refine wpList_load_row rfl 128 _ rfl g1 rfl 128 _ (0, 0) _ HR.out.tab Tryd.underlying128 rfl IS.out ?_))
        refine (CE.out _).mono ?_
        rintro e w1 ⟨rfl, hb1⟩
        have H1 := hide (HR.out.kept hb1)
        clear hb1 HR
        go_wp2_with fail
        refine (CM.out _).mono ?_
        rintro e w2 ⟨rfl, hb2⟩
        have H2 := hide (H1.out.kept hb2)
        clear hb2 H1
        go_wp2_with (first | (refine wpList_store_row rfl 22 _ _ rfl (w.heap.size + 1) (u8s M).toArray rfl rfl 22 _ H2.out.st.2.1 (szb B2.out) (szz B0.out B2.out) (one_u8s _) ?_; have H3 := hide (H2.out.put M); generalize w2.setRow (w.heap.size + 1) (u8s M).toArray = w3 at *; clear H2) | (refine wpList_load_row rfl 22 _ rfl (w.heap.size + 1) rfl 22 _ (0, 0) _ H3.out.st.2.1 Tryd.underlying22 rfl (szb B2.out) ?_))
        refine (CX.out _).mono ?_
        rintro e w4 ⟨rfl, hb4⟩
        have H4 := hide (H3.out.kept hb4)
        clear hb4 H3
        go_wp2_with (refine wpList_store_row rfl 22 _ _ rfl (w.heap.size + 1) (u8s X).toArray rfl rfl 22 _ H4.out.st.2.1 (szb B3.out) (szz B2.out B3.out) (one_u8s _) ?_; have H5 := hide (H4.out.put X); generalize w4.setRow (w.heap.size + 1) (u8s X).toArray = w5 at *; clear H4)
        refine wp_region_held_drew (S := fun w' => Hid (w'.rangeAt g2 (j * 16) (u8s (f j)))) (by kernel_rfl) (hide (RG.out _ _ H5.out.drew)) (fun hHeld => ?_)
        refine take_dstH (i := 1) (d := 30) (v := ?_) rfl rfl (by kernel_rfl) (by kernel_rfl) (by kernel_rfl) (fun _ _ _ h => h) (by rfl) hHeld ?_ ?_
        rotate_left
        · intro wZ hSw; clear hSw; go_simp; first | (with_reducible rfl) | (rw [if_pos (by omega)]; with_reducible rfl) | skip
        try simp only [Act.put, List.setIfInBounds_toArray, List.set_cons_zero, List.set_cons_succ]
        refine take_dstH (i := 2) (d := 31) (v := ?_) rfl rfl (by kernel_rfl) (by kernel_rfl) (by kernel_rfl) (fun _ _ _ h => h) (by rfl) hHeld ?_ ?_
        rotate_left
        · intro wZ hSw; clear hSw; go_simp; first | (with_reducible rfl) | (rw [if_pos (by omega)]; with_reducible rfl) | skip
        try simp only [Act.put, List.setIfInBounds_toArray, List.set_cons_zero, List.set_cons_succ]
        refine take_dstH (i := 3) (d := 32) (v := ?_) rfl rfl (by kernel_rfl) (by kernel_rfl) (by kernel_rfl) (fun _ _ _ h => h) (by rfl) hHeld ?_ ?_
        rotate_left
        · intro wZ hSw; refine exec_load_mid 22 (.tmp 31) ?_ g2 (j * 16) ?_ (u8s (f j)) _ hSw.out Tryd.underlying22 rfl IF.out <;> rfl
        try simp only [Act.put, List.setIfInBounds_toArray, List.set_cons_zero, List.set_cons_succ]
        refine wpAnyH_ready (rs := [0]) (by kernel_rfl) (by simp) ?_
        refine (AllReadyH.cons rfl (fun K hK => ?_) AllReadyH.nil)
        refine wp_load_dst rfl 22 (.tmp 3) rfl (w.heap.size + 1) rfl 22 _ (0, 0) _ H5.out.st.2.1 Tryd.underlying22 rfl (szb B3.out) ?_
        refine hK.out _ _ ?_ (fun hHeld => ?_)
        · exact hHeld
        clear hK K
        try simp only [Act.put, List.setIfInBounds_toArray, List.set_cons_zero, List.set_cons_succ]
        refine wpAnyH_ready (rs := [4]) (by kernel_rfl) (by simp) ?_
        refine (AllReadyH.cons rfl (fun K hK => ?_) AllReadyH.nil)
        go_simp
        refine (HSF.out _).mono ?_; rintro e wa ⟨rfl, hba⟩; have H6 := hide (H5.out.drew.kept hba); clear hba
        go_wp2_with fail
        refine hK.out _ _ ?_ (fun hHeld => ?_)
        · exact hide (RG.out _ _ H6.out)
        clear hK K
        try simp only [Act.put, List.setIfInBounds_toArray, List.set_cons_zero, List.set_cons_succ]
        refine wpAnyH_ready (rs := [5]) (by kernel_rfl) (by simp) ?_
        refine (AllReadyH.cons rfl (fun K hK => ?_) AllReadyH.nil)
        refine wp_store_dst rfl 22 (.tmp 3) (.tmp 33) rfl (w.heap.size + 1) _ rfl rfl 22 _ H6.out.st.2.1 (szb BJ.out) (szz B3.out BJ.out) (one_u8s _) ?_; have H7 := hide (H6.out.put (hdF f b j))
        refine hK.out _ _ ?_ (fun hHeld => ?_)
        · exact hide (RG.out _ _ H7.out)
        clear hK K
        try simp only [Act.put, List.setIfInBounds_toArray, List.set_cons_zero, List.set_cons_succ]
        refine wpAnyH_done (by kernel_rfl) ?_ _
        clear hHeld
        go_wp2
        go_roundg (11 - k)
        case measure =>
          have hjk := HJ.out
          omega
        case rel =>
          have hjk := HJ.out
          exact ⟨j, j + 1, by go_num, rfl, by omega, by omega, H7⟩
      · have i10 : ¬ (j : Int) < 10 := by omega
        have HV := hide (S2.out hj10)
        have HSF := CS2
        rw [← HV.out] at HSF
        clear CS1 CS2
        go_wp2_with (first | (refine wpList_load_row rfl 22 _ rfl (w.heap.size + 1) rfl 22 _ (0, 0) _ HR.out.st.2.1 Tryd.underlying22 rfl (szb B0.out) ?_) | (refine wpList_load_row rfl 128 _ rfl g1 rfl 128 _ (0, 0) _ HR.out.tab Tryd.underlying128 rfl IS.out ?_))
        refine (CE.out _).mono ?_
        rintro e w1 ⟨rfl, hb1⟩
        have H1 := hide (HR.out.kept hb1)
        clear hb1 HR
        go_wp2_with fail
        refine (CM.out _).mono ?_
        rintro e w2 ⟨rfl, hb2⟩
        have H2 := hide (H1.out.kept hb2)
        clear hb2 H1
        go_wp2_with (refine wpList_store_row rfl 22 _ _ rfl (w.heap.size + 1) (u8s M).toArray rfl rfl 22 _ H2.out.st.2.1 (szb B2.out) (szz B0.out B2.out) (one_u8s _) ?_; have H3 := hide (H2.out.put M); generalize w2.setRow (w.heap.size + 1) (u8s M).toArray = w3 at *; clear H2)
        have H5 := H3
        clear H3
        refine wp_region_held_drew (S := fun w' => Hid (w'.rangeAt g2 (j * 16) (u8s (f j)))) (by kernel_rfl) (hide (RG.out _ _ H5.out.drew)) (fun hHeld => ?_)
        refine take_dstH (i := 1) (d := 30) (v := ?_) rfl rfl (by kernel_rfl) (by kernel_rfl) (by kernel_rfl) (fun _ _ _ h => h) (by rfl) hHeld ?_ ?_
        rotate_left
        · intro wZ hSw; clear hSw; go_simp; first | (with_reducible rfl) | (rw [if_pos (by omega)]; with_reducible rfl) | skip
        try simp only [Act.put, List.setIfInBounds_toArray, List.set_cons_zero, List.set_cons_succ]
        refine take_dstH (i := 2) (d := 31) (v := ?_) rfl rfl (by kernel_rfl) (by kernel_rfl) (by kernel_rfl) (fun _ _ _ h => h) (by rfl) hHeld ?_ ?_
        rotate_left
        · intro wZ hSw; clear hSw; go_simp; first | (with_reducible rfl) | (rw [if_pos (by omega)]; with_reducible rfl) | skip
        try simp only [Act.put, List.setIfInBounds_toArray, List.set_cons_zero, List.set_cons_succ]
        refine take_dstH (i := 3) (d := 32) (v := ?_) rfl rfl (by kernel_rfl) (by kernel_rfl) (by kernel_rfl) (fun _ _ _ h => h) (by rfl) hHeld ?_ ?_
        rotate_left
        · intro wZ hSw; refine exec_load_mid 22 (.tmp 31) ?_ g2 (j * 16) ?_ (u8s (f j)) _ hSw.out Tryd.underlying22 rfl IF.out <;> rfl
        try simp only [Act.put, List.setIfInBounds_toArray, List.set_cons_zero, List.set_cons_succ]
        refine wpAnyH_ready (rs := [0]) (by kernel_rfl) (by simp) ?_
        refine (AllReadyH.cons rfl (fun K hK => ?_) AllReadyH.nil)
        refine wp_load_dst rfl 22 (.tmp 3) rfl (w.heap.size + 1) rfl 22 _ (0, 0) _ H5.out.st.2.1 Tryd.underlying22 rfl (szb B2.out) ?_
        refine hK.out _ _ ?_ (fun hHeld => ?_)
        · exact hHeld
        clear hK K
        try simp only [Act.put, List.setIfInBounds_toArray, List.set_cons_zero, List.set_cons_succ]
        refine wpAnyH_ready (rs := [4]) (by kernel_rfl) (by simp) ?_
        refine (AllReadyH.cons rfl (fun K hK => ?_) AllReadyH.nil)
        go_simp
        refine (HSF.out _).mono ?_; rintro e wa ⟨rfl, hba⟩; have H6 := hide (H5.out.drew.kept hba); clear hba
        go_wp2_with fail
        refine hK.out _ _ ?_ (fun hHeld => ?_)
        · exact hide (RG.out _ _ H6.out)
        clear hK K
        try simp only [Act.put, List.setIfInBounds_toArray, List.set_cons_zero, List.set_cons_succ]
        refine wpAnyH_ready (rs := [5]) (by kernel_rfl) (by simp) ?_
        refine (AllReadyH.cons rfl (fun K hK => ?_) AllReadyH.nil)
        refine wp_store_dst rfl 22 (.tmp 3) (.tmp 33) rfl (w.heap.size + 1) _ rfl rfl 22 _ H6.out.st.2.1 (szb BJ.out) (szz B2.out BJ.out) (one_u8s _) ?_; have H7 := hide (H6.out.put (hdF f b j))
        refine hK.out _ _ ?_ (fun hHeld => ?_)
        · exact hide (RG.out _ _ H7.out)
        clear hK K
        try simp only [Act.put, List.setIfInBounds_toArray, List.set_cons_zero, List.set_cons_succ]
        refine wpAnyH_done (by kernel_rfl) ?_ _
        clear hHeld
        go_wp2
        go_roundg (11 - k)
        case measure =>
          have hjk := HJ.out
          omega
        case rel =>
          have hjk := HJ.out
          exact ⟨j, j + 1, by go_num, rfl, by omega, by omega, H7⟩
    · have e : k = 10 := by omega
      subst e
      subst hjk
      rw [← HT.out] at HR
      have BT : Hid (Blk T) := by rw [HT.out]; exact HBB.out 10
      have K0 := hide HR.out.st.2.1
      have K2 := hide HR.out.st.2.2.1
      have KB := hide HR.out.st.2.2.2
      clear HR
      go_wp2_with (first
        | (refine wpList_load_row rfl 22 _ rfl (w.heap.size + 1) rfl 22 _ (0, 0) _ K0.out Tryd.underlying22 rfl (szb BT.out) ?_)
        | (refine wpList_store_row rfl 22 _ _ rfl (w.heap.size + 1 + 1) _ rfl rfl 22 _ K2.out (szb BT.out) (szz ZZ.out BT.out) (one_u8s _) ?_))
      exact bodyPost_ret (v := .agg (u8s T).toArray) (results_cell_row Tryd.results56 _ _ (w.heap.size + 1 + 1) 22 _ (0, 0) _ rfl (K2.out.row _) Tryd.underlying22 rfl (szb BT.out)) rfl ⟨rfl, below_setRow KB.out (by omega) K2.out.lt _⟩

end Go.Proofs.YtbmjlofehbbkbaaDoor

/- Blocks that are handed in, opened; arrays held against each other as one operation; arrays of arrays. -/
namespace Go.Proofs.YtbmjlofehbbkbaaDoor
open Go.ChangeShapes Go.WideShapes Go.ChangeAt Go.WideMaps Go.WideElems Go.RowKit

/-- an array of integers that is handed in, opened -/
theorem open_ints_arr {H : Type} {enc : TypeId × Value → H} {P : Program} {w : World} {base : Nat} {sp : Nat → Bool} {held : Bool} {t e : TypeId} {n : Nat} {k : IntKind} {v : Value} {d : DataW H} {p : List MemPlace}
    (ht : P.underlying t = some (.array n e)) (he : P.underlying e = some (.int k)) (hce : P.cellsOf e = 1) (hct : P.cellsOf t = n) (h : DataW.Trod enc P w base sp held t v d p) :
    ∃ zs : List Int, v.cells.toList = zs.map (Value.int k) ∧ zs.length = n ∧ (∀ z ∈ zs, (Lit.int k z).wf = true) ∧ ∀ x ∈ p, False := by
  obtain ⟨fuel, hf⟩ := h
  obtain ⟨xs, m, rfl, hx, hcl, hxl, hel⟩ := DataW.trod_array ht hf
  rw [hct] at hcl
  rw [hce] at hel
  have each : ∀ i, i < n → ∃ z, v.cells.toList[i]? = some (Value.int k z) ∧ (Lit.int k z).wf = true ∧ ∃ y, xs[i]? = some y ∧ y.2 = [] := fun i hi => by
    have h1 := hel i hi
    have hxi : i < xs.length := by omega
    rw [List.getElem?_eq_getElem hxi] at h1
    obtain ⟨z, hz, hy, hwf⟩ := DataW.trod_int he h1
    refine ⟨z, ?_, hwf, xs[i], List.getElem?_eq_getElem hxi, by rw [hy]⟩
    have hci : i < v.cells.toList.length := by omega
    rw [Nat.mul_one, List.drop_eq_getElem_cons hci] at hz
    simp at hz
    rw [List.getElem?_eq_getElem hci]
    simp [hz]
  let f : Nat → Int := fun i => match v.cells.toList[i]? with | some (Value.int _ z) => z | _ => 0
  refine ⟨(List.range n).map f, ?_, by simp, ?_, ?_⟩
  · apply List.ext_getElem?
    intro i
    by_cases hi : i < n
    · obtain ⟨z, hz, _⟩ := each i hi
      have hz' : v.cells[i]? = some (Value.int k z) := by simpa using hz
      rw [hz]
      simp [hi, f, hz']
    · rw [List.getElem?_eq_none (by omega), List.getElem?_eq_none (by simp; omega)]
  · intro z hz
    obtain ⟨i, hi, rfl⟩ := List.mem_map.1 hz
    obtain ⟨z', hz', hwf, _⟩ := each i (by simpa using hi)
    simp only [f, hz']
    exact hwf
  · intro x hxp
    have hp := congrArg Prod.snd hx
    simp only at hp
    rw [hp] at hxp
    obtain ⟨y, hy, hxy⟩ := List.mem_flatMap.1 hxp
    obtain ⟨i, hi, rfl⟩ := List.mem_iff_getElem.1 hy
    obtain ⟨_, _, _, y', hy', he'⟩ := each i (by omega)
    rw [List.getElem?_eq_getElem hi] at hy'
    cases hy'
    rw [he'] at hxy
    cases hxy

theorem agg_arr {P : Program} {W : World} {r : Reach} {b0 : Nat} {t e : TypeId} {n : Nat} {v : Value} (ht : P.underlying t = some (.array n e)) (h : Value.okWide P W r b0 t v) : ∃ cs, v = .agg cs := by
  cases v <;> first | exact ⟨_, rfl⟩ | (exfalso; simp [Value.okWide, ht] at h)


set_option maxRecDepth 100000 in
/-- a block that is handed in -/
theorem open_blk {H : Type} {enc : TypeId × Value → H} {W : World} {r : Reach} {b0 base : Nat} {sp : Nat → Bool} {held : Bool} {v : Value} {d : DataW H} {p : List MemPlace}
    (hv : Value.okWide Tryd.prog W r b0 22 v) (h : DataW.Trod enc Tryd.prog W base sp held 22 v d p) : ∃ x : List Nat, v = .agg (u8s x).toArray ∧ Blk x ∧ ∀ y ∈ p, False := by
  obtain ⟨c0, rfl⟩ := agg_arr Tryd.underlying22 hv
  obtain ⟨z0, hz0, zl0, zw0, zp0⟩ := open_ints_arr Tryd.underlying22 Tryd.underlying5 cells8 cells16 h
  have bd0 : ∀ z ∈ z0, 0 ≤ z ∧ z < 256 := fun z hz => by
    have h := zw0 z hz
    have m1 : IntKind.u8.min = 0 := rfl
    have m2 : IntKind.u8.max = 255 := rfl
    simp only [Lit.wf, m1, m2, Bool.and_eq_true, decide_eq_true_eq] at h
    omega
  refine ⟨z0.map Int.toNat, ?_, ⟨by simpa using zl0, fun i => getD_lt (fun x hx => ?_) (by omega) i⟩, zp0⟩
  · congr 1
    apply Array.toList_inj.1
    have : c0.toList = z0.map (Value.int .u8) := hz0
    rw [this]
    simp only [u8s, List.map_map]
    apply List.map_congr_left
    intro z hz
    have := bd0 z hz
    simp only [Function.comp]
    rw [Int.toNat_of_nonneg this.1]
  · obtain ⟨z, hz, rfl⟩ := List.mem_map.1 hx
    have := bd0 z hz
    omega

theorem wf_byte {a : Int} (h : (Lit.int .u8 a).wf = true) : ∃ n : Nat, a = n ∧ n < 256 := by
  have m1 : IntKind.u8.min = 0 := rfl
  have m2 : IntKind.u8.max = 255 := rfl
  simp only [Lit.wf, m1, m2, Bool.and_eq_true, decide_eq_true_eq] at h
  exact ⟨a.toNat, by omega, by omega⟩

/-- two blocks -/
theorem eq_blk {a b : List Nat} (ha : Blk a) (hb : Blk b) (w : World) : (Op.equalIn 10000 22 (.agg (u8s a).toArray) (.agg (u8s b).toArray)).run Tryd.prog w = .ok (decide (a = b)) w :=
  run_eq_block a b ha.len hb.len ha.mem hb.mem w

theorem flat_chunks {α : Type} (m : Nat) : ∀ (n : Nat) (l : List α), l.length = n * m → ((List.range n).map fun i => (l.drop (i * m)).take m).flatten = l := by
  intro n
  induction n with
  | zero => intro l hl; simp at hl; simp [hl]
  | succ n ih =>
    intro l hl
    rw [List.range_succ_eq_map, List.map_cons, List.map_map, List.flatten_cons]
    have e : ((fun i => (l.drop (i * m)).take m) ∘ Nat.succ) = fun i => ((l.drop m).drop (i * m)).take m := by
      funext i
      simp only [Function.comp, List.drop_drop]
      congr 2
      rw [Nat.succ_mul]; omega
    rw [e, ih (l.drop m) (by rw [List.length_drop, hl, Nat.succ_mul]; omega)]
    simp

/-- arrays of arrays of integers, as lists of literals -/
theorem lits_of_rows {P : Program} {t e i : TypeId} {n m : Nat} {k : IntKind} (ht : P.underlying t = some (.array n e)) (he : P.underlying e = some (.array m i)) (hi : P.underlying i = some (.int k)) (hci : P.cellsOf i = 1) (hce : P.cellsOf e = m) (hct : P.cellsOf t = n * m)
    (zs : List Int) (hl : zs.length = n * m) (hw : ∀ z ∈ zs, (Lit.int k z).wf = true) : P.keyLits 3 t (zs.map (Value.int k)) = some (zs.map (Lit.int k)) := by
  have h1 : (List.range n).mapM (fun j => P.keyLits 2 e (((zs.map (Value.int k)).drop (j * m)).take m)) = some ((List.range n).map fun j => ((zs.map (Lit.int k)).drop (j * m)).take m) := by
    refine mapM_some _ _ _ fun j hj => ?_
    have hjn : j < n := by simpa using hj
    have e1 : ((zs.map (Value.int k)).drop (j * m)).take m = ((zs.drop (j * m)).take m).map (Value.int k) := by rw [List.map_take, List.map_drop]
    have e2 : ((zs.map (Lit.int k)).drop (j * m)).take m = ((zs.drop (j * m)).take m).map (Lit.int k) := by rw [List.map_take, List.map_drop]
    rw [e1, e2]
    have hlen : ((zs.drop (j * m)).take m).length = m := by
      rw [List.length_take, List.length_drop, hl]
      have : j * m + m ≤ n * m := by rw [← Nat.succ_mul]; exact Nat.mul_le_mul_right m hjn
      omega
    exact lits_of_ints he hi hci hce _ hlen fun z hz => hw z (List.mem_of_mem_drop (List.mem_of_mem_take hz))
  have h2 : (P.keyLits 3 t (zs.map (Value.int k))) = ((List.range n).mapM fun j => P.keyLits 2 e (((zs.map (Value.int k)).drop (j * P.cellsOf e)).take (P.cellsOf e))).map List.flatten := by
    conv => lhs; unfold Program.keyLits
    simp only [ht]
    rw [if_pos (by rw [List.length_map, hl, hct])]
  rw [h2, hce, h1, Option.map_some, flat_chunks m n _ (by rw [List.length_map, hl])]

/-- two arrays of arrays of integers held against each other -/
theorem run_eq_rows {P : Program} {t e i : TypeId} {n m : Nat} {k : IntKind} (ht : P.underlying t = some (.array n e)) (he : P.underlying e = some (.array m i)) (hi : P.underlying i = some (.int k)) (hci : P.cellsOf i = 1) (hce : P.cellsOf e = m) (hct : P.cellsOf t = n * m)
    (a : List Int) (ha : a.length = n * m) (wa : ∀ z ∈ a, (Lit.int k z).wf = true) (w : World) : (Op.equalIn 10000 t (.agg (a.map (Value.int k)).toArray) (.agg (a.map (Value.int k)).toArray)).run P w = .ok true w := by
  have hk : P.keyTypeAt 3 t = true := by
    unfold Program.keyTypeAt
    simp only [ht]
    unfold Program.keyTypeAt
    simp only [he]
    unfold Program.keyTypeAt
    simp only [hi]
  have hlits : P.keyLits 3 t (Value.agg (a.map (Value.int k)).toArray).cells.toList = some (a.map (Lit.int k)) := by simpa [Value.cells] using lits_of_rows ht he hi hci hce hct a ha wa
  obtain ⟨r, hr, hiff⟩ := run_equalIn_deep 9997 3 t hk w 3 3 (.agg (a.map (Value.int k)).toArray) (.agg (a.map (Value.int k)).toArray) (a.map (Lit.int k)) (a.map (Lit.int k))
    (by simp [Value.formed, ht, hct, ha]) (by simp [Value.formed, ht, hct, ha]) hlits hlits
  rw [hr]
  congr 1
  exact hiff.2 rfl

end Go.Proofs.YtbmjlofehbbkbaaDoor
