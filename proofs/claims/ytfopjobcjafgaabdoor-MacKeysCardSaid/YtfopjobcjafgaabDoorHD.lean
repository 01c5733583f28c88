/-
  A walk: Sum of the package: the digest of pieces, one behind the other.
-/
import Derived.Test.YtfopjobcjafgaabDoorHC
namespace Go.Proofs.YtfopjobcjafgaabDoor
open Go.RowKit

/-- so many pieces, one behind the other -/
def joinF (B : Nat → List Nat) : Nat → List Nat
  | 0 => []
  | i + 1 => joinF B i ++ B i

theorem joinF_mono (B : Nat → List Nat) {i k : Nat} (h : i ≤ k) : (joinF B i).length ≤ (joinF B k).length := by
  induction k with
  | zero => have : i = 0 := by omega
            subst this; exact Nat.le_refl _
  | succ k ih =>
    by_cases e : i = k + 1
    · subst e; exact Nat.le_refl _
    · have := ih (by omega); simp [joinF]; omega

/-- a piece that is handed in -/
def Piece (w : World) (p : Option Addr) (c : Nat) (b : List Nat) : Prop :=
  BI w p b ∧ (p = none → c = 0) ∧ BytesN b ∧ b.length ≤ c ∧ c ≤ maxLen

set_option maxHeartbeats 4000000 in
set_option maxRecDepth 100000 in
theorem ssum_of (sp : Option Addr) (k cc : Nat) (P : Nat → Option Addr) (C : Nat → Nat) (B : Nat → List Nat) (D : List Nat) (w : World)
    (hsl : k = 0 ∨ ∃ q o, sp = some ⟨q, o, none⟩ ∧ ∀ i, i < k → w.cell? ⟨q, o + i, none⟩ = some (.slice (P i) (B i).length (C i)))
    (hpc : ∀ i, i < k → Piece w (P i) (C i) (B i)) (htot : (joinF B k).length ≤ 100000) (hk : k ≤ 100000) (hL : Laid w)
    (hD : sumF (joinF B k) = D) :
    Calls Tryd.prog 13 #[.slice sp k cc] w fun e w' => e = .returned (.agg (u8s D).toArray) ∧ Below w.heap.size w w' := by
  have HPC := hide hpc
  have HSL := hide hsl
  have HL := hide hL
  have hL2 := hL.size
  have HT := hide htot
  have hDl : D.length = 32 := by rw [← hD]; exact digestF_length _
  have DL := hide hDl
  have HD := hide (fun (g : Nat) (v : World) (h1 : MadeH v g (joinF B k)) (h4 : Laid v) => hsum_of (.pointer (some ⟨g, 0, none⟩)) (joinF B k) D v (Or.inl ⟨g, rfl, h1⟩) htot h4 hD)
  have HJM : Hid (∀ i, i ≤ k → (joinF B i).length ≤ 100000) := fun i hi => Nat.le_trans (joinF_mono B hi) htot
  have HJS : Hid (∀ i, joinF B (i + 1) = joinF B i ++ B i) := fun i => rfl
  have HJ0 : Hid (joinF B 0 = []) := rfl
  clear hpc hsl hL htot hD hDl
  generalize joinF B = J at *
  go_enter Tryd.func13, Tryd.ntmps13
  go_upto_region 1 with fail
  rw [← u8s_zeros]
  have B1 : Hid (Below w.heap.size w (w.alloc Z32)) := (Below.refl _ _).alloc (Nat.le_refl _) _
  have A1 := hide (Arr.new w 25 (u8s (List.replicate 32 0)))
  have hs1 : Hid ((w.alloc Z32).heap.size = w.heap.size + 1) := by show _ = _; simp
  generalize w.alloc Z32 = w1 at *
  go_wp2_with fail
  refine (new_any w1 (HL.out.keptB (B := w.heap.size) hL2 B1.out)).mono ?_
  rintro e w2 ⟨rfl, hw2⟩
  have X2 := hide (show MadeH w2 w1.heap.size [] from by rw [hw2]; exact made_new)
  have A2 := hide (show Arr w2 w.heap.size 25 (u8s (List.replicate 32 0)) from by rw [hw2]; exact A1.out.alloc _)
  have B2 := hide (show Below w.heap.size w w2 from by rw [hw2]; exact B1.out.alloc B1.out.size _)
  clear hw2 A1 B1
  have hs1' := hs1.out
  generalize w1.heap.size = X at *
  have HX1 := hide hs1'
  clear hs1' hs1
  go_wp2
  go_loopg [9, 5] (k + 1) (fun f s9 _ wr => ∃ (i : Nat), s9 = .int .i64 i ∧ i ≤ k ∧ k - i < f ∧ MadeH wr X (J i) ∧ Arr wr w.heap.size 25 (u8s (List.replicate 32 0)) ∧ Below w.heap.size w wr)
  case atStart => exact ⟨0, rfl, by omega, by omega, by rw [HJ0.out]; exact X2.out, A2.out, B2.out⟩
  case round =>
    clear X2 A2 B2
    obtain ⟨i, rfl, hi, hf, hX, hA, hB⟩ := hrel
    have HX := hide hX
    have HA := hide hA
    have HB := hide hB
    clear hX hA hB
    by_cases hik : i < k
    · rcases HSL.out with h0 | ⟨q, o, rfl, hcell⟩
      · omega
      have hq := hcell i hik
      have hq' := (HB.out.cell (block_lt_of_cell hq)).trans hq
      obtain ⟨pb1, pb2, pb3, pb4, pb5⟩ := HPC.out i hik
      have HW := hide (write_any X (J i) (P i) (C i) (B i) wr HX.out (pb1.kept HB.out) pb2 (fun a ha hne => by have h1 := bi_lt pb1 hne a ha; have h2 := HX1.out; omega) pb3 pb4 pb5
        (by have h1 := HJM.out (i + 1) (by omega); rw [HJS.out, List.length_append] at h1; omega) (HL.out.keptB (B := w.heap.size) hL2 HB.out) (by have := HX1.out; omega))
      clear hq hcell pb1 pb2 pb3 pb4 pb5
      have hik' : (i : Int) < (k : Int) := by omega
      go_wp2_with fail
      refine HW.out.mono ?_
      rintro e w5 ⟨rfl, hX5, hg5⟩
      rw [← HJS.out] at hX5
      have X5 := hide hX5
      have A5 := hide (HA.out.grown' hg5 (by have := HX1.out; omega))
      have B5 : Hid (Below w.heap.size w w5) := HB.out.grown hg5 HB.out.size (by intro k hk; cases hk; have := HX1.out; omega)
      clear hX5 hg5 HW hq'
      go_wp2
      go_roundg (k - i)
      case measure => omega
      case rel => exact ⟨i + 1, by go_num, by omega, by omega, X5.out, A5.out, B5.out⟩
    · have e : i = k := by omega
      subst e
      have hik' : ¬ (i : Int) < (i : Int) := by omega
      go_wp2_with fail
      refine (HD.out X wr HX.out (HL.out.keptB (B := w.heap.size) hL2 HB.out)).mono ?_
      rintro e w6 ⟨rfl, hb6⟩
      have A6 := hide (HA.out.kept hb6)
      have B6 : Hid (Below w.heap.size w w6) := HB.out.trans (hb6.mono HB.out.size)
      have HI32 : Hid ((Tryd.prog.info? 25).map (·.size) = some (u8s D).toArray.size) := by show _ = _; rw [info35]; simp [u8s, DL.out]
      have HO32 : Hid ((u8s (List.replicate 32 0)).toArray.size = (u8s D).toArray.size) := by show _ = _; simp [u8s, DL.out]
      clear hb6 HA HB HX
      go_wp2_with (refine wpList_store_row rfl 25 _ _ rfl w.heap.size _ rfl rfl 25 _ A6.out HI32.out HO32.out (all_u8s _) ?_)
      exact bodyPost_ret (v := .agg (u8s D).toArray) (results_cell_row Tryd.results13 _ _ w.heap.size 25 _ (0, 0) _ rfl (A6.out.row _) Tryd.underlying25 rfl HI32.out) rfl ⟨rfl, below_setRow B6.out (Nat.le_refl _) A6.out.lt _⟩

end Go.Proofs.YtfopjobcjafgaabDoor
