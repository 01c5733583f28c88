/-
  A walk: the known rows.
-/
import Derived.Test.YtkafnkofanocpaaEJ
namespace Go.Proofs.Ytkafnkofanocpaa
open Go.RowKit

def knK : List Nat := [0, 1, 2, 3, 4, 5, 6, 7, 8, 9, 10, 11, 12, 13, 14, 15]
def knB : List Nat := [0, 17, 34, 51, 68, 85, 102, 119, 136, 153, 170, 187, 204, 221, 238, 255]
def knX : List Nat := [105, 196, 224, 216, 106, 123, 4, 48, 216, 205, 183, 128, 112, 180, 197, 90]
set_option maxRecDepth 100000 in
theorem kn_is : hdF (rdF swT knK) knB 10 = knX := by decide +kernel
theorem knK_blk : Blk knK := ⟨rfl, fun i => getD_lt (by decide) (by omega) i⟩
theorem knB_blk : Blk knB := ⟨rfl, fun i => getD_lt (by decide) (by omega) i⟩
theorem knX_blk : Blk knX := ⟨rfl, fun i => getD_lt (by decide) (by omega) i⟩
theorem sw_53 : swF 83 = 237 := by decide +kernel
theorem tm_57 : tmF 87 131 = 193 := by decide +kernel

/-- what lies in memory while the known rows are made -/
def StW (w wr : World) (k b : List Nat) : Prop :=
  Arr wr w.heap.size 26 (u8s k) ∧ Arr wr (w.heap.size + 1) 26 (u8s b) ∧ Below w.heap.size w wr
theorem StW.setK {w wr : World} {k b : List Nat} (r : StW w wr k b) (i x : Nat) : StW w (wr.setCell ⟨w.heap.size, i, none⟩ (.int .u8 ((x : Nat) : Int))) (k.set i x) b := by
  obtain ⟨h0, h1, h2⟩ := r
  refine ⟨?_, h1.other _ _ (show w.heap.size + 1 ≠ w.heap.size by omega), h2.setCell (show w.heap.size ≤ w.heap.size by omega) _⟩
  have := h0.set i (.int .u8 ((x : Nat) : Int))
  rw [u8s_set] at this
  exact this
theorem StW.setB {w wr : World} {k b : List Nat} (r : StW w wr k b) (i x : Nat) : StW w (wr.setCell ⟨w.heap.size + 1, i, none⟩ (.int .u8 ((x : Nat) : Int))) k (b.set i x) := by
  obtain ⟨h0, h1, h2⟩ := r
  refine ⟨h0.other _ _ (show w.heap.size ≠ w.heap.size + 1 by omega), ?_, h2.setCell (show w.heap.size ≤ w.heap.size + 1 by omega) _⟩
  have := h1.set i (.int .u8 ((x : Nat) : Int))
  rw [u8s_set] at this
  exact this

set_option maxHeartbeats 4000000 in
set_option maxRecDepth 100000 in
theorem known_of (K B X : List Nat) (w : World) (hK : Blk K) (hB : Blk B) (hX : Blk X) (hKi : ∀ i, i < 16 → K.getD i 0 = i) (hBi : ∀ i, i < 16 → B.getD i 0 = 17 * i)
    (hH : ∀ v : World, Calls Try.prog 19 #[.agg (u8s K).toArray, .agg (u8s B).toArray] v fun e w' => e = .returned (.agg (u8s X).toArray) ∧ Below v.heap.size v w')
    (x0 : X.getD 0 0 = 105) (x1 : X.getD 1 0 = 196) (x2 : X.getD 2 0 = 224) (x3 : X.getD 3 0 = 216) :
    Calls Try.prog 15 #[] w fun e w' => e = .returned (.bool true) ∧ Below w.heap.size w w' := by
  have HK := hide hK
  have HB := hide hB
  have HX := hide hX
  have KI := hide hKi
  have BI := hide hBi
  have HH := hide hH
  have X0 := hide x0
  have X1 := hide x1
  have X2 := hide x2
  have X3 := hide x3
  have HSW : Hid (∀ v, Calls Try.prog 13 #[.int .u8 83] v fun e w' => e = .returned (.int .u8 237) ∧ w' = v) := by
    have h := fun v => swap_any 83 (by omega) v
    rw [sw_53] at h
    exact h
  have HTM : Hid (∀ v, Calls Try.prog 9 #[.int .u8 87, .int .u8 131] v fun e w' => e = .returned (.int .u8 193) ∧ w' = v) := by
    have h := fun v => times_any 87 131 (by omega) (by omega) v
    rw [tm_57] at h
    exact h
  clear hK hB hX hKi hBi hH x0 x1 x2 x3
  go_enter Try.func15, Try.ntmps15
  go_wp2
  go_loopg [3] 17 (fun f s3 wr => ∃ (i : Nat), s3 = .int .i64 i ∧ i ≤ 16 ∧ 16 - i < f ∧ Hid (StW w wr (part K 16 i) (part B 16 i)))
  case atStart =>
    refine ⟨0, rfl, by omega, by omega, ?_⟩
    rw [part_zero16, part_zero16]
    exact ⟨(Arr.new w _ (u8s z16)).alloc _, Arr.newAt (w.alloc _) _ (u8s z16) _ (by simp), ((Below.refl _ _).alloc (Nat.le_refl _) _).alloc (by simp) _⟩
  case round =>
    obtain ⟨i, rfl, hi, hf, HR⟩ := hrel
    by_cases hlt : i < 16
    · have hi16 : (i : Int) < 16 := by omega
      have c1 := (HR.out.1.cell i).trans (u8s_at (by rw [part_length _ _ _ HK.out.len (by omega)]; omega))
      have f1 := HR.out.1.frozen i
      have HR1 := hide (HR.out.setK i i)
      have K1 := hide (part_set K 16 i HK.out.len hlt)
      rw [KI.out i hlt] at K1
      rw [K1.out] at HR1
      obtain ⟨y, hy⟩ : ∃ y, y = 17 * i := ⟨_, rfl⟩
      have hy2 : (17 : Int) * (i : Int) = (y : Int) := by omega
      have hy3 : y < 256 := by omega
      have B1 := hide (part_set B 16 i HB.out.len hlt)
      rw [BI.out i hlt, ← hy] at B1
      clear hy K1
      have c2 : Hid (∀ v, Hid (StW w v (part K 16 (i + 1)) (part B 16 i)) → v.cell? ⟨w.heap.size + 1, i, none⟩ = some (.int .u8 (((part B 16 i).getD i 0 : Nat) : Int))) := fun v h => (h.out.2.1.cell i).trans (u8s_at (by rw [part_length _ _ _ HB.out.len (by omega)]; omega))
      generalize (part K 16 i).getD i 0 = old1 at *
      generalize (part B 16 i).getD i 0 = old2 at *
      have c3 := c2.out _ HR1
      have f3 := HR1.out.2.1.frozen i
      clear c2 HR
      go_wp2
      go_roundg (16 - i)
      case measure => omega
      case rel =>
        refine ⟨i + 1, by go_num, by omega, by omega, ?_⟩
        have := HR1.out.setB i y
        rw [B1.out] at this
        exact this
    · have e : i = 16 := by omega
      subst e
      rw [part_full _ _ HK.out.len, part_full _ _ HB.out.len] at HR
      have ZZ : Hid (Blk z16) := ⟨rfl, fun i => getD_lt (by decide) (by omega) i⟩
      go_wp2_with (first
        | (refine wpList_load_row rfl 26 _ rfl w.heap.size rfl 26 _ (0, 0) _ HR.out.1 Try.underlying26 rfl (szb HK.out) ?_)
        | (refine wpList_load_row rfl 26 _ rfl (w.heap.size + 1) rfl 26 _ (0, 0) _ HR.out.2.1 Try.underlying26 rfl (szb HB.out) ?_))
      refine (HH.out _).mono ?_
      rintro e wa ⟨rfl, hba⟩
      have HBa := hide (HR.out.2.2.trans (hba.mono HR.out.2.2.size))
      clear hba HR
      go_upto_region 8 with
        (refine wpList_store_row rfl 26 _ _ rfl wa.heap.size (u8s X).toArray rfl rfl 26 _ (Arr.new wa _ [Value.int .u8 0, Value.int .u8 0, Value.int .u8 0, Value.int .u8 0, Value.int .u8 0, Value.int .u8 0, Value.int .u8 0, Value.int .u8 0, Value.int .u8 0, Value.int .u8 0, Value.int .u8 0, Value.int .u8 0, Value.int .u8 0, Value.int .u8 0, Value.int .u8 0, Value.int .u8 0]) (szb HX.out) (szz ZZ.out HX.out) (one_u8s _) ?_
         have G : Hid (Arr ((wa.alloc (Obj.cells #[Value.int .u8 0, Value.int .u8 0, Value.int .u8 0, Value.int .u8 0, Value.int .u8 0, Value.int .u8 0, Value.int .u8 0, Value.int .u8 0, Value.int .u8 0, Value.int .u8 0, Value.int .u8 0, Value.int .u8 0, Value.int .u8 0, Value.int .u8 0, Value.int .u8 0, Value.int .u8 0] 26)).setRow wa.heap.size (u8s X).toArray) wa.heap.size 26 (u8s X)) := (Arr.new wa _ [Value.int .u8 0, Value.int .u8 0, Value.int .u8 0, Value.int .u8 0, Value.int .u8 0, Value.int .u8 0, Value.int .u8 0, Value.int .u8 0, Value.int .u8 0, Value.int .u8 0, Value.int .u8 0, Value.int .u8 0, Value.int .u8 0, Value.int .u8 0, Value.int .u8 0, Value.int .u8 0]).row _
         have HBb : Hid (Below w.heap.size w ((wa.alloc (Obj.cells #[Value.int .u8 0, Value.int .u8 0, Value.int .u8 0, Value.int .u8 0, Value.int .u8 0, Value.int .u8 0, Value.int .u8 0, Value.int .u8 0, Value.int .u8 0, Value.int .u8 0, Value.int .u8 0, Value.int .u8 0, Value.int .u8 0, Value.int .u8 0, Value.int .u8 0, Value.int .u8 0] 26)).setRow wa.heap.size (u8s X).toArray)) := below_setRow (HBa.out.alloc HBa.out.size _) HBa.out.size (by simp) _
         generalize (wa.alloc (Obj.cells #[Value.int .u8 0, Value.int .u8 0, Value.int .u8 0, Value.int .u8 0, Value.int .u8 0, Value.int .u8 0, Value.int .u8 0, Value.int .u8 0, Value.int .u8 0, Value.int .u8 0, Value.int .u8 0, Value.int .u8 0, Value.int .u8 0, Value.int .u8 0, Value.int .u8 0, Value.int .u8 0] 26)).setRow wa.heap.size (u8s X).toArray = wb at *
         generalize hg : wa.heap.size = g at *
         clear HBa hg)
      have d0 := (G.out.cell 0).trans (u8s_at (by rw [HX.out.len]; omega))
      have d1 := (G.out.cell 1).trans (u8s_at (by rw [HX.out.len]; omega))
      have d2 := (G.out.cell 2).trans (u8s_at (by rw [HX.out.len]; omega))
      have d3 := (G.out.cell 3).trans (u8s_at (by rw [HX.out.len]; omega))
      rw [X0.out] at d0
      rw [X1.out] at d1
      rw [X2.out] at d2
      rw [X3.out] at d3
      clear G
      go_wp2_with fail
      refine (HSW.out _).mono ?_
      rintro e wc ⟨rfl, hw⟩
      subst hw
      go_wp2_with fail
      refine (HTM.out _).mono ?_
      rintro e wd ⟨rfl, hw⟩
      subst hw
      go_wp2
      go_ret
      exact ⟨rfl, HBb.out⟩

theorem known_any (w : World) : Calls Try.prog 15 #[] w fun e w' => e = .returned (.bool true) ∧ Below w.heap.size w w' :=
  known_of knK knB knX w knK_blk knB_blk knX_blk (by decide) (by decide) (fun v => Hide_of knK knB knX v knK_blk knB_blk kn_is.symm) rfl rfl rfl rfl

end Go.Proofs.Ytkafnkofanocpaa
