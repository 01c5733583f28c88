/-
  ShaNone, the tied card: a hash that is not there, or that New did not make, is as one without bytes, whatever the bytes (of more than 200 the known rows alone are asked): the law returns true, and what is handed in stays. No condition but the two tables, which the card ties to the program's text.
-/
import Derived.Test.YtfopjobcjafgaaaDoorHE
import Derived.Test.YtfopjobcjafgaaaDoorHG
import Derived.Test.YtfopjobcjafgaaaDoorFA
namespace Go.Proofs.YtfopjobcjafgaaaDoor
namespace ShaNoneProof
open Go.ChangeShapes Go.WideShapes Go.ChangeAt Go.WideMaps Go.WideElems Go.RowKit

set_option maxHeartbeats 4000000 in
set_option maxRecDepth 100000 in
theorem walk (p : Option Addr) (c : Nat) (xs : List Nat) (W : World) (hP : Piece W p c xs) (hL : Laid W) :
    Calls Tryd.prog 7 #[.slice p xs.length c] W fun e W' => e = .returned (.bool true) ∧ Below W.heap.size W W' := by
  have hL2 := hL.size
  have HL := hide hL
  have HP := hide hP
  have hxc := hP.2.2.2.1
  have hcm := hP.2.2.2.2
  unfold maxLen at hcm
  clear hL hP
  by_cases hbig : 200 < xs.length
  · have hb' : (200 : Int) < (xs.length : Int) := by omega
    go_enter Tryd.func7, Tryd.ntmps7
    go_wp2_with fail
    refine (known_any _ HL.out).mono ?_
    rintro e w1 ⟨rfl, hb1⟩
    go_wp2
    go_ret
    exact ⟨rfl, hb1⟩
  have hsm : xs.length ≤ 200 := by omega
  have HSZ := hide (fun (v : World) (g : Nat) (h1 : Arr v g 49 zeroH) (h2 : Laid v) => hsum_of (.pointer (some ⟨g, 0, none⟩)) [] (sumF []) v (Or.inr ⟨rfl, Or.inr ⟨g, rfl, h1⟩⟩) (by simp) h2 rfl)
  have HSN := hide (fun (v : World) (h2 : Laid v) => hsum_of (.pointer none) [] (sumF []) v (Or.inr ⟨rfl, Or.inl rfl⟩) (by simp) h2 rfl)
  have HSX := hide (fun (v : World) (g : Nat) (h1 : MadeH v g xs) (h2 : Laid v) => hsum_of (.pointer (some ⟨g, 0, none⟩)) xs (sumF xs) v (Or.inl ⟨g, rfl, h1⟩) (by omega) h2 rfl)
  have HCP := hide (fun (v : World) (h2 : Laid v) => copy_is (.pointer none) [] v (Or.inr ⟨rfl, Or.inl rfl⟩) h2)
  have HR0 := hide (fun (v : World) => refsum_of none 0 [] v (Or.inl rfl) (fun _ => rfl) (by simp) (fun x hx => by cases hx))
  have HRX := hide (fun (v : World) (h : Piece v p c xs) => refsum_of p c xs v h.1 h.2.1 (by omega) h.2.2.1)
  have HE0 := hide (eq_self (sumF []) (sumF_length _) (sumF_bytes _))
  have HEX := hide (eq_self (sumF xs) (sumF_length _) (sumF_bytes _))
  have DL0 := hide (sumF_length [])
  have HW1 := hide (fun (v : World) (g : Nat) (hA : Arr v g 49 zeroH) (h : Piece v p c xs) (hv : Laid v) (hg : 2 ≤ g) (hne : ∀ a, p = some a → xs ≠ [] → a.block ≠ g) => write_in g [] p c xs v (Or.inr ⟨rfl, hA⟩) h.1 h.2.1 hne h.2.2.1 h.2.2.2.1 h.2.2.2.2 (by simp; omega) hv hg)
  have HW2 := hide (fun (v : World) (g : Nat) (hA : MadeH v g []) (h : Piece v p c xs) (hv : Laid v) (hg : 2 ≤ g) (hne : ∀ a, p = some a → xs ≠ [] → a.block ≠ g) => write_any g [] p c xs v hA h.1 h.2.1 hne h.2.2.1 h.2.2.2.1 h.2.2.2.2 (by simp; omega) hv hg)
  have HPL : Hid (∀ a, p = some a → xs ≠ [] → a.block < W.heap.size) := fun a ha hn => bi_lt HP.out.1 hn a ha
  have HBZ := hide builtZ
  rw [show ([] : List Nat).length = 0 from rfl] at HR0
  rw [List.nil_append] at HW1 HW2
  generalize zeroH = Z at *
  generalize sumF [] = D0 at *
  generalize sumF xs = DX at *
  have ID0 : Hid ((Tryd.prog.info? 35).map (·.size) = some (u8s D0).toArray.size) := by show _ = _; rw [info35]; simp [u8s, DL0.out]
  have OD0 : Hid ((u8s (List.replicate 32 0)).toArray.size = (u8s D0).toArray.size) := by show _ = _; simp [u8s, DL0.out]
  generalize hn : xs.length = n at *
  have HN := hide hn
  clear hn
  go_enter Tryd.func7, Tryd.ntmps7
  go_wp2_with fail
  refine (write_nil _ _).mono ?_
  rintro e w1 ⟨rfl, hw1⟩
  have B1 : Hid (Below W.heap.size W w1) := by show Below _ _ _; rw [hw1]; exact Below.refl _ _
  clear hw1
  go_upto_region 5 with fail
  refine wp_region_list ?_
  refine wpList_build_zero rfl 49 rfl Z.toArray HBZ.out ?_
  go_upto_region 6 with fail
  have A2 := hide (Arr.new w1 49 Z)
  have B2 : Hid (Below W.heap.size W (w1.alloc (Obj.cells Z.toArray 49))) := B1.out.alloc B1.out.size _
  have X2 : Hid (W.heap.size ≤ w1.heap.size) := B1.out.size
  generalize w1.alloc (Obj.cells Z.toArray 49) = w2 at *
  generalize w1.heap.size = X at *
  go_cut [5] (fun s5 wc => ∃ y, s5 = .pointer (some ⟨y, 0, none⟩) ∧ Arr wc y 35 (u8s D0) ∧ Arr wc X 49 Z ∧ y ≠ X ∧ Below W.heap.size W wc)
  case first =>
    go_wp2_with fail
    refine (HSZ.out w2 X A2.out (HL.out.keptB (B := W.heap.size) hL2 B2.out)).mono ?_
    rintro e w3 ⟨rfl, hb3⟩
    have A3 := hide (A2.out.kept hb3)
    have B3 : Hid (Below W.heap.size W w3) := B2.out.trans (hb3.mono B2.out.size)
    clear hb3
    go_wp2_with (refine wpList_store_row rfl 35 _ _ rfl w3.heap.size (u8s D0).toArray rfl rfl 35 (u8s (List.replicate 32 0)).toArray (heap_at w3 _ _ rfl) ID0.out OD0.out (all_u8s _) ?_)
    go_meet
    case rel =>
      have hlt := A3.out.lt
      refine ⟨w3.heap.size, rfl, (Arr.new w3 35 (u8s (List.replicate 32 0))).row _, (A3.out.alloc _).rowOther _ _ (Nat.ne_of_lt hlt), Nat.ne_of_gt hlt, ?_⟩
      exact below_setRow (B3.out.alloc B3.out.size _) B3.out.size (by simp) _
  case rest =>
    clear A2 B1 B2 HSZ
    obtain ⟨y, rfl, hy, hA, hyX, hB⟩ := hcut
    have HY := hide hy
    have HA := hide hA
    have HB := hide hB
    have HYX := hide hyX
    clear hy hA hB hyX
    go_wp2_with fail
    refine (HW1.out wc X HA.out (HP.out.kept HB.out) (HL.out.keptB (B := W.heap.size) hL2 HB.out) (by have := X2.out; omega) (fun a ha hn => by have h1 := HPL.out a ha hn; have h2 := X2.out; omega)).mono ?_
    rintro e w5 ⟨rfl, hM5, hg5⟩
    have M5 := hide hM5
    have Y5 := hide (HY.out.grown' hg5 HYX.out)
    have B5 : Hid (Below W.heap.size W w5) := HB.out.grown hg5 HB.out.size (by intro k hk; cases hk; exact X2.out)
    clear hM5 hg5 HY HA HB HW1
    go_wp2_with fail
    refine (HCP.out w5 (HL.out.keptB (B := W.heap.size) hL2 B5.out)).mono ?_
    rintro e w6 ⟨rfl, hM6, hb6⟩
    have C6 := hide hM6
    have M6 := hide (M5.out.kept hb6)
    have Y6 := hide (Y5.out.kept hb6)
    have B6 : Hid (Below W.heap.size W w6) := B5.out.trans (hb6.mono B5.out.size)
    have hXY : Hid (X < w5.heap.size) := M5.out.lt
    have hYY : Hid (y < w5.heap.size) := Y5.out.lt
    have hWY : Hid (W.heap.size ≤ w5.heap.size) := B5.out.size
    clear hM6 hb6 M5 Y5 B5 HCP
    generalize w5.heap.size = Y at *
    go_wp2_with fail
    refine (HW2.out w6 Y C6.out (HP.out.kept B6.out) (HL.out.keptB (B := W.heap.size) hL2 B6.out) (by have := hWY.out; omega) (fun a ha hn => by have h1 := HPL.out a ha hn; have h2 := hWY.out; omega)).mono ?_
    rintro e w8 ⟨rfl, hM8, hg8⟩
    have C8 := hide hM8
    have M8 := hide (M6.out.grown hg8 (Nat.ne_of_lt hXY.out))
    have Y8 := hide (Y6.out.grown' hg8 (Nat.ne_of_lt hYY.out))
    have B8 : Hid (Below W.heap.size W w8) := B6.out.grown hg8 B6.out.size (by intro k hk; cases hk; exact hWY.out)
    clear hM8 hg8 C6 M6 Y6 B6 HW2
    have KT : Hid (∀ v : World, Hid (Below w8.heap.size w8 v) → Below W.heap.size W v) := fun v hv => B8.out.trans (hv.out.mono B8.out.size)
    have KL : Hid (∀ v : World, Hid (Below w8.heap.size w8 v) → Laid v) := fun v hv => HL.out.keptB (B := W.heap.size) hL2 (KT.out v hv)
    have KP : Hid (∀ v : World, Hid (Below w8.heap.size w8 v) → Piece v p c xs) := fun v hv => HP.out.kept (KT.out v hv)
    have KX : Hid (∀ v : World, Hid (Below w8.heap.size w8 v) → MadeH v X xs) := fun v hv => M8.out.kept hv.out
    have KC : Hid (∀ v : World, Hid (Below w8.heap.size w8 v) → MadeH v Y xs) := fun v hv => C8.out.kept hv.out
    have KY : Hid (∀ v : World, Hid (Below w8.heap.size w8 v) → Arr v y 35 (u8s D0)) := fun v hv => Y8.out.kept hv.out
    clear C8 M8 Y8
    go_upto_region 12 with fail
    refine wp_region_held_drew (S := fun v => Hid (Below w8.heap.size w8 v)) (by kernel_rfl) (hide (Below.refl w8.heap.size w8).drew) (fun hHeld => ?_)
    refine take_dstH (i := 0) (d := 28) (v := ?_) rfl rfl (by kernel_rfl) (by kernel_rfl) (by kernel_rfl) (fun _ _ _ h => h) (by rfl) hHeld ?_ ?_
    rotate_left
    · intro wZ hSw; clear hSw; go_simp; first | (with_reducible rfl) | (rw [if_pos (by omega)]; with_reducible rfl) | skip
    try simp only [Act.put, List.setIfInBounds_toArray, List.set_cons_zero, List.set_cons_succ]
    refine wpAnyH_ready (rs := [1]) (by kernel_rfl) (by simp) ?_
    refine (AllReadyH.cons rfl (fun K hK => ?_) AllReadyH.nil)
    go_simp
    refine (len_nil _).mono ?_; rintro e wa ⟨rfl, hwa⟩; have HBa : Hid (Below w8.heap.size w8 wa) := (by rw [hwa]; exact hHeld); clear hwa
    go_wp2_with fail
    refine hK.out _ _ ?_ (fun hHeld => ?_)
    · exact HBa
    clear hK K
    try simp only [Act.put, List.setIfInBounds_toArray, List.set_cons_zero, List.set_cons_succ]
    refine take_dstH (i := 2) (d := 30) (v := ?_) rfl rfl (by kernel_rfl) (by kernel_rfl) (by kernel_rfl) (fun _ _ _ h => h) (by rfl) hHeld ?_ ?_
    rotate_left
    · intro wZ hSw; clear hSw; go_simp; first | (with_reducible rfl) | (rw [if_pos (by omega)]; with_reducible rfl) | skip
    try simp only [Act.put, List.setIfInBounds_toArray, List.set_cons_zero, List.set_cons_succ]
    refine take_dstH (i := 3) (d := 31) (v := ?_) rfl rfl (by kernel_rfl) (by kernel_rfl) (by kernel_rfl) (fun _ _ _ h => h) (by rfl) hHeld ?_ ?_
    rotate_left
    · intro wZ hSw; clear hSw; go_simp; first | (with_reducible rfl) | (rw [if_pos (by omega)]; with_reducible rfl) | skip
    try simp only [Act.put, List.setIfInBounds_toArray, List.set_cons_zero, List.set_cons_succ]
    refine take_dstH (i := 4) (d := 32) (v := ?_) rfl rfl (by kernel_rfl) (by kernel_rfl) (by kernel_rfl) (fun _ _ _ h => h) (by rfl) hHeld ?_ ?_
    rotate_left
    · intro wZ hSw; clear hSw; go_simp; first | (with_reducible rfl) | (rw [if_pos (by omega)]; with_reducible rfl) | skip
    try simp only [Act.put, List.setIfInBounds_toArray, List.set_cons_zero, List.set_cons_succ]
    refine wpAnyH_ready (rs := [5]) (by kernel_rfl) (by simp) ?_
    refine (AllReadyH.cons rfl (fun K hK => ?_) AllReadyH.nil)
    go_simp
    refine (HSN.out _ (KL.out _ hHeld)).mono ?_; rintro e wa ⟨rfl, hba⟩; have HBa : Hid (Below w8.heap.size w8 wa) := (Hid.out hHeld).trans (hba.mono (Hid.out hHeld).size); clear hba
    go_wp2_with fail
    refine hK.out _ _ ?_ (fun hHeld => ?_)
    · exact HBa
    clear hK K
    try simp only [Act.put, List.setIfInBounds_toArray, List.set_cons_zero, List.set_cons_succ]
    refine wpAnyH_ready (rs := [6]) (by kernel_rfl) (by simp) ?_
    refine (AllReadyH.cons rfl (fun K hK => ?_) AllReadyH.nil)
    go_simp
    refine (HR0.out _).mono ?_; rintro e wa ⟨rfl, hba⟩; have HBa : Hid (Below w8.heap.size w8 wa) := (Hid.out hHeld).trans (hba.mono (Hid.out hHeld).size); clear hba
    go_wp2_with fail
    refine hK.out _ _ ?_ (fun hHeld => ?_)
    · exact HBa
    clear hK K
    try simp only [Act.put, List.setIfInBounds_toArray, List.set_cons_zero, List.set_cons_succ]
    refine take_dstH (i := 7) (d := 35) (v := ?_) rfl rfl (by kernel_rfl) (by kernel_rfl) (by kernel_rfl) (fun _ _ _ h => h) (by rfl) hHeld ?_ ?_
    rotate_left
    · intro wZ hSw; refine exec_eql_agg 35 35 (.tmp 33) (.tmp 34) ?_ (u8s D0).toArray (u8s D0).toArray ?_ ?_ true (guard35 _ _ _ _ _) (HE0.out wZ) <;> rfl
    try simp only [Act.put, List.setIfInBounds_toArray, List.set_cons_zero, List.set_cons_succ]
    refine take_dstH (i := 8) (d := 36) (v := ?_) rfl rfl (by kernel_rfl) (by kernel_rfl) (by kernel_rfl) (fun _ _ _ h => h) (by rfl) hHeld ?_ ?_
    rotate_left
    · intro wZ hSw; clear hSw; go_simp; first | (with_reducible rfl) | (rw [if_pos (by omega)]; with_reducible rfl) | skip
    try simp only [Act.put, List.setIfInBounds_toArray, List.set_cons_zero, List.set_cons_succ]
    refine take_dstH (i := 9) (d := 37) (v := ?_) rfl rfl (by kernel_rfl) (by kernel_rfl) (by kernel_rfl) (fun _ _ _ h => h) (by rfl) hHeld ?_ ?_
    rotate_left
    · intro wZ hSw; clear hSw; go_simp; first | (with_reducible rfl) | (rw [if_pos (by omega)]; with_reducible rfl) | skip
    try simp only [Act.put, List.setIfInBounds_toArray, List.set_cons_zero, List.set_cons_succ]
    refine take_dstH (i := 10) (d := 38) (v := ?_) rfl rfl (by kernel_rfl) (by kernel_rfl) (by kernel_rfl) (fun _ _ _ h => h) (by rfl) hHeld ?_ ?_
    rotate_left
    · intro wZ hSw; refine exec_load_row 35 (.tmp 5) ?_ y ?_ 35 _ (0, 0) _ (KY.out wZ hSw) Tryd.underlying35 rfl ID0.out <;> rfl
    try simp only [Act.put, List.setIfInBounds_toArray, List.set_cons_zero, List.set_cons_succ]
    refine wpAnyH_ready (rs := [11]) (by kernel_rfl) (by simp) ?_
    refine (AllReadyH.cons rfl (fun K hK => ?_) AllReadyH.nil)
    go_simp
    refine (HR0.out _).mono ?_; rintro e wa ⟨rfl, hba⟩; have HBa : Hid (Below w8.heap.size w8 wa) := (Hid.out hHeld).trans (hba.mono (Hid.out hHeld).size); clear hba
    go_wp2_with fail
    refine hK.out _ _ ?_ (fun hHeld => ?_)
    · exact HBa
    clear hK K
    try simp only [Act.put, List.setIfInBounds_toArray, List.set_cons_zero, List.set_cons_succ]
    refine take_dstH (i := 12) (d := 40) (v := ?_) rfl rfl (by kernel_rfl) (by kernel_rfl) (by kernel_rfl) (fun _ _ _ h => h) (by rfl) hHeld ?_ ?_
    rotate_left
    · intro wZ hSw; refine exec_eql_agg 35 35 (.tmp 38) (.tmp 39) ?_ (u8s D0).toArray (u8s D0).toArray ?_ ?_ true (guard35 _ _ _ _ _) (HE0.out wZ) <;> rfl
    try simp only [Act.put, List.setIfInBounds_toArray, List.set_cons_zero, List.set_cons_succ]
    refine take_dstH (i := 13) (d := 41) (v := ?_) rfl rfl (by kernel_rfl) (by kernel_rfl) (by kernel_rfl) (fun _ _ _ h => h) (by rfl) hHeld ?_ ?_
    rotate_left
    · intro wZ hSw; clear hSw; go_simp; first | (with_reducible rfl) | (rw [if_pos (by omega)]; with_reducible rfl) | skip
    try simp only [Act.put, List.setIfInBounds_toArray, List.set_cons_zero, List.set_cons_succ]
    refine take_dstH (i := 14) (d := 42) (v := ?_) rfl rfl (by kernel_rfl) (by kernel_rfl) (by kernel_rfl) (fun _ _ _ h => h) (by rfl) hHeld ?_ ?_
    rotate_left
    · intro wZ hSw; clear hSw; go_simp; first | (with_reducible rfl) | (rw [if_pos (by omega)]; with_reducible rfl) | skip
    try simp only [Act.put, List.setIfInBounds_toArray, List.set_cons_zero, List.set_cons_succ]
    refine take_dstH (i := 15) (d := 43) (v := ?_) rfl rfl (by kernel_rfl) (by kernel_rfl) (by kernel_rfl) (fun _ _ _ h => h) (by rfl) hHeld ?_ ?_
    rotate_left
    · intro wZ hSw; clear hSw; go_simp; first | (with_reducible rfl) | (rw [if_pos (by omega)]; with_reducible rfl) | skip
    try simp only [Act.put, List.setIfInBounds_toArray, List.set_cons_zero, List.set_cons_succ]
    refine take_dstH (i := 17) (d := 45) (v := ?_) rfl rfl (by kernel_rfl) (by kernel_rfl) (by kernel_rfl) (fun _ _ _ h => h) (by rfl) hHeld ?_ ?_
    rotate_left
    · intro wZ hSw; clear hSw; go_simp; first | (with_reducible rfl) | (rw [if_pos (by omega)]; with_reducible rfl) | skip
    try simp only [Act.put, List.setIfInBounds_toArray, List.set_cons_zero, List.set_cons_succ]
    refine wpAnyH_ready (rs := [16]) (by kernel_rfl) (by simp) ?_
    refine (AllReadyH.cons rfl (fun K hK => ?_) AllReadyH.nil)
    go_simp
    refine (HSX.out _ X (KX.out _ hHeld) (KL.out _ hHeld)).mono ?_; rintro e wa ⟨rfl, hba⟩; have HBa : Hid (Below w8.heap.size w8 wa) := (Hid.out hHeld).trans (hba.mono (Hid.out hHeld).size); clear hba
    go_wp2_with fail
    refine hK.out _ _ ?_ (fun hHeld => ?_)
    · exact HBa
    clear hK K
    try simp only [Act.put, List.setIfInBounds_toArray, List.set_cons_zero, List.set_cons_succ]
    refine wpAnyH_ready (rs := [18]) (by kernel_rfl) (by simp) ?_
    refine (AllReadyH.cons rfl (fun K hK => ?_) AllReadyH.nil)
    go_simp
    refine (HRX.out _ (KP.out _ hHeld)).mono ?_; rintro e wa ⟨rfl, hba⟩; have HBa : Hid (Below w8.heap.size w8 wa) := (Hid.out hHeld).trans (hba.mono (Hid.out hHeld).size); clear hba
    go_wp2_with fail
    refine hK.out _ _ ?_ (fun hHeld => ?_)
    · exact HBa
    clear hK K
    try simp only [Act.put, List.setIfInBounds_toArray, List.set_cons_zero, List.set_cons_succ]
    refine take_dstH (i := 19) (d := 47) (v := ?_) rfl rfl (by kernel_rfl) (by kernel_rfl) (by kernel_rfl) (fun _ _ _ h => h) (by rfl) hHeld ?_ ?_
    rotate_left
    · intro wZ hSw; refine exec_eql_agg 35 35 (.tmp 44) (.tmp 46) ?_ (u8s DX).toArray (u8s DX).toArray ?_ ?_ true (guard35 _ _ _ _ _) (HEX.out wZ) <;> rfl
    try simp only [Act.put, List.setIfInBounds_toArray, List.set_cons_zero, List.set_cons_succ]
    refine take_dstH (i := 20) (d := 48) (v := ?_) rfl rfl (by kernel_rfl) (by kernel_rfl) (by kernel_rfl) (fun _ _ _ h => h) (by rfl) hHeld ?_ ?_
    rotate_left
    · intro wZ hSw; clear hSw; go_simp; first | (with_reducible rfl) | (rw [if_pos (by omega)]; with_reducible rfl) | skip
    try simp only [Act.put, List.setIfInBounds_toArray, List.set_cons_zero, List.set_cons_succ]
    refine take_dstH (i := 21) (d := 49) (v := ?_) rfl rfl (by kernel_rfl) (by kernel_rfl) (by kernel_rfl) (fun _ _ _ h => h) (by rfl) hHeld ?_ ?_
    rotate_left
    · intro wZ hSw; clear hSw; go_simp; first | (with_reducible rfl) | (rw [if_pos (by omega)]; with_reducible rfl) | skip
    try simp only [Act.put, List.setIfInBounds_toArray, List.set_cons_zero, List.set_cons_succ]
    refine take_dstH (i := 22) (d := 50) (v := ?_) rfl rfl (by kernel_rfl) (by kernel_rfl) (by kernel_rfl) (fun _ _ _ h => h) (by rfl) hHeld ?_ ?_
    rotate_left
    · intro wZ hSw; clear hSw; go_simp; first | (with_reducible rfl) | (rw [if_pos (by omega)]; with_reducible rfl) | skip
    try simp only [Act.put, List.setIfInBounds_toArray, List.set_cons_zero, List.set_cons_succ]
    refine take_dstH (i := 24) (d := 52) (v := ?_) rfl rfl (by kernel_rfl) (by kernel_rfl) (by kernel_rfl) (fun _ _ _ h => h) (by rfl) hHeld ?_ ?_
    rotate_left
    · intro wZ hSw; clear hSw; go_simp; first | (with_reducible rfl) | (rw [if_pos (by omega)]; with_reducible rfl) | skip
    try simp only [Act.put, List.setIfInBounds_toArray, List.set_cons_zero, List.set_cons_succ]
    refine wpAnyH_ready (rs := [23]) (by kernel_rfl) (by simp) ?_
    refine (AllReadyH.cons rfl (fun K hK => ?_) AllReadyH.nil)
    go_simp
    refine (HSX.out _ Y (KC.out _ hHeld) (KL.out _ hHeld)).mono ?_; rintro e wa ⟨rfl, hba⟩; have HBa : Hid (Below w8.heap.size w8 wa) := (Hid.out hHeld).trans (hba.mono (Hid.out hHeld).size); clear hba
    go_wp2_with fail
    refine hK.out _ _ ?_ (fun hHeld => ?_)
    · exact HBa
    clear hK K
    try simp only [Act.put, List.setIfInBounds_toArray, List.set_cons_zero, List.set_cons_succ]
    refine wpAnyH_ready (rs := [25]) (by kernel_rfl) (by simp) ?_
    refine (AllReadyH.cons rfl (fun K hK => ?_) AllReadyH.nil)
    go_simp
    refine (HRX.out _ (KP.out _ hHeld)).mono ?_; rintro e wa ⟨rfl, hba⟩; have HBa : Hid (Below w8.heap.size w8 wa) := (Hid.out hHeld).trans (hba.mono (Hid.out hHeld).size); clear hba
    go_wp2_with fail
    refine hK.out _ _ ?_ (fun hHeld => ?_)
    · exact HBa
    clear hK K
    try simp only [Act.put, List.setIfInBounds_toArray, List.set_cons_zero, List.set_cons_succ]
    refine take_dstH (i := 26) (d := 54) (v := ?_) rfl rfl (by kernel_rfl) (by kernel_rfl) (by kernel_rfl) (fun _ _ _ h => h) (by rfl) hHeld ?_ ?_
    rotate_left
    · intro wZ hSw; refine exec_eql_agg 35 35 (.tmp 51) (.tmp 53) ?_ (u8s DX).toArray (u8s DX).toArray ?_ ?_ true (guard35 _ _ _ _ _) (HEX.out wZ) <;> rfl
    try simp only [Act.put, List.setIfInBounds_toArray, List.set_cons_zero, List.set_cons_succ]
    refine take_dstH (i := 27) (d := 55) (v := ?_) rfl rfl (by kernel_rfl) (by kernel_rfl) (by kernel_rfl) (fun _ _ _ h => h) (by rfl) hHeld ?_ ?_
    rotate_left
    · intro wZ hSw; clear hSw; go_simp; first | (with_reducible rfl) | (rw [if_pos (by omega)]; with_reducible rfl) | skip
    try simp only [Act.put, List.setIfInBounds_toArray, List.set_cons_zero, List.set_cons_succ]
    refine take_dstH (i := 28) (d := 56) (v := ?_) rfl rfl (by kernel_rfl) (by kernel_rfl) (by kernel_rfl) (fun _ _ _ h => h) (by rfl) hHeld ?_ ?_
    rotate_left
    · intro wZ hSw; clear hSw; go_simp; first | (with_reducible rfl) | (rw [if_pos (by omega)]; with_reducible rfl) | skip
    try simp only [Act.put, List.setIfInBounds_toArray, List.set_cons_zero, List.set_cons_succ]
    refine wpAnyH_ready (rs := [29]) (by kernel_rfl) (by simp) ?_
    refine (AllReadyH.cons rfl (fun K hK => ?_) AllReadyH.nil)
    go_simp
    refine (known_any _ (KL.out _ hHeld)).mono ?_; rintro e wa ⟨rfl, hba⟩; have HBd : Hid (Below w8.heap.size w8 wa) := (Hid.out hHeld).trans (hba.mono (Hid.out hHeld).size); clear hba
    go_wp2_with fail
    refine hK.out _ _ ?_ (fun hHeld => ?_)
    · exact HBd
    clear hK K
    try simp only [Act.put, List.setIfInBounds_toArray, List.set_cons_zero, List.set_cons_succ]
    refine take_dstH (i := 30) (d := 58) (v := ?_) rfl rfl (by kernel_rfl) (by kernel_rfl) (by kernel_rfl) (fun _ _ _ h => h) (by rfl) hHeld ?_ ?_
    rotate_left
    · intro wZ hSw; clear hSw; go_simp; first | (with_reducible rfl) | (rw [if_pos (by omega)]; with_reducible rfl) | skip
    try simp only [Act.put, List.setIfInBounds_toArray, List.set_cons_zero, List.set_cons_succ]
    refine take_dstH (i := 31) (d := 2) (v := ?_) rfl rfl (by kernel_rfl) (by kernel_rfl) (by kernel_rfl) (fun _ _ _ h => h) (by rfl) hHeld ?_ ?_
    rotate_left
    · intro wZ hSw; clear hSw; go_simp; first | (with_reducible rfl) | (rw [if_pos (by omega)]; with_reducible rfl) | skip
    try simp only [Act.put, List.setIfInBounds_toArray, List.set_cons_zero, List.set_cons_succ]
    refine wpAnyH_done (by kernel_rfl) ?_ _
    all_goals
      go_wp2
      go_ret
      exact ⟨rfl, KT.out _ HBd⟩

set_option maxRecDepth 100000 in
theorem lifted (os : Os) (started : os.Started) (H : Type) (enc : TypeId × Value → H) :
    ReturnsInHanded {} Tryd.checked os 7 .any (fun w args => (Rows.shaNoneSpec.pre enc Tryd.prog Tryd.f7 [] false w args ∧ laidMetH Tryd.prog laid2 w) ∧ sizedMet enc Tryd.prog Tryd.f7 (OpenSpec.ofChange Rows.shaNoneSpec) false w args)
      (Rows.shaNoneSpec.post enc Tryd.prog Tryd.f7 false true false false) := by
  refine returnsInHanded_of_change_and (C := Tryd.checked) (X := fun w _ => laidMetH Tryd.prog laid2 w) (fun _ _ _ hh h => h.of_heap hh) own started (by kernel_rfl) Tryd.func7
    (ChangeSpec.witness_shaped (enc := enc) (C := Tryd.checked) (os := os) (X := fun w _ => laidMetH Tryd.prog laid2 w) false (World.doorLaid Tryd.prog 400 os) #[.slice none 0 0] 8 rfl (World.shaped_of_RefB (by kernel_rfl) (by kernel_rfl)) (by kernel_rfl) (by kernel_rfl) (by kernel_rfl) (door_met os _)) ?_
  intro W base args ds gs before hval0 hW _ _ hL _
  have hval : ∀ (j : Nat) t v, Tryd.f7.params[j]? = some t → args[j]? = some v → Value.okWide Tryd.prog W .any base t v := hval0
  have hW' := hW
  obtain ⟨p, q, hA0, hV, rfl, hfz, hnd⟩ := hW
  have hA : DataW.TrodAll enc Tryd.prog W 0 (fun _ => true) true Tryd.f7.params.toList args.toList ds p := hA0
  rw [Tryd.params7] at hA hval
  obtain ⟨v0, vs0, d0, ds0, p0, q0, hargs, rfl, rfl, h0, r0⟩ := trodAll_cons hA
  obtain ⟨rfl, rfl, rfl⟩ := trodAll_nil r0
  obtain rfl : args = #[v0] := by cases args; simp_all
  obtain ⟨rfl, rfl⟩ := trodVars_none hV
  obtain ⟨a0, len0, cap0, rfl⟩ := okWide_slice Tryd.underlying30 (hval 0 30 v0 rfl rfl)
  have k0 := h0
  have lt0 : ∀ x ∈ p0, x.block < W.heap.size := by obtain ⟨m, hm⟩ := k0; exact DataW.trod_lt m _ _ _ hm
  obtain ⟨fuel0, hf0⟩ := h0
  obtain ⟨a0', cap0', x0, hcs0, w0⟩ := piece_of hf0
  simp [Value.cells] at hcs0
  obtain ⟨rfl, rfl, rfl⟩ := hcs0
  clear hf0
  clear hA0 hval0
  refine (walk a0 cap0 x0 W w0 (of_laid hL)).mono fun e W' ⟨he, bel⟩ => ?_
  subst he
  exact ⟨_, rfl, _, _, _, [], _, [], hW', trodAll_mk1 (shut_bool Tryd.underlying4 _), (trodAll_cons_mk (Below.trod laidOut (by kernel_rfl) (of_decide_eq_true (by kernel_rfl)) k0 bel lt0) trodAll_mk0), rfl, bel.frame _, fun h => by cases h⟩

theorem row : Rows.ShaNoneSaid :=
  OpenClaim.holds_of_wide 7 Tryd.f7 rfl rfl rfl rfl rfl rfl rfl ⟨rfl, rfl, rfl, rfl, rfl⟩ rfl rfl rfl rfl rfl (by kernel_rfl) Tryd.func7 (by kernel_rfl)
    (of_decide_eq_true (by kernel_rfl)) (by unfold Func.isWrapper; first | (rw [if_pos (by decide +kernel)]; kernel_rfl) | (rw [if_neg (by decide +kernel)]; exact ⟨rfl, rfl⟩))
    (fun os started H enc _ => lifted os started H enc)

theorem card : Rows.ShaNoneCardSaid :=
  Claim7.holds_tied_plain_at .later [] [.data, .data] true (true, Rows.shaNoneCard.stood.harness.2) false
    row (fun _ h => by cases h) (by kernel_rfl) (fun _ h => by cases h) shaNone_row_tie rfl ⟨rfl, rfl⟩ (by kernel_rfl) rfl
    (fun f fn hf hfn => by
      obtain rfl : f = 7 := Option.some.inj ((show Tryd.prog.funcNamed "oriel/oriellaw02.ShaNone" = some 7 by kernel_rfl).symm.trans hf) |>.symm
      obtain rfl : fn = Tryd.f7 := (Option.some.inj (Tryd.func7.symm.trans hfn)).symm
      exact ⟨by kernel_rfl, fun j t ht => by
        rw [Tryd.params7] at ht
        have hm : t ∈ [30] := by simpa using Array.mem_of_getElem? ht
        have hall : ([30].all fun u => !Tryd.prog.wantsStandIn u) = true := by kernel_rfl
        exact (show Tryd.prog.wantsStandIn t = false by simpa using List.all_eq_true.1 hall t hm)⟩)
    (by kernel_rfl)

end ShaNoneProof

theorem shaNone_holds : Rows.ShaNoneCardSaid := ShaNoneProof.card
#print axioms shaNone_holds

end Go.Proofs.YtfopjobcjafgaaaDoor
