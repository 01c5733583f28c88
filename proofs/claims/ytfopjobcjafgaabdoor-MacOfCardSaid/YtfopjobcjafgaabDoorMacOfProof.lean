/-
  MacOf, the tied card: the mark of any text, in whatever pieces, under any key is the document's, and what is handed in stays (of more than 20 pieces, of more than 2000 bytes, of a key of more than 200 bytes nothing is asked but the known rows): the law returns true, and what is handed in stays. No condition but the two tables, which the card ties to the program's text.
-/
import Derived.Test.YtfopjobcjafgaabDoorMK
import Derived.Test.YtfopjobcjafgaabDoorMG
import Derived.Test.YtfopjobcjafgaabDoorFA
namespace Go.Proofs.YtfopjobcjafgaabDoor
namespace MacOfProof
open Go.ChangeShapes Go.WideShapes Go.ChangeAt Go.WideMaps Go.WideElems Go.RowKit

theorem str_more (key : List Nat) : (strF (key ++ [9, 9])).toList = (strF key ++ ⟨#[9, 9]⟩).toList := by
  rw [ByteArray.toList_eq, ByteArray.toList_eq]
  simp [strF, strOfNums]

set_option maxHeartbeats 8000000 in
set_option maxRecDepth 100000 in
theorem walk (p : Option Addr) (c : Nat) (key : List Nat) (sp : Option Addr) (k cc : Nat) (P : Nat → Option Addr) (C : Nat → Nat) (B : Nat → List Nat) (W : World) (hK : Piece W p c key) (hP : Pieces W sp k P C B) (hL : Laid W) :
    Calls Tryd.prog 3 #[.slice p key.length c, .slice sp k cc] W fun e W' => e = .returned (.bool true) ∧ Below W.heap.size W W' := by
  have hL2 := hL.size
  have HL := hide hL
  have HSL := hide hP.1
  have HPC := hide hP.2.1
  have hkm := hP.2.2
  unfold maxLen at hkm
  have hkc := hK.2.2.2.1
  have hcm := hK.2.2.2.2
  unfold maxLen at hcm
  have HLB : Hid (∀ v, Below W.heap.size W v → Laid v) := fun v hb => hL.keptB (B := W.heap.size) hL2 hb
  have HK := hide hK
  have HS := hide (fun (v : World) (hb : Below W.heap.size W v) (g cp : Nat) (hg : Piece v (some ⟨g, 0, none⟩) cp key) (hkl : key.length ≤ 200) (ht : (joinF B k).length ≤ 2000) (hk : k ≤ 20) =>
    of_any (some ⟨g, 0, none⟩) cp key sp k cc P C B (macF key (joinF B k)) v hg (by omega) (by
      rcases hP.1 with h | ⟨q, o, hq, hc⟩
      · exact Or.inl h
      · exact Or.inr ⟨q, o, hq, fun i hi => (hb.cell (block_lt_of_cell (hc i hi))).trans (hc i hi)⟩) (fun i hi => (hP.2.1 i hi).kept hb) (by omega) (by omega) (HLB.out v hb) rfl)
  have HR := hide (fun (v : World) (hb : Below W.heap.size W v) (q : Option Addr) (d : Nat) (h : Piece v q d (joinF B k)) (hkl : key.length ≤ 200) (ht : (joinF B k).length ≤ 2000) => refof_any p q c d key (joinF B k) (macF key (joinF B k)) v (hK.kept hb) h (by omega) (by omega) rfl)
  have HE := hide (eq_self (macF key (joinF B k)) (macF_length _ _) (macF_bytes _ _))
  have HJS : Hid (∀ i, joinF B (i + 1) = joinF B i ++ B i) := fun i => rfl
  have HJ0 : Hid (joinF B 0 = []) := rfl
  have HJB := hide (joinF_bytes (B := B) (k := k) (fun i hi => (hP.2.1 i hi).2.2.1))
  have hstr : ((strF (key ++ [9, 9])).toList == (strF key ++ ⟨#[9, 9]⟩).toList) = true := by rw [str_more]; simp
  clear hP hL hK
  generalize joinF B = J at *
  generalize macF key (J k) = D at *
  generalize hn : key.length = n at *
  have HN := hide hn
  clear hn
  go_enter Tryd.func3, Tryd.ntmps3
  go_wp2_with fail
  refine (known_any _ HL.out).mono ?_
  rintro e w1 ⟨rfl, hb1⟩
  have B1 := hide hb1
  clear hb1
  go_wp2
  go_loopg [6, 5] (k + 1) (fun f s6 s5 wr => ∃ (i : Nat) (v : Value), s6 = .int .i64 i ∧ v = s5 ∧ i ≤ k ∧ k - i < f ∧ i ≤ 20 ∧ (J i).length ≤ 2000 ∧ wr.ownsRow W.heap.size 5 1 v (J i).length (u8s (J i)) ∧ Below W.heap.size W wr)
  case atStart => exact ⟨0, _, rfl, rfl, by omega, by omega, by omega, by rw [HJ0.out]; exact Nat.zero_le _, by rw [HJ0.out]; exact World.ownsRow_nil _ _ _ _, B1.out⟩
  case round =>
    clear B1
    obtain ⟨i, v, rfl, rfl, hik, hf, hi20, hlen, hown, hB⟩ := hrel
    have HO := hide hown
    have HB := hide hB
    obtain ⟨pv, cv, rfl, hpv, hbv⟩ := own_piece hown (HJB.out i hik)
    have HPV := hide hpv
    clear hown hB hpv hbv
    by_cases hlt : i < k
    · have hlt' : (i : Int) < (k : Int) := by omega
      by_cases h20 : i < 20
      · have h20' : decide ((20 : Int) ≤ (i : Int)) = false := by simp; omega
        rcases HSL.out with h0 | ⟨q, o, rfl, hcell⟩
        · omega
        have hq := hcell i hlt
        have hq' := (HB.out.cell (block_lt_of_cell hq)).trans hq
        have HPI := hide (HPC.out i hlt)
        clear hq hcell
        have HJI := hide (HJS.out i)
        generalize hJl : (J i).length = nj at *
        have HJl := hide hJl
        generalize hBl : (B i).length = m at *
        have HBl := hide hBl
        clear hJl hBl
        by_cases hfit : m ≤ 2000 - nj
        · have hfit' : decide ((2000 : Int) - (nj : Int) < (m : Int)) = false := by simp; omega
          go_wp2_with (at_builtin; refine wpList_append_bytes rfl (.tmp 29) (.tmp 33) rfl W.heap.size _ (J i) rfl nj HJl.out HO.out (P i) m (C i) (B i) HBl.out rfl (HPI.out.1.kept HB.out) HPI.out.2.1 (by omega) HB.out.size ?_)
          intro v5 w5 hown hgrow
          have O5 : Hid (w5.ownsRow W.heap.size 5 1 v5 (J (i + 1)).length (u8s (J (i + 1)))) := by
            show World.ownsRow _ _ _ _ _ _ _
            rw [HJI.out, List.length_append, HJl.out, HBl.out]; exact hown
          have B5 : Hid (Below W.heap.size W w5) := HB.out.grown hgrow HB.out.size (fun k hk => (HO.out.lt k hk).1)
          have L5 : Hid ((J (i + 1)).length ≤ 2000) := by show _ ≤ _; rw [HJI.out, List.length_append, HJl.out, HBl.out]; omega
          clear hown hgrow HO HB
          go_wp2
          go_roundg (k - i)
          case measure => omega
          case rel => exact ⟨i + 1, v5, by go_num, rfl, by omega, by omega, by omega, L5.out, O5.out, B5.out⟩
        · have hfit' : decide ((2000 : Int) - (nj : Int) < (m : Int)) = true := by simp; omega
          go_wp2
          go_ret
          exact ⟨rfl, HB.out⟩
      · have h20' : decide ((20 : Int) ≤ (i : Int)) = true := by simp; omega
        go_wp2
        go_ret
        exact ⟨rfl, HB.out⟩
    · have e : i = k := by omega
      subst e
      have hlt' : ¬ (i : Int) < (i : Int) := by omega
      by_cases hbig : 200 < n
      · have hbig' : (200 : Int) < (n : Int) := by omega
        go_wp2
        go_ret
        exact ⟨rfl, HB.out⟩
      have hbig' : ¬ (200 : Int) < (n : Int) := by omega
      go_wp2_with (at_builtin; refine wpList_append_bytes rfl (.tmp 38) (.tmp 39) rfl wr.heap.size _ [] rfl 0 rfl (World.ownsRow_made wr #[] 0 (Nat.le_refl _) (Nat.zero_le _) rfl) p n c key HN.out rfl ((HK.out.1.kept HB.out).kept ((Below.refl _ _).alloc (Nat.le_refl _) _)) HK.out.2.1 (by omega) (by simp) ?_)
      intro v2 w2 hown hgrow
      have O2 : Hid (w2.ownsRow wr.heap.size 5 1 v2 n (u8s key)) := by
        show World.ownsRow _ _ _ _ _ _ _
        simpa using hown
      have b2 : Hid (Below wr.heap.size wr w2) := ((Below.refl _ wr).alloc (Nat.le_refl _) _).trans (grown_below hgrow (by simp) (by intro k hk; simp [Value.ownBlock] at hk; omega))
      clear hown hgrow
      go_wp2_with (at_builtin; refine wpList_append_bytes rfl (.tmp 40) (.tmp 41) rfl wr.heap.size v2 key rfl n HN.out (O2.out.alloc _) (some ⟨w2.heap.size, 0, none⟩) 2 2 [9, 9] rfl rfl (bi_row w2 [9, 9]) (fun e => by cases e) (by omega) (by have := b2.out.size; simp; omega) ?_)
      intro v4 w4 hown hgrow
      have b4 : Hid (Below wr.heap.size wr w4) := (b2.out.alloc b2.out.size _).grown hgrow (by have := b2.out.size; simp; omega) (fun k hk => (O2.out.lt k hk).1)
      obtain ⟨g4, c4, rfl, hg4, hgs4, hnc4, hcm4⟩ := own_shape hown (by omega)
      have P4 : Hid (Piece w4 (some ⟨g4, 0, none⟩) c4 (key ++ [9, 9])) := by
        obtain ⟨pq, cq, hv, hp, _⟩ := own_piece (l := key ++ [9, 9]) (by rw [List.length_append, HN.out]; exact hown) (bytes_append HK.out.2.2.1 (by intro x hx; simp at hx; omega))
        simp only [Value.slice.injEq] at hv
        obtain ⟨rfl, _, rfl⟩ := hv
        exact hp
      unfold maxLen at hcm4
      clear hown hgrow O2 b2 hg4 hgs4
      have hto := fun v => run_to v (some ⟨g4, 0, none⟩) (n + 2) c4 n (by omega)
      go_upto_region 13 with fail
      clear hto
      obtain ⟨n2, hn2⟩ : ∃ n2, n2 = n + 2 := ⟨_, rfl⟩
      have hw2 : IntKind.i64.wrap (n2 : Int) = (n2 : Int) := by simp [IntKind.wrap, IntKind.bits, IntKind.signed]; omega
      have hw2' : (n : Int) + 2 = (n2 : Int) := by omega
      have hto2 := fun v => run_to v (some ⟨g4, 0, none⟩) n c4 n2 (by omega)
      have KT : Hid (∀ v : World, Hid (Below w4.heap.size w4 v) → Below wr.heap.size wr v) := fun v hv => b4.out.trans (hv.out.mono b4.out.size)
      have KW : Hid (∀ v : World, Hid (Below w4.heap.size w4 v) → Below W.heap.size W v) := fun v hv => HB.out.trans ((KT.out v hv).mono HB.out.size)
      have KO : Hid (∀ v : World, Hid (Below w4.heap.size w4 v) → (convert 22 9 (.slice (some ⟨g4, 0, none⟩) n2 c4)).run Tryd.prog v = .ok (.string (strF (key ++ [9, 9]))) v) := fun v hv => conv_any (P4.out.kept hv.out).1 n2 (by rw [List.length_append, HN.out, hn2]; rfl)
      have KK : Hid (∀ v : World, Hid (Below w4.heap.size w4 v) → (convert 22 9 (.slice p n c)).run Tryd.prog v = .ok (.string (strF key)) v) := fun v hv => conv_any (HK.out.kept (KW.out v hv)).1 n HN.out
      have KP4 : Hid (∀ v : World, Hid (Below w4.heap.size w4 v) → Piece v (some ⟨g4, 0, none⟩) c4 key) := fun v hv => by
        have h := (P4.out.kept hv.out).take n
        rwa [List.take_left' HN.out] at h
      have KPV : Hid (∀ v : World, Hid (Below w4.heap.size w4 v) → Piece v pv cv (J i)) := fun v hv => HPV.out.kept (KT.out v hv)
      have hn200 : n ≤ 200 := by omega
      have hsk : (strF key).size ≤ 200 := by simp [strF, strOfNums_size, HN.out]; omega
      clear hn2 b4 P4 HPV
      generalize strF (key ++ [9, 9]) = so at *
      generalize strF key = sk at *
      refine wp_region_held_drew (S := fun v => Hid (Below w4.heap.size w4 v)) (by kernel_rfl) (hide (Below.refl w4.heap.size w4).drew) (fun hHeld => ?_)
      refine take_dstH (i := 0) (d := 46) (v := ?_) rfl rfl (by kernel_rfl) (by kernel_rfl) (by kernel_rfl) (fun _ _ _ h => h) (by rfl) hHeld ?_ ?_
      rotate_left
      · intro wZ hSw; clear hSw; go_simp; first | (with_reducible rfl) | (rw [if_pos (by omega)]; with_reducible rfl) | skip
      try simp only [Act.put, List.setIfInBounds_toArray, List.set_cons_zero, List.set_cons_succ]
      refine take_dstH (i := 1) (d := 47) (v := ?_) rfl rfl (by kernel_rfl) (by kernel_rfl) (by kernel_rfl) (fun _ _ _ h => h) (by rfl) hHeld ?_ ?_
      rotate_left
      · intro wZ hSw; clear hSw; go_simp; first | (with_reducible rfl) | (rw [if_pos (by omega)]; with_reducible rfl) | skip
      try simp only [Act.put, List.setIfInBounds_toArray, List.set_cons_zero, List.set_cons_succ]
      refine take_dstH (i := 3) (d := 49) (v := ?_) rfl rfl (by kernel_rfl) (by kernel_rfl) (by kernel_rfl) (fun _ _ _ h => h) (by rfl) hHeld ?_ ?_
      rotate_left
      · intro wZ hSw; clear hSw; go_simp; first | (with_reducible rfl) | (rw [if_pos (by omega)]; with_reducible rfl) | skip
      try simp only [Act.put, List.setIfInBounds_toArray, List.set_cons_zero, List.set_cons_succ]
      refine take_dstH (i := 4) (d := 50) (v := ?_) rfl rfl (by kernel_rfl) (by kernel_rfl) (by kernel_rfl) (fun _ _ _ h => h) (by rfl) hHeld ?_ ?_
      rotate_left
      · intro wZ hSw; clear hSw; go_simp; first | (with_reducible rfl) | (rw [if_pos (by omega)]; with_reducible rfl) | skip
      try simp only [Act.put, List.setIfInBounds_toArray, List.set_cons_zero, List.set_cons_succ]
      refine wpAnyH_ready (rs := [2]) (by kernel_rfl) (by simp) ?_
      refine (AllReadyH.cons rfl (fun K hK => ?_) AllReadyH.nil)
      go_simp
      refine (HS.out _ (KW.out _ hHeld) g4 c4 (KP4.out _ hHeld) hn200 hlen hi20).mono ?_; rintro e wa ⟨rfl, hba⟩; have HBa : Hid (Below w4.heap.size w4 wa) := (Hid.out hHeld).trans (hba.mono (Hid.out hHeld).size); clear hba
      go_wp2_with fail
      refine hK.out _ _ ?_ (fun hHeld => ?_)
      · exact HBa
      clear hK K
      try simp only [Act.put, List.setIfInBounds_toArray, List.set_cons_zero, List.set_cons_succ]
      refine wpAnyH_ready (rs := [5]) (by kernel_rfl) (by simp) ?_
      refine (AllReadyH.cons rfl (fun K hK => ?_) AllReadyH.nil)
      go_simp
      refine (HR.out _ (KW.out _ hHeld) pv cv (KPV.out _ hHeld) hn200 hlen).mono ?_; rintro e wb ⟨rfl, hbb⟩; have HBb : Hid (Below w4.heap.size w4 wb) := (Hid.out hHeld).trans (hbb.mono (Hid.out hHeld).size); clear hbb
      go_wp2_with fail
      refine hK.out _ _ ?_ (fun hHeld => ?_)
      · exact HBb
      clear hK K
      try simp only [Act.put, List.setIfInBounds_toArray, List.set_cons_zero, List.set_cons_succ]
      refine take_dstH (i := 6) (d := 52) (v := ?_) rfl rfl (by kernel_rfl) (by kernel_rfl) (by kernel_rfl) (fun _ _ _ h => h) (by rfl) hHeld ?_ ?_
      rotate_left
      · intro wZ hSw; refine exec_eql_agg 25 25 (.tmp 48) (.tmp 51) ?_ (u8s D).toArray (u8s D).toArray ?_ ?_ true (guard35 _ _ _ _ _) (HE.out wZ) <;> rfl
      try simp only [Act.put, List.setIfInBounds_toArray, List.set_cons_zero, List.set_cons_succ]
      refine take_dstH (i := 7) (d := 53) (v := ?_) rfl rfl (by kernel_rfl) (by kernel_rfl) (by kernel_rfl) (fun _ _ _ h => h) (by rfl) hHeld ?_ ?_
      rotate_left
      · intro wZ hSw; clear hSw; go_simp; first | (with_reducible rfl) | (rw [if_pos (by omega)]; with_reducible rfl) | skip
      try simp only [Act.put, List.setIfInBounds_toArray, List.set_cons_zero, List.set_cons_succ]
      refine take_dstH (i := 8) (d := 54) (v := ?_) rfl rfl (by kernel_rfl) (by kernel_rfl) (by kernel_rfl) (fun _ _ _ h => h) (by rfl) hHeld ?_ ?_
      rotate_left
      · intro wZ hSw; clear hSw; go_simp; first | (with_reducible rfl) | (rw [if_pos (by omega)]; with_reducible rfl) | skip
      try simp only [Act.put, List.setIfInBounds_toArray, List.set_cons_zero, List.set_cons_succ]
      refine take_dstH (i := 9) (d := 55) (v := ?_) rfl rfl (by kernel_rfl) (by kernel_rfl) (by kernel_rfl) (fun _ _ _ h => h) (by rfl) hHeld ?_ ?_
      rotate_left
      · intro wZ hSw; clear hSw; go_simp; first | (with_reducible rfl) | (rw [if_pos (by omega)]; with_reducible rfl) | skip
      try simp only [Act.put, List.setIfInBounds_toArray, List.set_cons_zero, List.set_cons_succ]
      refine take_dstH (i := 10) (d := 56) (v := ?_) rfl rfl (by kernel_rfl) (by kernel_rfl) (by kernel_rfl) (fun _ _ _ h => h) (by rfl) hHeld ?_ ?_
      rotate_left
      · intro wZ hSw; clear hSw; go_simp; first | (with_reducible rfl) | (rw [if_pos (by omega)]; with_reducible rfl) | skip
      try simp only [Act.put, List.setIfInBounds_toArray, List.set_cons_zero, List.set_cons_succ]
      refine take_dstH (i := 11) (d := 57) (v := ?_) rfl rfl (by kernel_rfl) (by kernel_rfl) (by kernel_rfl) (fun _ _ _ h => h) (by rfl) hHeld ?_ ?_
      rotate_left
      · intro wZ hSw; clear hSw; go_simp; first | (with_reducible rfl) | (rw [if_pos (by omega)]; with_reducible rfl) | skip
      try simp only [Act.put, List.setIfInBounds_toArray, List.set_cons_zero, List.set_cons_succ]
      refine take_dstH (i := 12) (d := 58) (v := ?_) rfl rfl (by kernel_rfl) (by kernel_rfl) (by kernel_rfl) (fun _ _ _ h => h) (by rfl) hHeld ?_ ?_
      rotate_left
      · intro wZ hSw; clear hSw; go_simp; first | (with_reducible rfl) | (rw [if_pos (by omega)]; with_reducible rfl) | skip
      try simp only [Act.put, List.setIfInBounds_toArray, List.set_cons_zero, List.set_cons_succ]
      refine take_dstH (i := 13) (d := 59) (v := ?_) rfl rfl (by kernel_rfl) (by kernel_rfl) (by kernel_rfl) (fun _ _ _ h => h) (by rfl) hHeld ?_ ?_
      rotate_left
      · intro wZ hSw; have hfS := KO.out wZ hSw; clear hSw; go_simp; first | (with_reducible rfl) | (rw [if_pos (by omega)]; with_reducible rfl) | skip
      try simp only [Act.put, List.setIfInBounds_toArray, List.set_cons_zero, List.set_cons_succ]
      refine take_dstH (i := 14) (d := 60) (v := ?_) rfl rfl (by kernel_rfl) (by kernel_rfl) (by kernel_rfl) (fun _ _ _ h => h) (by rfl) hHeld ?_ ?_
      rotate_left
      · intro wZ hSw; clear hSw; go_simp; first | (with_reducible rfl) | (rw [if_pos (by omega)]; with_reducible rfl) | skip
      try simp only [Act.put, List.setIfInBounds_toArray, List.set_cons_zero, List.set_cons_succ]
      refine take_dstH (i := 15) (d := 61) (v := ?_) rfl rfl (by kernel_rfl) (by kernel_rfl) (by kernel_rfl) (fun _ _ _ h => h) (by rfl) hHeld ?_ ?_
      rotate_left
      · intro wZ hSw; have hfS := KK.out wZ hSw; clear hSw; go_simp; first | (with_reducible rfl) | (rw [if_pos (by omega)]; with_reducible rfl) | skip
      try simp only [Act.put, List.setIfInBounds_toArray, List.set_cons_zero, List.set_cons_succ]
      refine take_dstH (i := 16) (d := 62) (v := ?_) rfl rfl (by kernel_rfl) (by kernel_rfl) (by kernel_rfl) (fun _ _ _ h => h) (by rfl) hHeld ?_ ?_
      rotate_left
      · intro wZ hSw; clear hSw; go_simp; rw [if_neg (by omega)]
      try simp only [Act.put, List.setIfInBounds_toArray, List.set_cons_zero, List.set_cons_succ]
      refine take_dstH (i := 17) (d := 63) (v := ?_) rfl rfl (by kernel_rfl) (by kernel_rfl) (by kernel_rfl) (fun _ _ _ h => h) (by rfl) hHeld ?_ ?_
      rotate_left
      · intro wZ hSw; clear hSw; go_simp; first | (with_reducible rfl) | (rw [if_pos (by omega)]; with_reducible rfl) | skip
      try simp only [Act.put, List.setIfInBounds_toArray, List.set_cons_zero, List.set_cons_succ]
      refine take_dstH (i := 18) (d := 64) (v := ?_) rfl rfl (by kernel_rfl) (by kernel_rfl) (by kernel_rfl) (fun _ _ _ h => h) (by rfl) hHeld ?_ ?_
      rotate_left
      · intro wZ hSw; clear hSw; go_simp; first | (with_reducible rfl) | (rw [if_pos (by omega)]; with_reducible rfl) | skip
      try simp only [Act.put, List.setIfInBounds_toArray, List.set_cons_zero, List.set_cons_succ]
      refine take_dstH (i := 19) (d := 4) (v := ?_) rfl rfl (by kernel_rfl) (by kernel_rfl) (by kernel_rfl) (fun _ _ _ h => h) (by rfl) hHeld ?_ ?_
      rotate_left
      · intro wZ hSw; clear hSw; go_simp; first | (with_reducible rfl) | (rw [if_pos (by omega)]; with_reducible rfl) | skip
      try simp only [Act.put, List.setIfInBounds_toArray, List.set_cons_zero, List.set_cons_succ]
      refine wpAnyH_done (by kernel_rfl) ?_ _
      all_goals
        go_wp2
        go_ret
        exact ⟨rfl, KW.out _ HBb⟩

set_option maxRecDepth 100000 in
theorem lifted (os : Os) (started : os.Started) (H : Type) (enc : TypeId × Value → H) :
    ReturnsInHanded {} Tryd.checked os 3 .any (fun w args => (Rows.macOfSpec.pre enc Tryd.prog Tryd.f3 [] false w args ∧ laidMetH Tryd.prog laid2 w) ∧ sizedMet enc Tryd.prog Tryd.f3 (OpenSpec.ofChange Rows.macOfSpec) false w args)
      (Rows.macOfSpec.post enc Tryd.prog Tryd.f3 false true false false) := by
  refine returnsInHanded_of_change_and (C := Tryd.checked) (X := fun w _ => laidMetH Tryd.prog laid2 w) (fun _ _ _ hh h => h.of_heap hh) own started (by kernel_rfl) Tryd.func3
    (ChangeSpec.witness_shaped (enc := enc) (C := Tryd.checked) (os := os) (X := fun w _ => laidMetH Tryd.prog laid2 w) false (World.doorLaid Tryd.prog 400 os) #[.slice none 0 0, .slice none 0 0] 8 rfl (World.shaped_of_RefB (by kernel_rfl) (by kernel_rfl)) (by kernel_rfl) (by kernel_rfl) (by kernel_rfl) (door_met os _)) ?_
  intro W base args ds gs before hval0 hW _ hsz hL _
  have hval : ∀ (j : Nat) t v, Tryd.f3.params[j]? = some t → args[j]? = some v → Value.okWide Tryd.prog W .any base t v := hval0
  have hW' := hW
  obtain ⟨p, q, hA0, hV, rfl, hfz, hnd⟩ := hW
  have hA : DataW.TrodAll enc Tryd.prog W 0 (fun _ => true) true Tryd.f3.params.toList args.toList ds p := hA0
  rw [Tryd.params3] at hA hval
  obtain ⟨v0, vs0, d0, ds0, p0, q0, hargs, rfl, rfl, h0, r0⟩ := trodAll_cons hA
  obtain ⟨v1, vs1, d1, ds1, p1, q1, rfl, rfl, rfl, h1, r1⟩ := trodAll_cons r0
  obtain ⟨rfl, rfl, rfl⟩ := trodAll_nil r1
  obtain rfl : args = #[v0, v1] := by cases args; simp_all
  obtain ⟨rfl, rfl⟩ := trodVars_none hV
  obtain ⟨a0, len0, cap0, rfl⟩ := okWide_slice Tryd.underlying22 (hval 0 22 v0 rfl rfl)
  have k0 := h0
  have lt0 : ∀ x ∈ p0, x.block < W.heap.size := by obtain ⟨m, hm⟩ := k0; exact DataW.trod_lt m _ _ _ hm
  obtain ⟨fuel0, hf0⟩ := h0
  obtain ⟨a0', cap0', x0, hcs0, w0⟩ := piece_of hf0
  simp [Value.cells] at hcs0
  obtain ⟨rfl, rfl, rfl⟩ := hcs0
  clear hf0
  obtain ⟨a1, len1, cap1, rfl⟩ := okWide_slice Tryd.underlying23 (hval 1 23 v1 rfl rfl)
  have k1 := h1
  have lt1 : ∀ x ∈ p1, x.block < W.heap.size := by obtain ⟨m, hm⟩ := k1; exact DataW.trod_lt m _ _ _ hm
  obtain ⟨fuel1, hf1⟩ := h1
  obtain ⟨a1', len1', cap1', P1, C1, B1, hcs1, w1⟩ := pieces_of hf1
  simp [Value.cells] at hcs1
  obtain ⟨rfl, rfl, rfl⟩ := hcs1
  clear hf1
  clear hA0 hval0
  refine (walk a0 cap0 x0 a1 len1 cap1 P1 C1 B1 W w0 w1 (of_laid hL)).mono fun e W' ⟨he, bel⟩ => ?_
  subst he
  exact ⟨_, rfl, _, _, _, [], _, [], hW', trodAll_mk1 (shut_bool Tryd.underlying4 _), (trodAll_cons_mk (Below.trod laidOut (by kernel_rfl) (of_decide_eq_true (by kernel_rfl)) k0 bel lt0) (trodAll_cons_mk (Below.trod laidOut (by kernel_rfl) (of_decide_eq_true (by kernel_rfl)) k1 bel lt1) trodAll_mk0)), rfl, bel.frame _, fun h => by cases h⟩

theorem row : Rows.MacOfSaid :=
  OpenClaim.holds_of_wide 3 Tryd.f3 rfl rfl rfl rfl rfl rfl rfl ⟨rfl, rfl, rfl, rfl, rfl⟩ rfl rfl rfl rfl rfl (by kernel_rfl) Tryd.func3 (by kernel_rfl)
    (of_decide_eq_true (by kernel_rfl)) (by unfold Func.isWrapper; first | (rw [if_pos (by decide +kernel)]; kernel_rfl) | (rw [if_neg (by decide +kernel)]; exact ⟨rfl, rfl⟩))
    (fun os started H enc _ => lifted os started H enc)

theorem card : Rows.MacOfCardSaid :=
  Claim7.holds_tied_plain_at .later [] [.data, .data] true (true, Rows.macOfCard.stood.harness.2) false
    row (fun _ h => by cases h) (by kernel_rfl) (fun _ h => by cases h) macOf_row_tie rfl ⟨rfl, rfl⟩ (by kernel_rfl) rfl
    (fun f fn hf hfn => by
      obtain rfl : f = 3 := Option.some.inj ((show Tryd.prog.funcNamed "oriel/oriellaw03.MacOf" = some 3 by kernel_rfl).symm.trans hf) |>.symm
      obtain rfl : fn = Tryd.f3 := (Option.some.inj (Tryd.func3.symm.trans hfn)).symm
      exact ⟨by kernel_rfl, fun j t ht => by
        rw [Tryd.params3] at ht
        have hm : t ∈ [22, 23] := by simpa using Array.mem_of_getElem? ht
        have hall : ([22, 23].all fun u => !Tryd.prog.wantsStandIn u) = true := by kernel_rfl
        exact (show Tryd.prog.wantsStandIn t = false by simpa using List.all_eq_true.1 hall t hm)⟩)
    (by kernel_rfl)

end MacOfProof

theorem macOf_holds : Rows.MacOfCardSaid := MacOfProof.card
#print axioms macOf_holds

end Go.Proofs.YtfopjobcjafgaabDoor
