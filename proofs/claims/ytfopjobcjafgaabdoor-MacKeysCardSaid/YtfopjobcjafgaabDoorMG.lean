/-
  A walk: the reference's Of: the document's mark of a text under a key.
-/
import Derived.Test.YtfopjobcjafgaabDoorMF
namespace Go.Proofs.YtfopjobcjafgaabDoor
open Go.RowKit

set_option maxHeartbeats 8000000 in
set_option maxRecDepth 100000 in
theorem refof_any (p q : Option Addr) (c d : Nat) (key text : List Nat) (D : List Nat) (w : World) (hP : Piece w p c key) (hT : Piece w q d text) (hkl : key.length ≤ 90000) (htl : text.length ≤ 90000) (hD : macF key text = D) :
    Calls Tryd.prog 9 #[.slice p key.length c, .slice q text.length d] w fun e w' => e = .returned (.agg (u8s D).toArray) ∧ Below w.heap.size w w' := by
  have hx1 : (xorF (kblockF key) 54).length = 64 := by rw [xorF_length, kblockF_length]
  have hx2 : (xorF (kblockF key) 92).length = 64 := by rw [xorF_length, kblockF_length]
  have hb1 := xorF_bytes (x := 54) (kblockF_bytes hP.2.2.1) (by omega)
  have hb2 := xorF_bytes (x := 92) (kblockF_bytes hP.2.2.1) (by omega)
  have HP1 := hide (fun (v : World) (hb : Below w.heap.size w v) => pad_any p c key 54 v (hP.kept hb) (by omega) (by omega))
  have HP2 := hide (fun (v : World) (hb : Below w.heap.size w v) => pad_any p c key 92 v (hP.kept hb) (by omega) (by omega))
  rw [show ((54 : Nat) : Int) = 54 from rfl] at HP1
  rw [show ((92 : Nat) : Int) = 92 from rfl] at HP2
  have HS1 := hide (fun (v : World) (pp : Option Addr) (cc : Nat) (h : Piece v pp cc (xorF (kblockF key) 54 ++ text)) => refsum_of pp cc (xorF (kblockF key) 54 ++ text) v h.1 h.2.1 (by rw [List.length_append, hx1]; omega) h.2.2.1)
  have HS2 := hide (fun (v : World) (pp : Option Addr) (cc : Nat) (h : Piece v pp cc (xorF (kblockF key) 92 ++ sumF (xorF (kblockF key) 54 ++ text))) => refsum_of pp cc (xorF (kblockF key) 92 ++ sumF (xorF (kblockF key) 54 ++ text)) v h.1 h.2.1 (by rw [List.length_append, hx2, sumF_length]; omega) h.2.2.1)
  rw [show sumF (xorF (kblockF key) 92 ++ sumF (xorF (kblockF key) 54 ++ text)) = D from hD, List.length_append, hx2, sumF_length] at HS2
  rw [List.length_append, hx1] at HS1
  have hDl : D.length = 32 := by rw [← hD]; exact macF_length _ _
  have HD1L := hide (sumF_length (xorF (kblockF key) 54 ++ text))
  have HD1B := hide (sumF_bytes (xorF (kblockF key) 54 ++ text))
  have HX1 := hide hx1
  have HX2 := hide hx2
  have HB1 := hide hb1
  have HB2 := hide hb2
  have HDL := hide hDl
  have HT := hide hT
  clear hD hDl hx1 hx2 hb1 hb2 hP hT
  generalize sumF (xorF (kblockF key) 54 ++ text) = D1 at *
  generalize xorF (kblockF key) 54 = XI at *
  generalize xorF (kblockF key) 92 = XO at *
  have I1 : Hid ((Tryd.prog.info? 25).map (·.size) = some (u8s D1).toArray.size) := by show _ = _; rw [info35]; simp [u8s, HD1L.out]
  have O1 : Hid ((u8s (List.replicate 32 0)).toArray.size = (u8s D1).toArray.size) := by show _ = _; simp [u8s, HD1L.out]
  have ID : Hid ((Tryd.prog.info? 25).map (·.size) = some (u8s D).toArray.size) := by show _ = _; rw [info35]; simp [u8s, HDL.out]
  have OD : Hid ((u8s (List.replicate 32 0)).toArray.size = (u8s D).toArray.size) := by show _ = _; simp [u8s, HDL.out]
  generalize hkn : key.length = nk at *
  generalize htn : text.length = nt at *
  have HTN := hide htn
  clear hkn htn
  go_enter Tryd.func9, Tryd.ntmps9
  go_upto_region 1 with fail
  rw [← u8s_zeros]
  have B1 : Hid (Below w.heap.size w (w.alloc Z32)) := (Below.refl _ _).alloc (Nat.le_refl _) _
  have R1 := hide (Arr.new w 25 (u8s (List.replicate 32 0)))
  generalize w.alloc Z32 = w1 at *
  go_cut [5] (fun s5 wx => ∃ b, s5 = .pointer (some ⟨b, 0, none⟩) ∧ w.heap.size < b ∧ Arr wx b 25 (u8s D1) ∧ Arr wx w.heap.size 25 (u8s (List.replicate 32 0)) ∧ Below w.heap.size w wx)
  case first =>
    go_wp2_with fail
    refine (HP1.out w1 B1.out).mono ?_
    rintro e w2 ⟨v, rfl, ho, hb2⟩
    have R2 := hide (R1.out.kept hb2)
    have B2 : Hid (Below w.heap.size w w2) := B1.out.trans (hb2.mono B1.out.size)
    have O2 := hide ho
    have HS : Hid (w.heap.size < w1.heap.size) := R1.out.lt
    clear hb2 ho R1 B1 HP1
    go_wp2_with (at_builtin; refine wpList_append_bytes rfl (.tmp 7) (.tmp 8) rfl w1.heap.size v XI rfl 64 HX1.out O2.out q nt d text HTN.out rfl (HT.out.1.kept B2.out) HT.out.2.1 (by omega) (by have h1 := (own_shape O2.out (by omega)); obtain ⟨g, cp, _, h2, h3, _, _⟩ := h1; omega) ?_)
    intro v3 w3 hown hgrow
    have hvb : Hid (∀ k, v.ownBlock = some k → w.heap.size < k) := fun k hk => by have h1 := (O2.out.lt k hk).1; have h2 := HS.out; omega
    have R3 := hide (R2.out.keptR hgrow (fun e => by have := hvb.out _ e; omega))
    have B3 : Hid (Below w.heap.size w w3) := B2.out.grown hgrow B2.out.size (fun k hk => Nat.le_of_lt (hvb.out k hk))
    obtain ⟨p3, c3, hv3, hp3, _⟩ := own_piece (l := XI ++ text) (by rw [List.length_append, HX1.out, HTN.out]; exact hown) (bytes_append HB1.out HT.out.2.2.1)
    rw [List.length_append, HX1.out, HTN.out] at hv3
    subst hv3
    have P3 := hide hp3
    clear hown hgrow hp3 O2 R2 B2 hvb HS
    go_wp2_with fail
    refine (HS1.out w3 p3 c3 P3.out).mono ?_
    rintro e w4 ⟨rfl, hb4⟩
    have R4 := hide (R3.out.kept hb4)
    have B4 : Hid (Below w.heap.size w w4) := B3.out.trans (hb4.mono B3.out.size)
    clear hb4 P3 R3 B3 HS1
    go_wp2_with (refine wpList_store_row rfl 25 _ _ rfl w4.heap.size (u8s D1).toArray rfl rfl 25 (u8s (List.replicate 32 0)).toArray (heap_at w4 _ _ rfl) I1.out O1.out (all_u8s _) ?_)
    go_meet
    case rel =>
      have hlt := R4.out.lt
      exact ⟨w4.heap.size, rfl, hlt, (Arr.new w4 25 (u8s (List.replicate 32 0))).row _, (R4.out.alloc _).rowOther _ _ (Nat.ne_of_lt hlt), below_setRow (B4.out.alloc B4.out.size _) B4.out.size (by simp) _⟩
  case rest =>
    clear R1 B1 HP1 HS1
    obtain ⟨b, rfl, hwb, hb, hR, hB⟩ := hcut
    have HBA := hide hb
    have HR := hide hR
    have HB := hide hB
    clear hb hR hB
    have hsl := fun v => run_all32 v b
    obtain ⟨i0, hi0, hz0, hz1, hz2⟩ := info_parts infoU8
    have HI0 := hide hi0
    have HZ0 := hide hz0
    have HZ1 := hide hz1
    have HZ2 := hide hz2
    clear hi0 hz0 hz1 hz2
    go_upto_region 2 with fail
    refine wp_region_any (by kernel_rfl) ?_
    try (change wpAny _ _ _ _ _ _ _ (World.drew _))
    refine take_dst (i := 0) (d := 11) (v := ?_) rfl rfl (by kernel_rfl) (by kernel_rfl) (by kernel_rfl) (fun _ _ _ h => h) (by rfl) ?_ ?_
    rotate_left
    · intro wZ; go_simp; first | (with_reducible rfl) | (rw [if_pos (by omega)]; with_reducible rfl) | skip
    try simp only [Act.put, List.setIfInBounds_toArray, List.set_cons_zero, List.set_cons_succ]
    refine take_dst (i := 2) (d := 13) (v := ?_) rfl rfl (by kernel_rfl) (by kernel_rfl) (by kernel_rfl) (fun _ _ _ h => h) (by rfl) ?_ ?_
    rotate_left
    · intro wZ; go_simp; first | (with_reducible rfl) | (rw [if_pos (by omega)]; with_reducible rfl) | skip
    try simp only [Act.put, List.setIfInBounds_toArray, List.set_cons_zero, List.set_cons_succ]
    refine wpAny_ready (rs := [1]) (by kernel_rfl) (by simp) ?_
    refine (AllReady.cons rfl (fun K hK => ?_) AllReady.nil)
    go_simp
    go_wp2_with ((go_at_call 19; refine (HP2.out _ HB.out.drew).mono ?_; rintro e w5 ⟨v5, rfl, ho5, hb5⟩; have O5 := hide ho5; have R5 := hide ((show Arr wc.drew w.heap.size 25 (u8s (List.replicate 32 0)) from HR.out).kept hb5); have A5 := hide ((show Arr wc.drew b 25 (u8s D1) from HBA.out).kept hb5); have B5 : Hid (Below w.heap.size w w5) := HB.out.drew.trans (hb5.mono HB.out.drew.size); have HS5 : Hid (w.heap.size < wc.drew.heap.size) := Arr.lt (show Arr wc.drew w.heap.size 25 (u8s (List.replicate 32 0)) from HR.out); clear ho5 hb5))
    first | (refine hK _ _ ?_; clear hK K) | (clear hK K) | skip
    try simp only [Act.put, List.setIfInBounds_toArray, List.set_cons_zero, List.set_cons_succ]
    refine wpAny_ready (rs := [3]) (by kernel_rfl) (by simp) ?_
    refine (AllReady.cons rfl (fun K hK => ?_) AllReady.nil)
    refine wp_append_dst _ (d := 14) rfl (.tmp 12) (.tmp 13) 22 rfl wc.drew.heap.size 5 i0 (.int .u8 0) 1 1 Tryd.underlying22 HI0.out HZ0.out HZ1.out HZ2.out rfl (by decide) v5 64 (u8s XO) rfl O5.out ⟨b, 0, none⟩ 32 32 (u8s D1) rfl (by simp [u8s, HD1L.out]) (fun j u hj => by rw [Addr.add_mid, Nat.zero_add]; exact (A5.out.cell j).trans hj) (one_u8s _) (by unfold maxLen; omega) (by omega) (by obtain ⟨g, cp, _, h2, h3, _, _⟩ := own_shape O5.out (by omega); omega) (fun v6 w6 hown hgrow => ?_); have hvb : Hid (∀ k, v5.ownBlock = some k → w.heap.size < k) := (fun k hk => by have h1 := (O5.out.lt k hk).1; have h2 := HS5.out; omega); have R6 := hide (R5.out.keptR hgrow (fun e => by have := hvb.out _ e; omega)); have B6 : Hid (Below w.heap.size w w6) := B5.out.grown hgrow B5.out.size (fun k hk => Nat.le_of_lt (hvb.out k hk)); obtain ⟨p6, c6, hv6, hp6, _⟩ := own_piece (l := XO ++ D1) (by rw [List.length_append, HX2.out, HD1L.out, show u8s (XO ++ D1) = u8s XO ++ u8s D1 by simp [u8s]]; exact hown) (bytes_append HB2.out HD1B.out); rw [List.length_append, HX2.out, HD1L.out] at hv6; subst hv6; have P6 := hide hp6; clear hown hgrow hp6 hvb
    first | (refine hK _ _ ?_; clear hK K) | (clear hK K) | skip
    try simp only [Act.put, List.setIfInBounds_toArray, List.set_cons_zero, List.set_cons_succ]
    refine wpAny_ready (rs := [4]) (by kernel_rfl) (by simp) ?_
    refine (AllReady.cons rfl (fun K hK => ?_) AllReady.nil)
    go_simp
    go_wp2_with ((go_at_call 18; refine (HS2.out _ p6 c6 P6.out).mono ?_; rintro e w7 ⟨rfl, hb7⟩; have R7 := hide (R6.out.kept hb7); have B7 : Hid (Below w.heap.size w w7) := B6.out.trans (hb7.mono B6.out.size); clear hb7))
    first | (refine hK _ _ ?_; clear hK K) | (clear hK K) | skip
    try simp only [Act.put, List.setIfInBounds_toArray, List.set_cons_zero, List.set_cons_succ]
    refine wpAny_ready (rs := [5]) (by kernel_rfl) (by simp) ?_
    refine (AllReady.cons rfl (fun K hK => ?_) AllReady.nil)
    refine wp_store_dst rfl 25 (.tmp 4) (.tmp 15) rfl w.heap.size _ rfl rfl 25 _ R7.out ID.out OD.out (all_u8s _) ?_
    first | (refine hK _ _ ?_; clear hK K) | (clear hK K) | skip
    refine wpAny_done (by kernel_rfl) ?_ _
    go_wp2
    exact bodyPost_ret (v := .agg (u8s D).toArray) (results_cell_row Tryd.results9 _ _ w.heap.size 25 _ (0, 0) _ rfl (R7.out.row _) Tryd.underlying25 rfl ID.out) rfl ⟨rfl, below_setRow B7.out (Nat.le_refl _) R7.out.lt _⟩

end Go.Proofs.YtfopjobcjafgaabDoor
