/-
  LinkCounts, the tied card: each packet that is sent has the next nonce, in its direction, and opens as its text behind four bytes; one that is refused takes no nonce; no condition but the two tables, which the card ties to the program's text.
-/
import Derived.Test.YtanjbblkijhibaaDoorJU
import Derived.Test.YtanjbblkijhibaaDoorKD
import Derived.Test.YtanjbblkijhibaaDoorJP
namespace Go.Proofs.YtanjbblkijhibaaDoor
namespace LinkCountsProof
open Go.ChangeShapes Go.WideShapes Go.ChangeAt Go.WideMaps Go.WideElems Go.RowKit

/-- nothing is asked of such arguments -/
def Outs (n : Nat) (ok : Bool) (now : Int) : Prop := 30 < n ∨ ok = false ∨ now < 0 ∨ 1099511627776 < now

set_option maxHeartbeats 4000000 in
set_option maxRecDepth 100000 in
theorem walk_out (code mark : List Nat) (d : Bool) (N n sc : Nat) (now : Int) (sp : Option Addr) (W : World) (hk : IsKey code mark) (h : Outs n (decide (N ≤ 9223372036854775808)) now) (_hnm : n ≤ maxLen)
    (hK : ∀ v, Below W.heap.size W v → Calls Tryd.prog 8 #[] v fun e w' => e = .returned (.bool true) ∧ Below v.heap.size v w') :
    Calls Tryd.prog 7 #[keyV code mark, .bool d, .int .u64 (N : Int), .slice sp n sc, .int .i64 now] W fun r w' => r = .returned (.bool true) ∧ Below W.heap.size W w' := by
  have HK := hide hK
  have IK := hide hk.info
  have A1 := hide (key_box W code mark)
  have hN : Hid (∀ v : World, Calls Tryd.prog 9 #[keyV code mark, .bool d, .int .u64 (N : Int), .int .i64 3] v fun e w' => ∃ p, e = .returned (.tuple #[.pointer p, .int .i64 (if decide (N ≤ 9223372036854775808) = true then 0 else 2)]) ∧ Below v.heap.size v w') := fun v => by
    by_cases hN : N ≤ 9223372036854775808
    · simp only [decide_eq_true hN, if_true]
      exact (lnew_ok code mark d N 3 v hk hN ⟨by omega, by omega⟩).mono fun e w' ⟨g, h1, _, _, h2⟩ => ⟨_, h1, h2⟩
    · simp only [decide_eq_false hN, Bool.false_eq_true, if_false]
      exact (lnew_bad code mark d N 3 v (fun h => hN h.1)).mono fun e w' ⟨h1, h2⟩ => ⟨_, h1, h2⟩
  generalize decide (N ≤ 9223372036854775808) = ok at *
  obtain ⟨E, hE⟩ : ∃ E : Int, (if ok = true then (0 : Int) else 2) = E := ⟨_, rfl⟩
  have hEo : (E != 0) = !ok := by rw [← hE]; cases ok <;> rfl
  rw [hE] at hN
  clear hE
  have hcase : decide ((30 : Int) < (n : Int)) = true ∨ (decide ((30 : Int) < (n : Int)) = false ∧ (ok = false ∨ (ok = true ∧ (decide (now < 0) = true ∨ (decide (now < 0) = false ∧ decide (1099511627776 < now) = true))))) := by
    unfold Outs at h
    by_cases h1 : 30 < n
    · exact Or.inl (by simp; omega)
    · refine Or.inr ⟨by simp; omega, ?_⟩
      cases ok
      · exact Or.inl rfl
      · refine Or.inr ⟨rfl, ?_⟩
        by_cases h2 : now < 0
        · exact Or.inl (by simpa using h2)
        · refine Or.inr ⟨by simpa using h2, ?_⟩
          simp only [decide_eq_true_eq]
          rcases h with h | h | h | h
          · exact absurd h h1
          · cases h
          · exact absurd h h2
          · exact h
  clear hK h hk
  go_enter Tryd.func7, Tryd.ntmps7
  go_upto_region 1 with fail
  generalize W.alloc (Obj.cells (kCells code mark).toArray 25) = w1 at *
  go_wp2_with fail
  refine (HK.out w1 A1.out.2).mono ?_
  rintro r w2 ⟨rfl, hb⟩
  have A2 : Hid (Arr w2 W.heap.size 25 (kCells code mark) ∧ Below W.heap.size W w2) := ⟨A1.out.1.kept hb, A1.out.2.trans (hb.mono A1.out.2.size)⟩
  clear hb A1 HK
  go_wp2_with (refine wpList_load_row rfl 25 _ rfl W.heap.size rfl 25 _ (0, 0) _ A2.out.1 Tryd.underlying25 rfl IK.out ?_)
  refine (hN.out w2).mono ?_
  rintro r w3 ⟨p, rfl, hb⟩
  have HB := hide (A2.out.2.trans (hb.mono A2.out.2.size))
  clear hb A2 hN
  rcases hcase with h1 | ⟨h1, rfl | ⟨rfl, h2 | ⟨h2, h3⟩⟩⟩
  all_goals
    go_wp2
    go_ret
    exact ⟨rfl, HB.out⟩

theorem Pieces.kept {W w : World} {sp : Option Addr} {n : Nat} {P : Nat → Option Addr} {C : Nat → Nat} {B : Nat → List Nat} (h : Pieces W sp n P C B) (hb : Below W.heap.size W w) : Pieces w sp n P C B := by
  refine ⟨?_, fun i hi => (h.2.1 i hi).kept hb, h.2.2⟩
  rcases h.1 with h0 | ⟨q, o, hq, hc⟩
  · exact Or.inl h0
  · exact Or.inr ⟨q, o, hq, fun i hi => (hb.cell (p := ⟨q, o + i, none⟩) (block_lt_of_cell (hc i hi))).trans (hc i hi)⟩

/-- what lies in memory while packets are sent -/
structure CtS (W wr : World) (g : Nat) (code mark : List Nat) (L : Lk) : Prop where
  l : LkAt wr g L
  k : Arr wr W.heap.size 25 (kCells code mark)
  b : Below W.heap.size W wr
  g : W.heap.size < g
theorem CtS.kept {W wr w' : World} {g : Nat} {code mark : List Nat} {L : Lk} (h : CtS W wr g code mark L) (hb : Below wr.heap.size wr w') : CtS W w' g code mark L := ⟨h.l.kept hb, h.k.kept hb, h.b.trans (hb.mono h.b.size), h.g⟩
theorem CtS.sent {W wr w' : World} {g : Nat} {code mark : List Nat} {L L' : Lk} (h : CtS W wr g code mark L) (hl : LkAt w' g L') (hg : wr.grownBy w' (some g)) : CtS W w' g code mark L' :=
  ⟨hl, h.k.grown hg (Nat.ne_of_lt h.g), h.b.grown hg h.b.size (by intro k hk; cases hk; exact Nat.le_of_lt h.g), h.g⟩

set_option maxHeartbeats 8000000 in
set_option maxRecDepth 100000 in
theorem walk_in (code mark : List Nat) (d : Bool) (N0 n sc : Nat) (now : Int) (sp : Option Addr) (P : Nat → Option Addr) (C : Nat → Nat) (B : Nat → List Nat) (LS : Nat → Lk) (PA : Nat → List Nat → List Nat) (TT : Nat → List Nat → List Nat) (W : World) (hk : IsKey code mark) (hl : Pieces W sp n P C B) (hN : N0 ≤ 9223372036854775808) (hn : n ≤ 30) (h0 : 0 ≤ now) (h1 : now ≤ 1099511627776)
    (hPl : ∀ N xs, (PA N xs).length = xs.length + 28) (hPb : ∀ N xs, BytesN xs → BytesN (PA N xs)) (hTl : ∀ N xs, (TT N xs).length = xs.length + 4) (hTb : ∀ N xs, BytesN xs → BytesN (TT N xs)) (hTd : ∀ N xs, (TT N xs).drop 4 = xs) (hNx : ∀ N, (LS N).next = N)
    (hNew : ∀ v : World, Calls Tryd.prog 9 #[keyV code mark, .bool d, .int .u64 (N0 : Int), .int .i64 3] v fun e w' => ∃ g, e = .returned (.tuple #[.pointer (some ⟨g, 0, none⟩), .int .i64 0]) ∧ v.heap.size ≤ g ∧ LkAt w' g (LS N0) ∧ Below v.heap.size v w')
    (hS : ∀ (v : World) (g : Nat) (p : Option Addr) (c m N : Nat) (xs : List Nat), Below W.heap.size W v → LkAt v g (LS N) → W.heap.size < g → Piece v p c xs → xs.length = m → m ≤ 1196 → N < 9223372036854775808 → Calls Tryd.prog 11 #[.pointer (some ⟨g, 0, none⟩), .int .i64 now, .slice p m c] v fun e w' => ∃ t, e = .returned (.tuple #[t, .int .i64 0]) ∧ w'.ownsRow v.heap.size 5 1 t (m + 28) (u8s (PA N xs)) ∧ LkAt w' g (LS (N + 1)) ∧ v.grownBy w' (some g))
    (hE : ∀ (v : World) (g : Nat) (p : Option Addr) (c m N : Nat), LkAt v g (LS N) → N ≤ 9223372036854775808 → (1196 < m ∨ (m ≤ 1196 ∧ N = 9223372036854775808)) → Calls Tryd.prog 11 #[.pointer (some ⟨g, 0, none⟩), .int .i64 now, .slice p m c] v fun e w' => ∃ E : Int, E ≠ 0 ∧ e = .returned (.tuple #[.slice none 0 0, .int .i64 E]) ∧ w' = v)
    (hO : ∀ (v : World) (p : Option Addr) (c m N : Nat) (xs : List Nat), Below W.heap.size W v → Piece v p c (PA N xs) → xs.length = m → m ≤ 1196 → N < 9223372036854775808 → Calls Tryd.prog 13 #[keyV code mark, .slice p (m + 28) c] v fun e w' => ∃ u, e = .returned (.tuple #[noV d N, u, .int .i64 0]) ∧ w'.ownsRow v.heap.size 5 1 u (m + 4) (u8s (TT N xs)) ∧ Below v.heap.size v w')
    (hK : ∀ v, Below W.heap.size W v → Calls Tryd.prog 8 #[] v fun e w' => e = .returned (.bool true) ∧ Below v.heap.size v w') :
    Calls Tryd.prog 7 #[keyV code mark, .bool d, .int .u64 (N0 : Int), .slice sp n sc, .int .i64 now] W fun r w' => r = .returned (.bool true) ∧ Below W.heap.size W w' := by
  have HK := hide hK
  have IK := hide hk.info
  have HNW := hide hNew
  have HS := hide hS
  have HE := hide hE
  have HO := hide hO
  have HP := hide hl
  have HPL := hide hPl
  have HPB := hide hPb
  have HTL := hide hTl
  have HTB := hide hTb
  have HTD := hide hTd
  have HNX := hide hNx
  have HN0 := hide hN
  have HN30 := hide hn
  have d1 : decide ((30 : Int) < (n : Int)) = false := by simp; omega
  have d2 : decide (now < 0) = false := by simp; omega
  have d3 : decide (1099511627776 < now) = false := by simp; omega
  have A1 := hide (key_box W code mark)
  clear hK hNew hS hE hO hl hPl hPb hTl hTb hTd hNx hN h0 h1 hk hn
  go_enter Tryd.func7, Tryd.ntmps7
  go_upto_region 1 with fail
  generalize W.alloc (Obj.cells (kCells code mark).toArray 25) = w1 at *
  go_wp2_with fail
  refine (HK.out w1 A1.out.2).mono ?_
  rintro r w2 ⟨rfl, hb⟩
  have A2 : Hid (Arr w2 W.heap.size 25 (kCells code mark) ∧ Below W.heap.size W w2) := ⟨A1.out.1.kept hb, A1.out.2.trans (hb.mono A1.out.2.size)⟩
  clear hb A1 HK
  go_wp2_with (refine wpList_load_row rfl 25 _ rfl W.heap.size rfl 25 _ (0, 0) _ A2.out.1 Tryd.underlying25 rfl IK.out ?_)
  refine (HNW.out w2).mono ?_
  rintro r w3 ⟨g, rfl, hg3, hl3, hb3⟩
  have A3 : Hid (CtS W w3 g code mark (LS N0)) := ⟨hl3, A2.out.1.kept hb3, A2.out.2.trans (hb3.mono A2.out.2.size), Nat.lt_of_lt_of_le A2.out.1.lt hg3⟩
  clear hg3 hl3 hb3 A2 HNW
  go_wp2_with fail
  go_loopg [13, 14] (n + 1) (fun f s13 s14 wr => ∃ k N : Nat, s13 = .int .u64 (N : Int) ∧ s14 = .int .i64 (k : Int) ∧ k ≤ n ∧ n - k < f ∧ Hid (N ≤ 9223372036854775808 ∧ CtS W wr g code mark (LS N)))
  case atStart => exact ⟨0, N0, rfl, rfl, by omega, by omega, HN0.out, A3.out⟩
  case round =>
    obtain ⟨k, N, rfl, rfl, hk, hf, HT⟩ := hrel
    clear A3 d1 d2 d3 HN0
    by_cases hkn : k < n
    · have hki : (k : Int) < (n : Int) := by omega
      obtain ⟨q, o, hq, hc⟩ : ∃ q o, sp = some ⟨q, o, none⟩ ∧ ∀ v, Below W.heap.size W v → v.cell? ⟨q, o + k, none⟩ = some (.slice (P k) (B k).length (C k)) := by
        rcases HP.out.1 with h0 | ⟨q, o, hq, hc⟩
        · omega
        · exact ⟨q, o, hq, fun v hb => (hb.cell (p := ⟨q, o + k, none⟩) (block_lt_of_cell (hc k hkn))).trans (hc k hkn)⟩
      have hp := fun v (hb : Below W.heap.size W v) => (HP.out.2.1 k hkn).kept hb
      have hpm := (HP.out.2.1 k hkn).2.2
      subst hq
      obtain ⟨m, hm⟩ : ∃ m, (B k).length = m := ⟨_, rfl⟩
      rw [hm] at hc
      generalize P k = p at *
      generalize C k = c at *
      generalize B k = xs at *
      have HPX := hide hp
      have HM := hide hm
      have HC := hide hc
      have HXB := hide hpm.1
      have hmc : m ≤ 9223372036854775807 := by have := hpm.2.1; have := hpm.2.2; unfold maxLen at *; omega
      have c1 := HC.out wr HT.out.2.b
      clear hp hm hc hpm
      have hwk : wrap64 ((k : Int) + 1) = ((k + 1 : Nat) : Int) := by have := HN30.out; unfold wrap64; omega
      by_cases h1300 : 1300 < m
      · have d4 : decide ((1300 : Int) < (m : Int)) = true := by simp; omega
        clear HS HE HO
        go_wp2
        go_ret
        exact ⟨rfl, HT.out.2.b⟩
      · have d4 : decide ((1300 : Int) < (m : Int)) = false := by simp; omega
        by_cases hgood : m ≤ 1196 ∧ N < 9223372036854775808
        · have HG := hide hgood
          have hwn : IntKind.u64.wrap ((N : Int) + 1) = ((N + 1 : Nat) : Int) := by rw [(show ∀ n : Int, IntKind.u64.wrap n = n % 18446744073709551616 from fun n => by simp [IntKind.wrap, IntKind.bits, IntKind.signed])]; omega
          have HWN := hide hwn
          obtain ⟨M4, hM4⟩ : ∃ M4, M4 = m + 4 := ⟨_, rfl⟩
          have HM4 := hide hM4
          have ha4 : wrap64 ((m : Int) + 4) = (M4 : Int) := by unfold wrap64; omega
          have HA4 := hide ha4
          have HA5 : Hid (IntKind.i64.wrap ((m : Int) + 4) = (M4 : Int)) := by show _ = _; rw [IntKind.wrap_i64]; omega
          clear hgood h1300 hwn ha4 HE hM4
          go_upto_region 14 with fail
          go_wp2_with fail
          refine (HS.out wr g p c m N xs HT.out.2.b HT.out.2.l HT.out.2.g (HPX.out wr HT.out.2.b) HM.out HG.out.1 HG.out.2).mono ?_
          rintro r w4 ⟨t, rfl, ho4, hl4, hg4⟩
          obtain ⟨pa, ca, rfl, hpa, _⟩ := own_piece_n ho4 (by rw [HPL.out, HM.out]) (HPB.out _ _ HXB.out)
          have HPA := hide hpa
          have H4 := hide (HT.out.2.sent hl4 hg4)
          clear ho4 hl4 hg4 hpa HT c1 d4 HS
          go_upto_region 18 with fail
          go_cut [17, 18, 19] (fun s17 s18 s19 wx => s19 = .int .i64 0 ∧ ∃ (g7 : Nat) (pt : Option Addr) (ct : Nat), s17 = .pointer (some ⟨g7, 0, none⟩) ∧ s18 = .slice pt M4 ct ∧ Hid (CtS W wx g code mark (LS (N + 1)) ∧ Arr wx g7 41 (noC d N) ∧ Piece wx pt ct (TT N xs)))
          case first =>
            go_wp2_with (refine wpList_load_row rfl 25 _ rfl W.heap.size rfl 25 _ (0, 0) _ H4.out.k Tryd.underlying25 rfl IK.out ?_)
            refine (HO.out w4 pa ca m N xs H4.out.b HPA.out HM.out HG.out.1 HG.out.2).mono ?_
            rintro r w5 ⟨u, rfl, ho5, hb5⟩
            obtain ⟨pt, ct, rfl, hpt, _⟩ := own_piece_n ho5 (by rw [HTL.out, HM.out]) (HTB.out _ _ HXB.out)
            rw [← HM4.out]
            have H5 := hide (H4.out.kept hb5)
            have HPT := hide hpt
            clear ho5 hb5 hpt H4 HPA
            go_wp2
            go_meet
            case rel => exact ⟨rfl, w5.heap.size, pt, ct, rfl, rfl, H5.out.kept ((Below.refl _ _).alloc (Nat.le_refl _) _), Arr.new w5 _ (noC d N), HPT.out.kept ((Below.refl _ _).alloc (Nat.le_refl _) _)⟩
          case rest =>
            obtain ⟨rfl, g7, pt, ct, rfl, rfl, H6⟩ := hcut
            clear H4 HPA HO
            go_upto_region 19 with fail
            have hn0 : Hid (∀ v, Hid (v = wc.drew) → v.cell? ⟨g7, 0, none⟩ = some (.bool d)) := fun v hv => by rw [hv.out]; exact H6.out.2.1.cell 0
            have hn1 : Hid (∀ v, Hid (v = wc.drew) → v.cell? ⟨g7, 1, none⟩ = some (.int .u64 (N : Int))) := fun v hv => by rw [hv.out]; exact H6.out.2.1.cell 1
            have hc1 : Hid (∀ v, Hid (v = wc.drew) → v.cell? ⟨q, o + k, none⟩ = some (.slice p m c)) := fun v hv => by rw [hv.out]; exact HC.out _ H6.out.1.b.drew
            have hpl4 := HTL.out N xs
            have hsl := fun v : World => w_run_from v pt M4 ct 4 (by rw [HM4.out]; omega)
            simp only [Int.cast_ofNat_Int, show M4 - 4 = m by rw [HM4.out]; omega] at hsl
            have hpd : Hid (Piece wc.drew (cutP pt 4 ct) (ct - 4) xs) := by
              have h1 := H6.out.2.2.from 4 (by rw [HTL.out]; omega)
              rw [HTD.out] at h1
              exact h1
            have hcv1 := conv_any hpd.out.1 (c := ct - 4) m HM.out
            have hcv2 := conv_any (HPX.out _ H6.out.1.b.drew).1 (c := c) m HM.out
            have ha4 := HA4.out
            have ha5 := HA5.out
            have HFL : Hid (IntKind.i64.wrap 0 = 0) := rfl
            clear hpl4
            generalize cutP pt 4 ct = pd at *
            generalize ct - 4 = cd at *
            generalize strF xs = S at *
            refine wp_region_held_drew (S := fun v => Hid (v = wc.drew)) (by kernel_rfl) (hide rfl) (fun hHeld => ?_)
            refine take_dstH (i := 0) (d := 99) (v := ?_) rfl rfl (by kernel_rfl) (by kernel_rfl) (by kernel_rfl) (fun _ _ _ h => h) (by rfl) hHeld ?_ ?_
            rotate_left
            · intro wZ hSw; clear hSw; go_simp; first | (with_reducible rfl) | (rw [if_pos (by omega)]; with_reducible rfl) | skip
            try simp only [Act.put, List.setIfInBounds_toArray, List.set_cons_zero, List.set_cons_succ]
            refine take_dstH (i := 1) (d := 100) (v := ?_) rfl rfl (by kernel_rfl) (by kernel_rfl) (by kernel_rfl) (fun _ _ _ h => h) (by rfl) hHeld ?_ ?_
            rotate_left
            · intro wZ hSw; clear hSw; go_simp; first | (with_reducible rfl) | (rw [if_pos (by omega)]; with_reducible rfl) | skip
            try simp only [Act.put, List.setIfInBounds_toArray, List.set_cons_zero, List.set_cons_succ]
            refine take_dstH (i := 2) (d := 101) (v := ?_) rfl rfl (by kernel_rfl) (by kernel_rfl) (by kernel_rfl) (fun _ _ _ h => h) (by rfl) hHeld ?_ ?_
            rotate_left
            · intro wZ hSw; clear hSw; go_simp; first | (with_reducible rfl) | (rw [if_pos (by omega)]; with_reducible rfl) | skip
            try simp only [Act.put, List.setIfInBounds_toArray, List.set_cons_zero, List.set_cons_succ]
            refine take_dstH (i := 3) (d := 102) (v := ?_) rfl rfl (by kernel_rfl) (by kernel_rfl) (by kernel_rfl) (fun _ _ _ h => h) (by rfl) hHeld ?_ ?_
            rotate_left
            · intro wZ hSw; clear hSw; go_simp; first | (with_reducible rfl) | (rw [if_pos (by omega)]; with_reducible rfl) | skip
            try simp only [Act.put, List.setIfInBounds_toArray, List.set_cons_zero, List.set_cons_succ]
            refine take_dstH (i := 4) (d := 103) (v := ?_) rfl rfl (by kernel_rfl) (by kernel_rfl) (by kernel_rfl) (fun _ _ _ h => h) (by rfl) hHeld ?_ ?_
            rotate_left
            · intro wZ hSw; have hfS := hn0.out wZ hSw; clear hSw; go_simp; first | (with_reducible rfl) | (rw [if_pos (by omega)]; with_reducible rfl) | skip
            try simp only [Act.put, List.setIfInBounds_toArray, List.set_cons_zero, List.set_cons_succ]
            refine take_dstH (i := 5) (d := 104) (v := ?_) rfl rfl (by kernel_rfl) (by kernel_rfl) (by kernel_rfl) (fun _ _ _ h => h) (by rfl) hHeld ?_ ?_
            rotate_left
            · intro wZ hSw; clear hSw; go_simp; first | (with_reducible rfl) | (rw [if_pos (by omega)]; with_reducible rfl) | skip
            try simp only [Act.put, List.setIfInBounds_toArray, List.set_cons_zero, List.set_cons_succ]
            refine take_dstH (i := 6) (d := 105) (v := ?_) rfl rfl (by kernel_rfl) (by kernel_rfl) (by kernel_rfl) (fun _ _ _ h => h) (by rfl) hHeld ?_ ?_
            rotate_left
            · intro wZ hSw; clear hSw; go_simp; first | (with_reducible rfl) | (rw [if_pos (by omega)]; with_reducible rfl) | skip
            try simp only [Act.put, List.setIfInBounds_toArray, List.set_cons_zero, List.set_cons_succ]
            refine take_dstH (i := 7) (d := 106) (v := ?_) rfl rfl (by kernel_rfl) (by kernel_rfl) (by kernel_rfl) (fun _ _ _ h => h) (by rfl) hHeld ?_ ?_
            rotate_left
            · intro wZ hSw; clear hSw; go_simp; first | (with_reducible rfl) | (rw [if_pos (by omega)]; with_reducible rfl) | skip
            try simp only [Act.put, List.setIfInBounds_toArray, List.set_cons_zero, List.set_cons_succ]
            refine take_dstH (i := 8) (d := 107) (v := ?_) rfl rfl (by kernel_rfl) (by kernel_rfl) (by kernel_rfl) (fun _ _ _ h => h) (by rfl) hHeld ?_ ?_
            rotate_left
            · intro wZ hSw; clear hSw; go_simp; first | (with_reducible rfl) | (rw [if_pos (by omega)]; with_reducible rfl) | skip
            try simp only [Act.put, List.setIfInBounds_toArray, List.set_cons_zero, List.set_cons_succ]
            refine take_dstH (i := 9) (d := 108) (v := ?_) rfl rfl (by kernel_rfl) (by kernel_rfl) (by kernel_rfl) (fun _ _ _ h => h) (by rfl) hHeld ?_ ?_
            rotate_left
            · intro wZ hSw; clear hSw; go_simp; first | (with_reducible rfl) | (rw [if_pos (by omega)]; with_reducible rfl) | skip
            try simp only [Act.put, List.setIfInBounds_toArray, List.set_cons_zero, List.set_cons_succ]
            refine take_dstH (i := 10) (d := 109) (v := ?_) rfl rfl (by kernel_rfl) (by kernel_rfl) (by kernel_rfl) (fun _ _ _ h => h) (by rfl) hHeld ?_ ?_
            rotate_left
            · intro wZ hSw; have hfS := hn1.out wZ hSw; clear hSw; go_simp; first | (with_reducible rfl) | (rw [if_pos (by omega)]; with_reducible rfl) | skip
            try simp only [Act.put, List.setIfInBounds_toArray, List.set_cons_zero, List.set_cons_succ]
            refine take_dstH (i := 11) (d := 110) (v := ?_) rfl rfl (by kernel_rfl) (by kernel_rfl) (by kernel_rfl) (fun _ _ _ h => h) (by rfl) hHeld ?_ ?_
            rotate_left
            · intro wZ hSw; clear hSw; go_simp; first | (with_reducible rfl) | (rw [if_pos (by omega)]; with_reducible rfl) | skip
            try simp only [Act.put, List.setIfInBounds_toArray, List.set_cons_zero, List.set_cons_succ]
            refine take_dstH (i := 12) (d := 111) (v := ?_) rfl rfl (by kernel_rfl) (by kernel_rfl) (by kernel_rfl) (fun _ _ _ h => h) (by rfl) hHeld ?_ ?_
            rotate_left
            · intro wZ hSw; clear hSw; go_simp; first | (with_reducible rfl) | (rw [if_pos (by omega)]; with_reducible rfl) | skip
            try simp only [Act.put, List.setIfInBounds_toArray, List.set_cons_zero, List.set_cons_succ]
            refine take_dstH (i := 13) (d := 112) (v := ?_) rfl rfl (by kernel_rfl) (by kernel_rfl) (by kernel_rfl) (fun _ _ _ h => h) (by rfl) hHeld ?_ ?_
            rotate_left
            · intro wZ hSw; clear hSw; go_simp; first | (with_reducible rfl) | (rw [if_pos (by omega)]; with_reducible rfl) | skip
            try simp only [Act.put, List.setIfInBounds_toArray, List.set_cons_zero, List.set_cons_succ]
            refine take_dstH (i := 14) (d := 113) (v := ?_) rfl rfl (by kernel_rfl) (by kernel_rfl) (by kernel_rfl) (fun _ _ _ h => h) (by rfl) hHeld ?_ ?_
            rotate_left
            · intro wZ hSw; clear hSw; go_simp; first | (with_reducible rfl) | (rw [if_pos (by omega)]; with_reducible rfl) | skip
            try simp only [Act.put, List.setIfInBounds_toArray, List.set_cons_zero, List.set_cons_succ]
            refine take_dstH (i := 15) (d := 114) (v := ?_) rfl rfl (by kernel_rfl) (by kernel_rfl) (by kernel_rfl) (fun _ _ _ h => h) (by rfl) hHeld ?_ ?_
            rotate_left
            · intro wZ hSw; clear hSw; go_simp; first | (with_reducible rfl) | (rw [if_pos (by omega)]; with_reducible rfl) | skip
            try simp only [Act.put, List.setIfInBounds_toArray, List.set_cons_zero, List.set_cons_succ]
            refine take_dstH (i := 16) (d := 115) (v := ?_) rfl rfl (by kernel_rfl) (by kernel_rfl) (by kernel_rfl) (fun _ _ _ h => h) (by rfl) hHeld ?_ ?_
            rotate_left
            · intro wZ hSw; clear hSw; go_simp; first | (with_reducible rfl) | (rw [if_pos (by omega)]; with_reducible rfl) | skip
            try simp only [Act.put, List.setIfInBounds_toArray, List.set_cons_zero, List.set_cons_succ]
            refine take_dstH (i := 17) (d := 116) (v := ?_) rfl rfl (by kernel_rfl) (by kernel_rfl) (by kernel_rfl) (fun _ _ _ h => h) (by rfl) hHeld ?_ ?_
            rotate_left
            · intro wZ hSw; clear hSw; go_simp; first | (with_reducible rfl) | (rw [if_pos (by omega)]; with_reducible rfl) | skip
            try simp only [Act.put, List.setIfInBounds_toArray, List.set_cons_zero, List.set_cons_succ]
            refine take_dstH (i := 18) (d := 117) (v := ?_) rfl rfl (by kernel_rfl) (by kernel_rfl) (by kernel_rfl) (fun _ _ _ h => h) (by rfl) hHeld ?_ ?_
            rotate_left
            · intro wZ hSw; clear hSw; go_simp; first | (with_reducible rfl) | (rw [if_pos (by omega)]; with_reducible rfl) | skip
            try simp only [Act.put, List.setIfInBounds_toArray, List.set_cons_zero, List.set_cons_succ]
            refine take_dstH (i := 19) (d := 118) (v := ?_) rfl rfl (by kernel_rfl) (by kernel_rfl) (by kernel_rfl) (fun _ _ _ h => h) (by rfl) hHeld ?_ ?_
            rotate_left
            · intro wZ hSw; clear hSw; go_simp; first | (with_reducible rfl) | (rw [if_pos (by omega)]; with_reducible rfl) | skip
            try simp only [Act.put, List.setIfInBounds_toArray, List.set_cons_zero, List.set_cons_succ]
            refine take_dstH (i := 20) (d := 119) (v := ?_) rfl rfl (by kernel_rfl) (by kernel_rfl) (by kernel_rfl) (fun _ _ _ h => h) (by rfl) hHeld ?_ ?_
            rotate_left
            · intro wZ hSw; have hfS := hc1.out wZ hSw; clear hSw; go_simp; first | (with_reducible rfl) | (rw [if_pos (by omega)]; with_reducible rfl) | skip
            try simp only [Act.put, List.setIfInBounds_toArray, List.set_cons_zero, List.set_cons_succ]
            refine take_dstH (i := 21) (d := 120) (v := ?_) rfl rfl (by kernel_rfl) (by kernel_rfl) (by kernel_rfl) (fun _ _ _ h => h) (by rfl) hHeld ?_ ?_
            rotate_left
            · intro wZ hSw; clear hSw; go_simp; first | (with_reducible rfl) | (rw [if_pos (by omega)]; with_reducible rfl) | skip
            try simp only [Act.put, List.setIfInBounds_toArray, List.set_cons_zero, List.set_cons_succ]
            refine take_dstH (i := 22) (d := 121) (v := ?_) rfl rfl (by kernel_rfl) (by kernel_rfl) (by kernel_rfl) (fun _ _ _ h => h) (by rfl) hHeld ?_ ?_
            rotate_left
            · intro wZ hSw; clear hSw; go_simp; first | (with_reducible rfl) | (rw [if_pos (by omega)]; with_reducible rfl) | skip
            try simp only [Act.put, List.setIfInBounds_toArray, List.set_cons_zero, List.set_cons_succ]
            refine take_dstH (i := 23) (d := 122) (v := ?_) rfl rfl (by kernel_rfl) (by kernel_rfl) (by kernel_rfl) (fun _ _ _ h => h) (by rfl) hHeld ?_ ?_
            rotate_left
            · intro wZ hSw; clear hSw; go_simp; first | (with_reducible rfl) | (rw [if_pos (by omega)]; with_reducible rfl) | skip
            try simp only [Act.put, List.setIfInBounds_toArray, List.set_cons_zero, List.set_cons_succ]
            refine take_dstH (i := 24) (d := 123) (v := ?_) rfl rfl (by kernel_rfl) (by kernel_rfl) (by kernel_rfl) (fun _ _ _ h => h) (by rfl) hHeld ?_ ?_
            rotate_left
            · intro wZ hSw; clear hSw; go_simp; first | (with_reducible rfl) | (rw [if_pos (by omega)]; with_reducible rfl) | skip
            try simp only [Act.put, List.setIfInBounds_toArray, List.set_cons_zero, List.set_cons_succ]
            refine take_dstH (i := 25) (d := 124) (v := ?_) rfl rfl (by kernel_rfl) (by kernel_rfl) (by kernel_rfl) (fun _ _ _ h => h) (by rfl) hHeld ?_ ?_
            rotate_left
            · intro wZ hSw; clear hSw; go_simp; first | (with_reducible rfl) | (rw [if_pos (by omega)]; with_reducible rfl) | skip
            try simp only [Act.put, List.setIfInBounds_toArray, List.set_cons_zero, List.set_cons_succ]
            refine take_dstH (i := 26) (d := 125) (v := ?_) rfl rfl (by kernel_rfl) (by kernel_rfl) (by kernel_rfl) (fun _ _ _ h => h) (by rfl) hHeld ?_ ?_
            rotate_left
            · intro wZ hSw; clear hSw; go_simp; first | (with_reducible rfl) | (rw [if_pos (by omega)]; with_reducible rfl) | skip
            try simp only [Act.put, List.setIfInBounds_toArray, List.set_cons_zero, List.set_cons_succ]
            refine take_dstH (i := 27) (d := 126) (v := ?_) rfl rfl (by kernel_rfl) (by kernel_rfl) (by kernel_rfl) (fun _ _ _ h => h) (by rfl) hHeld ?_ ?_
            rotate_left
            · intro wZ hSw; clear hSw; go_simp; first | (with_reducible rfl) | (rw [if_pos (by omega)]; with_reducible rfl) | skip
            try simp only [Act.put, List.setIfInBounds_toArray, List.set_cons_zero, List.set_cons_succ]
            refine take_dstH (i := 29) (d := 128) (v := ?_) rfl rfl (by kernel_rfl) (by kernel_rfl) (by kernel_rfl) (fun _ _ _ h => h) (by rfl) hHeld ?_ ?_
            rotate_left
            · intro wZ hSw; clear hSw; go_simp; first | (with_reducible rfl) | (rw [if_pos (by omega)]; with_reducible rfl) | skip
            try simp only [Act.put, List.setIfInBounds_toArray, List.set_cons_zero, List.set_cons_succ]
            refine take_dstH (i := 30) (d := 129) (v := ?_) rfl rfl (by kernel_rfl) (by kernel_rfl) (by kernel_rfl) (fun _ _ _ h => h) (by rfl) hHeld ?_ ?_
            rotate_left
            · intro wZ hSw; clear hSw; go_simp; first | (with_reducible rfl) | (rw [if_pos (by omega)]; with_reducible rfl) | skip
            try simp only [Act.put, List.setIfInBounds_toArray, List.set_cons_zero, List.set_cons_succ]
            refine take_dstH (i := 31) (d := 130) (v := ?_) rfl rfl (by kernel_rfl) (by kernel_rfl) (by kernel_rfl) (fun _ _ _ h => h) (by rfl) hHeld ?_ ?_
            rotate_left
            · intro wZ hSw; clear hSw; go_simp; first | (with_reducible rfl) | (rw [if_pos (by omega)]; with_reducible rfl) | skip
            try simp only [Act.put, List.setIfInBounds_toArray, List.set_cons_zero, List.set_cons_succ]
            refine take_dstH (i := 32) (d := 131) (v := ?_) rfl rfl (by kernel_rfl) (by kernel_rfl) (by kernel_rfl) (fun _ _ _ h => h) (by rfl) hHeld ?_ ?_
            rotate_left
            · intro wZ hSw; have hfS := hc1.out wZ hSw; clear hSw; go_simp; first | (with_reducible rfl) | (rw [if_pos (by omega)]; with_reducible rfl) | skip
            try simp only [Act.put, List.setIfInBounds_toArray, List.set_cons_zero, List.set_cons_succ]
            refine wpAnyH_ready (rs := [28, 33]) (by kernel_rfl) (by simp) ?_
            refine (AllReadyH.cons rfl (fun K hK => ?_) (AllReadyH.cons rfl (fun K hK => ?_) AllReadyH.nil))
            focus
              go_simp
              refine hK.out _ _ ?_ (fun hHeld => ?_)
              · exact hHeld
              clear hK K
              try simp only [Act.put, List.setIfInBounds_toArray, List.set_cons_zero, List.set_cons_succ]
              refine wpAnyH_ready (rs := [33]) (by kernel_rfl) (by simp) ?_
              refine (AllReadyH.cons rfl (fun K hK => ?_) AllReadyH.nil)
              go_simp
              refine hK.out _ _ ?_ (fun hHeld => ?_)
              · exact hHeld
              clear hK K
              try simp only [Act.put, List.setIfInBounds_toArray, List.set_cons_zero, List.set_cons_succ]
              refine take_dstH (i := 34) (d := 133) (v := ?_) rfl rfl (by kernel_rfl) (by kernel_rfl) (by kernel_rfl) (fun _ _ _ h => h) (by rfl) hHeld ?_ ?_
              rotate_left
              · intro wZ hSw; clear hSw; go_simp; first | (with_reducible rfl) | (rw [if_pos (by omega)]; with_reducible rfl) | skip
              try simp only [Act.put, List.setIfInBounds_toArray, List.set_cons_zero, List.set_cons_succ]
              refine take_dstH (i := 35) (d := 134) (v := ?_) rfl rfl (by kernel_rfl) (by kernel_rfl) (by kernel_rfl) (fun _ _ _ h => h) (by rfl) hHeld ?_ ?_
              rotate_left
              · intro wZ hSw; clear hSw; go_simp; first | (with_reducible rfl) | (rw [if_pos (by omega)]; with_reducible rfl) | skip
              try simp only [Act.put, List.setIfInBounds_toArray, List.set_cons_zero, List.set_cons_succ]
              refine wpAnyH_done (by kernel_rfl) ?_ _
            rotate_left 1
            focus
              go_simp
              refine hK.out _ _ ?_ (fun hHeld => ?_)
              · exact hHeld
              clear hK K
              try simp only [Act.put, List.setIfInBounds_toArray, List.set_cons_zero, List.set_cons_succ]
              refine wpAnyH_ready (rs := [28]) (by kernel_rfl) (by simp) ?_
              refine (AllReadyH.cons rfl (fun K hK => ?_) AllReadyH.nil)
              go_simp
              refine hK.out _ _ ?_ (fun hHeld => ?_)
              · exact hHeld
              clear hK K
              try simp only [Act.put, List.setIfInBounds_toArray, List.set_cons_zero, List.set_cons_succ]
              refine take_dstH (i := 34) (d := 133) (v := ?_) rfl rfl (by kernel_rfl) (by kernel_rfl) (by kernel_rfl) (fun _ _ _ h => h) (by rfl) hHeld ?_ ?_
              rotate_left
              · intro wZ hSw; clear hSw; go_simp; first | (with_reducible rfl) | (rw [if_pos (by omega)]; with_reducible rfl) | skip
              try simp only [Act.put, List.setIfInBounds_toArray, List.set_cons_zero, List.set_cons_succ]
              refine take_dstH (i := 35) (d := 134) (v := ?_) rfl rfl (by kernel_rfl) (by kernel_rfl) (by kernel_rfl) (fun _ _ _ h => h) (by rfl) hHeld ?_ ?_
              rotate_left
              · intro wZ hSw; clear hSw; go_simp; first | (with_reducible rfl) | (rw [if_pos (by omega)]; with_reducible rfl) | skip
              try simp only [Act.put, List.setIfInBounds_toArray, List.set_cons_zero, List.set_cons_succ]
              refine wpAnyH_done (by kernel_rfl) ?_ _
            all_goals
              have H7 := hide (H6.out.1.kept (Below.refl _ _).drew)
              have HNT := hide (next_at wc.drew g (LS (N + 1)) H7.out.l)
              rw [HNX.out] at HNT
              clear hHeld hn0 hn1 hc1 hsl hpd hcv1 hcv2 ha4 ha5 HFL H6
              have hwn := HWN.out
              obtain ⟨N1, hN1⟩ : ∃ N1, N1 = N + 1 := ⟨_, rfl⟩
              rw [← hN1] at hwn HNT H7
              have HN1 := hide hN1
              clear hN1
              go_wp2_with fail
              refine HNT.out.mono ?_
              rintro r w8 ⟨rfl, rfl⟩
              go_wp2
              go_roundg (n - k)
              case measure => omega
              case rel => exact ⟨k + 1, N1, rfl, by rw [hwk], by omega, by omega, by rw [HN1.out]; have := HG.out.2; omega, H7.out⟩
        · have HB : Hid (1196 < m ∨ (m ≤ 1196 ∧ N = 9223372036854775808)) := by
            have := HT.out.1
            show _ ∨ _
            omega
          clear hgood h1300 HS HO
          go_upto_region 14 with fail
          go_wp2_with fail
          refine (HE.out wr g p c m N HT.out.2.l HT.out.1 HB.out).mono ?_
          rintro r w4 ⟨E, hE, rfl, rfl⟩
          have e1 : (E != 0) = true := by simpa using hE
          have HNT := hide (next_at w4 g (LS N) HT.out.2.l)
          rw [HNX.out] at HNT
          have hcase : decide ((m : Int) ≤ 1196) = false ∨ (decide ((m : Int) ≤ 1196) = true ∧ decide ((N : Int) < 9223372036854775808) = false) := by
            rcases HB.out with h | ⟨h1, h2⟩
            · exact Or.inl (by simp; omega)
            · exact Or.inr ⟨by simp; omega, by simp; omega⟩
          clear hE
          go_wp2_with fail
          refine HNT.out.mono ?_
          rintro r w5 ⟨rfl, rfl⟩
          rcases hcase with h1 | ⟨h1, h2⟩
          all_goals
            go_wp2
            go_roundg (n - k)
            case measure => omega
            case rel => exact ⟨k + 1, N, rfl, by rw [hwk], by omega, by omega, HT.out.1, HT.out.2⟩
    · have hki : ¬ (k : Int) < (n : Int) := by omega
      clear HS HE HO
      go_wp2
      go_ret
      exact ⟨rfl, HT.out.2.b⟩

theorem walk (code mark : List Nat) (d : Bool) (b : Int) (sp : Option Addr) (n sc : Nat) (P : Nat → Option Addr) (C : Nat → Nat) (B : Nat → List Nat) (now : Int) (W : World) (hk : IsKey code mark) (hb : (Lit.int .u64 b).wf = true) (hl : Pieces W sp n P C B) (_hw : (Lit.int .i64 now).wf = true) (hL : Laid W) :
    Calls Tryd.prog 7 #[keyV code mark, .bool d, .int .u64 b, .slice sp n sc, .int .i64 now] W fun r w' => r = .returned (.bool true) ∧ Below W.heap.size W w' := by
  obtain ⟨N, rfl, hN⟩ := wf_u64 hb
  have hL2 := hL.size
  have hLB : ∀ v, Below W.heap.size W v → Laid v := fun v hb => hL.keptB (B := W.heap.size) hL2 hb
  have hK := fun v hb => lknown_any v (hLB v hb)
  by_cases h : Outs n (decide (N ≤ 9223372036854775808)) now
  · exact walk_out code mark d N n sc now sp W hk h hl.2.2 hK
  · unfold Outs at h
    have hN2 : N ≤ 9223372036854775808 := by
      by_cases h2 : N ≤ 9223372036854775808
      · exact h2
      · exact absurd (Or.inr (Or.inl (decide_eq_false h2))) h
    have h30 : n ≤ 30 := by omega
    have h0 : 0 ≤ now := by omega
    have h1 : now ≤ 1099511627776 := by omega
    refine walk_in code mark d N n sc now sp P C B (fun N => newL code mark d N 3) (fun N xs => sndP (newL code mark d N 3) now xs) (fun N xs => sndT (newL code mark d N 3) now xs) W hk hl hN2 h30 h0 h1 (fun N xs => sndP_length _ _ _) (fun N xs h => sndP_bytes hk _ h) (fun N xs => sndT_length _ _ _) (fun N xs h => sndT_bytes _ _ h) (fun N xs => sndT_text _ _ _) (fun N => rfl)
      (fun v => lnew_ok code mark d N 3 v hk hN2 ⟨by omega, by omega⟩) ?_ ?_ ?_ hK
    · intro v g p c m N xs hb hl' hg hP hm hm2 hN
      exact send_good g (newL code mark d N 3) p c m xs now v hl' ⟨h0, h1⟩ hN hP hm hm2 (hLB v hb) (by omega)
    · intro v g p c m N hl' hN hE
      rcases hE with h | ⟨h, h2⟩
      · exact (send_long g _ p now m c v hl' ⟨h0, h1⟩ h).mono fun e w' ⟨h1, h2⟩ => ⟨3, by omega, h1, h2⟩
      · exact (send_spent g _ p now m c v hl' ⟨h0, h1⟩ h h2).mono fun e w' ⟨h1, h2⟩ => ⟨91, by omega, h1, h2⟩
    · intro v p c m N xs hb hP hm hm2 hN
      have h := open_pa code mark d N p c (m + 4) (sndT (newL code mark d N 3) now xs) v hk hN hP (by rw [sndT_length, hm]) (by omega) (hLB v hb)
      exact h

set_option maxRecDepth 100000 in
theorem lifted (os : Os) (started : os.Started) (H : Type) (enc : TypeId × Value → H) :
    ReturnsInHanded {} Tryd.checked os 7 .any (fun w args => (Rows.linkCountsSpec.pre enc Tryd.prog Tryd.f7 [] false w args ∧ laidMetH Tryd.prog laid2 w) ∧ sizedMet enc Tryd.prog Tryd.f7 (OpenSpec.ofChange Rows.linkCountsSpec) false w args)
      (Rows.linkCountsSpec.post enc Tryd.prog Tryd.f7 false true false false) := by
  refine returnsInHanded_of_change_and (C := Tryd.checked) (X := fun w _ => laidMetH Tryd.prog laid2 w) (fun _ _ _ hh h => h.of_heap hh) own started (by kernel_rfl) Tryd.func7
    (ChangeSpec.witness_shaped (enc := enc) (C := Tryd.checked) (os := os) (X := fun w _ => laidMetH Tryd.prog laid2 w) false (World.doorLaid Tryd.prog 400 os) #[.agg zeroK.toArray, .bool false, .int .u64 0, .slice none 0 0, .int .i64 0] 8 rfl (World.shaped_of_RefB (by kernel_rfl) (by kernel_rfl)) (by kernel_rfl) (by kernel_rfl) (by kernel_rfl) (door_met os _)) ?_
  intro W base args ds gs before hval0 hW _ hsz hL _
  have hval : ∀ (j : Nat) t v, Tryd.f7.params[j]? = some t → args[j]? = some v → Value.okWide Tryd.prog W .any base t v := hval0
  have hW' := hW
  obtain ⟨p, q, hA0, hV, rfl, hfz, hnd⟩ := hW
  have hA : DataW.TrodAll enc Tryd.prog W 0 (fun _ => true) true Tryd.f7.params.toList args.toList ds p := hA0
  rw [Tryd.params7] at hA hval
  obtain ⟨v0, vs0, d0, ds0, p0, q0, hargs, rfl, rfl, h0, r0⟩ := trodAll_cons hA
  obtain ⟨v1, vs1, d1, ds1, p1, q1, rfl, rfl, rfl, h1, r1⟩ := trodAll_cons r0
  obtain ⟨v2, vs2, d2, ds2, p2, q2, rfl, rfl, rfl, h2, r2⟩ := trodAll_cons r1
  obtain ⟨v3, vs3, d3, ds3, p3, q3, rfl, rfl, rfl, h3, r3⟩ := trodAll_cons r2
  obtain ⟨v4, vs4, d4, ds4, p4, q4, rfl, rfl, rfl, h4, r4⟩ := trodAll_cons r3
  obtain ⟨rfl, rfl, rfl⟩ := trodAll_nil r4
  obtain rfl : args = #[v0, v1, v2, v3, v4] := by cases args; simp_all
  obtain ⟨rfl, rfl⟩ := trodVars_none hV
  have k0 := h0
  obtain ⟨x0, y0, rfl, w0, z0⟩ := open_key (hval 0 25 v0 rfl rfl) h0
  obtain ⟨a1, rfl, rfl, rfl⟩ := open_bool Tryd.underlying4 (hval 1 4 v1 rfl rfl) h1
  obtain ⟨a2, rfl, rfl, rfl, w2⟩ := open_int Tryd.underlying26 (hval 2 26 v2 rfl rfl) h2
  obtain ⟨a3, len3, cap3, rfl⟩ := okWide_slice Tryd.underlying39 (hval 3 39 v3 rfl rfl)
  have k3 := h3
  have lt3 : ∀ x ∈ p3, x.block < W.heap.size := by obtain ⟨m, hm⟩ := k3; exact DataW.trod_lt m _ _ _ hm
  obtain ⟨fuel3, hf3⟩ := h3
  obtain ⟨a3', len3', cap3', P3, C3, B3, hcs3, w3⟩ := pieces_of hf3
  simp [Value.cells] at hcs3
  obtain ⟨rfl, rfl, rfl⟩ := hcs3
  clear hf3
  obtain ⟨a4, rfl, rfl, rfl, w4⟩ := open_int Tryd.underlying3 (hval 4 3 v4 rfl rfl) h4
  clear hA0 hval0
  refine (walk x0 y0 a1 a2 a3 len3 cap3 P3 C3 B3 a4 W w0 w2 w3 w4 (of_laid hL)).mono fun e W' ⟨he, bel⟩ => ?_
  subst he
  exact ⟨_, rfl, _, _, _, [], _, [], hW', trodAll_mk1 (shut_bool Tryd.underlying4 _), (trodAll_cons_mk (Below.trod laidOut (by kernel_rfl) (of_decide_eq_true (by kernel_rfl)) k0 bel (fun x hx => (z0 x hx).elim)) (trodAll_cons_mk (shut_bool Tryd.underlying4 _) (trodAll_cons_mk (shut_int Tryd.underlying26 w2) (trodAll_cons_mk (Below.trod laidOut (by kernel_rfl) (of_decide_eq_true (by kernel_rfl)) k3 bel lt3) (trodAll_cons_mk (shut_int Tryd.underlying3 w4) trodAll_mk0))))), rfl, bel.frame _, fun h => by cases h⟩

theorem row : Rows.LinkCountsSaid :=
  OpenClaim.holds_of_wide 7 Tryd.f7 rfl rfl rfl rfl rfl rfl rfl ⟨rfl, rfl, rfl, rfl, rfl⟩ rfl rfl rfl rfl rfl (by kernel_rfl) Tryd.func7 (by kernel_rfl)
    (of_decide_eq_true (by kernel_rfl)) (by unfold Func.isWrapper; first | (rw [if_pos (by decide +kernel)]; kernel_rfl) | (rw [if_neg (by decide +kernel)]; exact ⟨rfl, rfl⟩))
    (fun os started H enc _ => lifted os started H enc)

theorem card : Rows.LinkCountsCardSaid :=
  Claim7.holds_tied_plain_at .later [] [.data, .data] true (true, Rows.linkCountsCard.stood.harness.2) false
    row (fun _ h => by cases h) (by kernel_rfl) (fun _ h => by cases h) linkCounts_row_tie rfl ⟨rfl, rfl⟩ (by kernel_rfl) rfl
    (fun f fn hf hfn => by
      obtain rfl : f = 7 := Option.some.inj ((show Tryd.prog.funcNamed "oriel/oriellaw09.LinkCounts" = some 7 by kernel_rfl).symm.trans hf) |>.symm
      obtain rfl : fn = Tryd.f7 := (Option.some.inj (Tryd.func7.symm.trans hfn)).symm
      exact ⟨by kernel_rfl, fun j t ht => by
        rw [Tryd.params7] at ht
        have hm : t ∈ [25, 4, 26, 39, 3] := by simpa using Array.mem_of_getElem? ht
        have hall : ([25, 4, 26, 39, 3].all fun u => !Tryd.prog.wantsStandIn u) = true := by kernel_rfl
        exact (show Tryd.prog.wantsStandIn t = false by simpa using List.all_eq_true.1 hall t hm)⟩)
    (by kernel_rfl)

end LinkCountsProof

/-- Each packet that is sent has the next nonce, in its direction, and opens as its text behind four bytes; one that is refused takes no nonce. -/
theorem linkCounts_holds : Rows.LinkCountsCardSaid := LinkCountsProof.card

#print axioms linkCounts_holds
end Go.Proofs.YtanjbblkijhibaaDoor
