/-
  MacLong, the tied card: a key of more than 64 bytes is as its digest; noughts behind one, up to 64 bytes, change nothing; and a mark is two digests (of keys or texts of more than 300 bytes nothing is asked but the known rows): the law returns true, and what is handed in stays. No condition but the two tables, which the card ties to the program's text.
-/
import Derived.Test.YtfopjobcjafgaabDoorMX
import Derived.Test.YtfopjobcjafgaabDoorFA
namespace Go.Proofs.YtfopjobcjafgaabDoor
namespace MacLongProof
open Go.ChangeShapes Go.WideShapes Go.ChangeAt Go.WideMaps Go.WideElems Go.RowKit

theorem kblock_sum {key : List Nat} (h : 64 < key.length) : kblockF (sumF key) = kblockF key := by
  rw [kblockF_long h, kblockF_short (by rw [sumF_length]; omega), sumF_length]
theorem kblock_more {key : List Nat} {m : Nat} (h : key.length + m ≤ 64) : kblockF (key ++ List.replicate m 0) = kblockF key := by
  rw [kblockF_short (by simp; omega), kblockF_short (by omega), List.append_assoc]
  congr 1
  rw [List.replicate_append_replicate]
  congr 1
  simp
  omega
theorem kblock_at {key : List Nat} (h : ¬ 64 < key.length) (i : Nat) : (kblockF key).getD i 0 = if i < key.length then key.getD i 0 else 0 := by
  rw [kblockF_short h]
  by_cases hi : i < key.length
  · simp [hi, List.getD, List.getElem?_append]
  · simp only [hi, if_false, List.getD, List.getElem?_append]
    simp [List.getElem?_replicate]
    split <;> simp

theorem take_more (l : List Nat) (i : Nat) (h : i < l.length) : l.take (i + 1) = l.take i ++ [l.getD i 0] := by
  rw [List.take_add_one]
  simp [List.getD, h]

theorem own_mono {w : World} {B B' : Nat} {v : Value} {n : Nat} {xs : List Value} (h : w.ownsRow B' 5 1 v n xs) (hB : B ≤ B') : w.ownsRow B 5 1 v n xs := by
  refine ⟨h.1, ?_⟩
  rcases h.2 with h0 | ⟨g, cap, cur, h1, h2, h3⟩
  · exact .inl h0
  · exact .inr ⟨g, cap, cur, h1, Nat.le_trans hB h2, h3⟩

/-- the digest of two pieces that stand in a slice -/
theorem ssum_two (b cc : Nat) (p1 p2 : Option Addr) (c1 c2 : Nat) (x1 x2 D : List Nat) (v : World) (h1 : Piece v p1 c1 x1) (h2 : Piece v p2 c2 x2) (hs : x1.length + x2.length ≤ 100000) (hA : Arr v b 22 [.slice p1 x1.length c1, .slice p2 x2.length c2]) (hL : Laid v) (hD : sumF (x1 ++ x2) = D) :
    Calls Tryd.prog 13 #[.slice (some ⟨b, 0, none⟩) 2 cc] v fun e w' => e = .returned (.agg (u8s D).toArray) ∧ Below v.heap.size v w' :=
  ssum_of (some ⟨b, 0, none⟩) 2 cc (two p1 p2) (two c1 c2) (two x1 x2) D v
    (Or.inr ⟨b, 0, rfl, fun i hi => by
      match i, hi with
      | 0, _ => exact hA.cell 0
      | 1, _ => exact hA.cell 1⟩)
    (fun i hi => by
      match i, hi with
      | 0, _ => exact h1
      | 1, _ => exact h2) (by simp [joinF, two]; omega) (by omega) hL (by simpa [joinF, two] using hD)

/-- two rows of the call's own that share no block -/
def Apart (a b : Value) : Prop := ∀ k, a.ownBlock = some k → b.ownBlock = some k → False

set_option maxHeartbeats 16000000 in
set_option maxRecDepth 100000 in
theorem walk_in (p : Option Addr) (c : Nat) (key : List Nat) (q : Option Addr) (d : Nat) (text : List Nat) (more : Int) (W : World) (hK : Piece W p c key) (hT : Piece W q d text) (hL : Laid W) (h1 : key.length ≤ 300) (h2 : text.length ≤ 300) :
    Calls Tryd.prog 6 #[.slice p key.length c, .slice q text.length d, .int .i64 more] W fun e W' => e = .returned (.bool true) ∧ Below W.heap.size W W' := by
  have hL2 := hL.size
  have HL := hide hL
  have HK := hide hK
  have HT := hide hT
  have HLB : Hid (∀ v, Below W.heap.size W v → Laid v) := fun v hb => hL.keptB (B := W.heap.size) hL2 hb
  have HO1 := hide (fun (v : World) (hb : Below W.heap.size W v) (b : Nat) (hA : Arr v b 22 [.slice q text.length d]) => of_one p c key b 1 q d text (macF key text) v (hK.kept hb) (by omega) (hT.kept hb) (by omega) (hA.cell 0) (HLB.out v hb) rfl)
  have HO2 := hide (fun (v : World) (hb : Below W.heap.size W v) (hbig : 64 < key.length) (s : Nat) (hs : Arr v s 25 (u8s (sumF key))) (b : Nat) (hA : Arr v b 22 [.slice q text.length d]) => of_one (some ⟨s, 0, none⟩) 32 (sumF key) b 1 q d text (macF key text) v (piece_arr hs (sumF_length _) (sumF_bytes _) (by omega)) (by rw [sumF_length]; omega) (hT.kept hb) (by omega) (hA.cell 0) (HLB.out v hb) (by unfold macF; rw [kblock_sum hbig]))
  rw [sumF_length] at HO2
  have HO3 : Hid (∀ (v : World), Below W.heap.size W v → ∀ (m : Nat), key.length + m ≤ 64 → ∀ (p4 : Option Addr) (c4 : Nat), Piece v p4 c4 (key ++ List.replicate m 0) → ∀ (b : Nat), Arr v b 22 [.slice q text.length d] →
      Calls Tryd.prog 8 #[.slice p4 (key.length + m) c4, .slice (some ⟨b, 0, none⟩) 1 1] v fun e w' => e = .returned (.agg (u8s (macF key text)).toArray) ∧ Below v.heap.size v w') := fun v hb m hm p4 c4 h4 b hA => by
    have h := of_one p4 c4 (key ++ List.replicate m 0) b 1 q d text (macF key text) v h4 (by simp; omega) (hT.kept hb) (by omega) (hA.cell 0) (HLB.out v hb) (by unfold macF; rw [kblock_more hm])
    rw [List.length_append, List.length_replicate] at h
    exact h
  have HSK := hide (fun (v : World) (hb : Below W.heap.size W v) => ssum_one p c key (sumF key) v (hK.kept hb) (by omega) (HLB.out v hb) (Nat.le_trans hL2 hb.size) rfl)
  have hx1 : (xorF (kblockF key) 54).length = 64 := by rw [xorF_length, kblockF_length]
  have hx2 : (xorF (kblockF key) 92).length = 64 := by rw [xorF_length, kblockF_length]
  have HS1 := hide (fun (v : World) (hb : Below W.heap.size W v) (p5 : Option Addr) (c5 : Nat) (h5 : Piece v p5 c5 (xorF (kblockF key) 54)) (b : Nat) (hA : Arr v b 22 [.slice p5 64 c5, .slice q text.length d]) => ssum_two b 2 p5 q c5 d (xorF (kblockF key) 54) text (sumF (xorF (kblockF key) 54 ++ text)) v h5 (hT.kept hb) (by omega) (by rw [hx1]; exact hA) (HLB.out v hb) rfl)
  have HS2 := hide (fun (v : World) (hb : Below W.heap.size W v) (p5 : Option Addr) (c5 : Nat) (h5 : Piece v p5 c5 (xorF (kblockF key) 92)) (s : Nat) (hs : Arr v s 25 (u8s (sumF (xorF (kblockF key) 54 ++ text)))) (b : Nat) (hA : Arr v b 22 [.slice p5 64 c5, .slice (some ⟨s, 0, none⟩) 32 32]) => ssum_two b 2 p5 (some ⟨s, 0, none⟩) c5 32 (xorF (kblockF key) 92) (sumF (xorF (kblockF key) 54 ++ text)) (macF key text) v h5 (piece_arr hs (sumF_length _) (sumF_bytes _) (by omega)) (by rw [hx2, sumF_length]; omega) (by rw [hx2, sumF_length]; exact hA) (HLB.out v hb) rfl)
  have HE := hide (eq_self (macF key text) (macF_length _ _) (macF_bytes _ _))
  have HDL := hide (macF_length key text)
  have HKD := hide (sumF_length key)
  have HD1 := hide (sumF_length (xorF (kblockF key) 54 ++ text))
  have HX1 := hide hx1
  have HX2 := hide hx2
  have HXB1 := hide (xorF_bytes (x := 54) (kblockF_bytes hK.2.2.1) (by omega))
  have HXB2 := hide (xorF_bytes (x := 92) (kblockF_bytes hK.2.2.1) (by omega))
  have HXA1 : Hid (∀ i, i < 64 → (xorF (kblockF key) 54).getD i 0 = (kblockF key).getD i 0 ^^^ 54) := fun i hi => xorF_at _ _ _ (by rw [kblockF_length]; exact hi)
  have HXA2 : Hid (∀ i, i < 64 → (xorF (kblockF key) 92).getD i 0 = (kblockF key).getD i 0 ^^^ 92) := fun i hi => xorF_at _ _ _ (by rw [kblockF_length]; exact hi)
  have HKA : Hid (¬ 64 < key.length → ∀ i, (kblockF key).getD i 0 = if i < key.length then key.getD i 0 else 0) := fun h => kblock_at h
  have HKB := hide (kblockF_bytes hK.2.2.1)
  clear hK hT hL hx1 hx2
  generalize macF key text = D at *
  generalize sumF (xorF (kblockF key) 54 ++ text) = D1 at *
  generalize xorF (kblockF key) 54 = XI at *
  generalize xorF (kblockF key) 92 = XO at *
  generalize kblockF key = KB at *
  generalize sumF key = DK at *
  have ID : Hid ((Tryd.prog.info? 25).map (·.size) = some (u8s D).toArray.size) := by show _ = _; rw [info35]; simp [u8s, HDL.out]
  have OD : Hid ((u8s (List.replicate 32 0)).toArray.size = (u8s D).toArray.size) := by show _ = _; simp [u8s, HDL.out]
  have IK : Hid ((Tryd.prog.info? 25).map (·.size) = some (u8s DK).toArray.size) := by show _ = _; rw [info35]; simp [u8s, HKD.out]
  have OK : Hid ((u8s (List.replicate 32 0)).toArray.size = (u8s DK).toArray.size) := by show _ = _; simp [u8s, HKD.out]
  have I1 : Hid ((Tryd.prog.info? 25).map (·.size) = some (u8s D1).toArray.size) := by show _ = _; rw [info35]; simp [u8s, HD1.out]
  have O1 : Hid ((u8s (List.replicate 32 0)).toArray.size = (u8s D1).toArray.size) := by show _ = _; simp [u8s, HD1.out]
  generalize hn : key.length = n at *
  have HN := hide hn
  generalize hnt : text.length = nt at *
  clear hn hnt
  have g1 : ¬ (300 : Int) < (n : Int) := by omega
  have g2 : ¬ (300 : Int) < (nt : Int) := by omega
  go_enter Tryd.func6, Tryd.ntmps6
  go_wp2_with fail
  refine (known_any _ HL.out).mono ?_
  rintro e w1 ⟨rfl, hb1⟩
  have B1 := hide hb1
  clear hb1
  go_upto_region 5 with fail
  clear g1 g2
  go_cut [7] (fun s7 wx => ∃ g, s7 = .pointer (some ⟨g, 0, none⟩) ∧ Arr wx g 25 (u8s D) ∧ Below W.heap.size W wx)
  case first =>
    go_wp2_with fail
    refine (HO1.out _ (B1.out.alloc B1.out.size _) w1.heap.size (Arr.new w1 _ [.slice q nt d])).mono ?_
    rintro e w2 ⟨rfl, hb2⟩
    have B2 : Hid (Below W.heap.size W w2) := (B1.out.alloc B1.out.size _).trans (hb2.mono (by have := B1.out.size; simp; omega))
    clear hb2 B1
    go_wp2_with (refine wpList_store_row rfl 25 _ _ rfl w2.heap.size (u8s D).toArray rfl rfl 25 (u8s (List.replicate 32 0)).toArray (heap_at w2 _ _ rfl) ID.out OD.out (all_u8s _) ?_)
    go_meet
    case rel => exact ⟨w2.heap.size, rfl, (Arr.new w2 25 (u8s (List.replicate 32 0))).row _, below_setRow (B2.out.alloc B2.out.size _) B2.out.size (by simp) _⟩
  case rest =>
    clear B1 HO1
    obtain ⟨g, rfl, hG, hB⟩ := hcut
    have HG := hide hG
    have HB := hide hB
    clear hG hB
    by_cases hbig : 64 < n
    · have hbig' : (64 : Int) < (n : Int) := by omega
      go_upto_region 7 with fail
      go_cut [8] (fun s8 wx => ∃ s, s8 = .pointer (some ⟨s, 0, none⟩) ∧ Arr wx s 25 (u8s DK) ∧ Arr wx g 25 (u8s D) ∧ Below W.heap.size W wx)
      case first =>
        go_wp2_with fail
        refine (HSK.out wc HB.out).mono ?_
        rintro e w2 ⟨rfl, hb2⟩
        have G2 := hide (HG.out.kept hb2)
        have B2 : Hid (Below W.heap.size W w2) := HB.out.trans (hb2.mono HB.out.size)
        clear hb2 HB HG
        go_wp2_with (refine wpList_store_row rfl 25 _ _ rfl w2.heap.size (u8s DK).toArray rfl rfl 25 (u8s (List.replicate 32 0)).toArray (heap_at w2 _ _ rfl) IK.out OK.out (all_u8s _) ?_)
        go_meet
        case rel => exact ⟨w2.heap.size, rfl, (Arr.new w2 25 (u8s (List.replicate 32 0))).row _, (G2.out.alloc _).rowOther _ _ (Nat.ne_of_lt G2.out.lt), below_setRow (B2.out.alloc B2.out.size _) B2.out.size (by simp) _⟩
      case rest =>
        clear HB HG HSK
        obtain ⟨s, rfl, hs, hG, hB⟩ := hcut
        have KS : Hid (∀ v : World, Hid (Below wc.heap.size wc v) → Arr v s 25 (u8s DK)) := fun v hv => hs.kept hv.out
        have KG : Hid (∀ v : World, Hid (Below wc.heap.size wc v) → Arr v g 25 (u8s D)) := fun v hv => hG.kept hv.out
        have KT : Hid (∀ v : World, Hid (Below wc.heap.size wc v) → Below W.heap.size W v) := fun v hv => hB.trans (hv.out.mono hB.size)
        clear hs hG hB
        have hsl := fun v => run_all32 v s
        go_upto_region 8 with fail
        refine wp_region_held_drew (S := fun v => Hid (Below wc.heap.size wc v)) (by kernel_rfl) (hide (Below.refl wc.heap.size wc).drew) (fun hHeld => ?_)
        refine take_dstH (i := 0) (d := 34) (v := ?_) rfl rfl (by kernel_rfl) (by kernel_rfl) (by kernel_rfl) (fun _ _ _ h => h) (by rfl) hHeld ?_ ?_
        rotate_left
        · intro wZ hSw; clear hSw; go_simp; first | (with_reducible rfl) | (rw [if_pos (by omega)]; with_reducible rfl) | skip
        try simp only [Act.put, List.setIfInBounds_toArray, List.set_cons_zero, List.set_cons_succ]
        refine take_dstH (i := 1) (d := 35) (v := ?_) rfl rfl (by kernel_rfl) (by kernel_rfl) (by kernel_rfl) (fun _ _ _ h => h) (by rfl) hHeld ?_ ?_
        rotate_left
        · intro wZ hSw; clear hSw; go_simp; first | (with_reducible rfl) | (rw [if_pos (by omega)]; with_reducible rfl) | skip
        try simp only [Act.put, List.setIfInBounds_toArray, List.set_cons_zero, List.set_cons_succ]
        refine take_dstH (i := 4) (d := 38) (v := ?_) rfl rfl (by kernel_rfl) (by kernel_rfl) (by kernel_rfl) (fun _ _ _ h => h) (by rfl) hHeld ?_ ?_
        rotate_left
        · intro wZ hSw; refine exec_load_row 25 (.tmp 7) ?_ g ?_ 25 _ (0, 0) _ (KG.out wZ hSw) Tryd.underlying25 rfl ID.out <;> rfl
        try simp only [Act.put, List.setIfInBounds_toArray, List.set_cons_zero, List.set_cons_succ]
        refine wpAnyH_ready (rs := [2]) (by kernel_rfl) (by simp) ?_
        refine (AllReadyH.cons rfl (fun K hK => ?_) AllReadyH.nil)
        refine wp_build_one (dd := 36) rfl (.tmp 35) rfl q nt d rfl (fun w6 b hA6 _ hb6 => ?_); have HBx : Hid (Below wc.heap.size wc w6) := (Hid.out hHeld).trans (hb6.mono (Hid.out hHeld).size); have A6 := hide hA6; clear hA6 hb6
        refine hK.out _ _ ?_ (fun hHeld => ?_)
        · exact HBx
        clear hK K
        try simp only [Act.put, List.setIfInBounds_toArray, List.set_cons_zero, List.set_cons_succ]
        refine wpAnyH_ready (rs := [3]) (by kernel_rfl) (by simp) ?_
        refine (AllReadyH.cons rfl (fun K hK => ?_) AllReadyH.nil)
        go_simp
        refine (HO2.out _ (KT.out _ hHeld) hbig s (KS.out _ hHeld) b A6.out).mono ?_; rintro e wd ⟨rfl, hbd⟩; have HBd : Hid (Below wc.heap.size wc wd) := (Hid.out hHeld).trans (hbd.mono (Hid.out hHeld).size); clear hbd
        go_wp2_with fail
        refine hK.out _ _ ?_ (fun hHeld => ?_)
        · exact HBd
        clear hK K
        try simp only [Act.put, List.setIfInBounds_toArray, List.set_cons_zero, List.set_cons_succ]
        refine take_dstH (i := 5) (d := 39) (v := ?_) rfl rfl (by kernel_rfl) (by kernel_rfl) (by kernel_rfl) (fun _ _ _ h => h) (by rfl) hHeld ?_ ?_
        rotate_left
        · intro wZ hSw; refine exec_eql_agg 25 25 (.tmp 37) (.tmp 38) ?_ (u8s D).toArray (u8s D).toArray ?_ ?_ true (guard35 _ _ _ _ _) (HE.out wZ) <;> rfl
        try simp only [Act.put, List.setIfInBounds_toArray, List.set_cons_zero, List.set_cons_succ]
        refine take_dstH (i := 6) (d := 6) (v := ?_) rfl rfl (by kernel_rfl) (by kernel_rfl) (by kernel_rfl) (fun _ _ _ h => h) (by rfl) hHeld ?_ ?_
        rotate_left
        · intro wZ hSw; clear hSw; go_simp; first | (with_reducible rfl) | (rw [if_pos (by omega)]; with_reducible rfl) | skip
        try simp only [Act.put, List.setIfInBounds_toArray, List.set_cons_zero, List.set_cons_succ]
        refine wpAnyH_done (by kernel_rfl) ?_ _
        all_goals
          go_wp2
          go_ret
          exact ⟨rfl, KT.out _ HBd⟩
    · have hbig' : ¬ (64 : Int) < (n : Int) := by omega
      have HKA2 := hide (HKA.out hbig)
      obtain ⟨bm, hbm⟩ : ∃ b, b = decide (0 ≤ more ∧ more ≤ 64 - (n : Int)) := ⟨_, rfl⟩
      have HBM := hide hbm
      clear hbm
      go_upto_region 9 with fail
      go_cut [48] (fun s48 wx => s48 = .bool bm ∧ Arr wx g 25 (u8s D) ∧ Below W.heap.size W wx)
      case first =>
        by_cases h0 : 0 ≤ more
        · go_wp2
          go_meet
          case rel => exact ⟨by rw [HBM.out]; simp [h0], HG.out, HB.out⟩
        · have h0' : decide (0 ≤ more) = false := by simpa using h0
          go_wp2
          go_meet
          case rel => exact ⟨by rw [HBM.out]; simp; omega, HG.out, HB.out⟩
      clear HG HB
      obtain ⟨rfl, hG, hB⟩ := hcut
      have HG := hide hG
      have HB := hide hB
      clear hG hB
      go_upto_if 48 with fail
      go_cut [] (fun wx => Arr wx g 25 (u8s D) ∧ Below W.heap.size W wx)
      case first =>
        cases bm
        rotate_left
        · have hm : 0 ≤ more ∧ more ≤ 64 - (n : Int) := of_decide_eq_true HBM.out.symm
          clear HBM
          obtain ⟨m, rfl⟩ := Int.eq_ofNat_of_zero_le hm.1
          have hm64 : n + m ≤ 64 := by have := hm.2; omega
          have KG : Hid (∀ v : World, Hid (Below wc.heap.size wc v) → Arr v g 25 (u8s D)) := fun v hv => HG.out.kept hv.out
          have KT : Hid (∀ v : World, Hid (Below wc.heap.size wc v) → Below W.heap.size W v) := fun v hv => HB.out.trans (hv.out.mono HB.out.size)
          clear hm
          go_upto_region 10 with fail
          refine wp_region_held_drew (S := fun v => Hid (Below wc.heap.size wc v)) (by kernel_rfl) (hide (Below.refl wc.heap.size wc).drew) (fun hHeld => ?_)
          refine take_dstH (i := 1) (d := 50) (v := ?_) rfl rfl (by kernel_rfl) (by kernel_rfl) (by kernel_rfl) (fun _ _ _ h => h) (by rfl) hHeld ?_ ?_
          rotate_left
          · intro wZ hSw; clear hSw; go_simp; first | (with_reducible rfl) | (rw [if_pos (by omega)]; with_reducible rfl) | skip
          try simp only [Act.put, List.setIfInBounds_toArray, List.set_cons_zero, List.set_cons_succ]
          refine take_dstH (i := 3) (d := 52) (v := ?_) rfl rfl (by kernel_rfl) (by kernel_rfl) (by kernel_rfl) (fun _ _ _ h => h) (by rfl) hHeld ?_ ?_
          rotate_left
          · intro wZ hSw; clear hSw; go_simp; first | (with_reducible rfl) | (rw [if_pos (by omega)]; with_reducible rfl) | skip
          try simp only [Act.put, List.setIfInBounds_toArray, List.set_cons_zero, List.set_cons_succ]
          refine take_dstH (i := 5) (d := 54) (v := ?_) rfl rfl (by kernel_rfl) (by kernel_rfl) (by kernel_rfl) (fun _ _ _ h => h) (by rfl) hHeld ?_ ?_
          rotate_left
          · intro wZ hSw; clear hSw; go_simp; first | (with_reducible rfl) | (rw [if_pos (by omega)]; with_reducible rfl) | skip
          try simp only [Act.put, List.setIfInBounds_toArray, List.set_cons_zero, List.set_cons_succ]
          refine take_dstH (i := 8) (d := 57) (v := ?_) rfl rfl (by kernel_rfl) (by kernel_rfl) (by kernel_rfl) (fun _ _ _ h => h) (by rfl) hHeld ?_ ?_
          rotate_left
          · intro wZ hSw; refine exec_load_row 25 (.tmp 7) ?_ g ?_ 25 _ (0, 0) _ (KG.out wZ hSw) Tryd.underlying25 rfl ID.out <;> rfl
          try simp only [Act.put, List.setIfInBounds_toArray, List.set_cons_zero, List.set_cons_succ]
          refine wpAnyH_ready (rs := [0, 6]) (by kernel_rfl) (by simp) ?_
          refine (AllReadyH.cons rfl (fun K hK => ?_) (AllReadyH.cons rfl (fun K hK => ?_) AllReadyH.nil))
          focus
            refine wp_build_empty (dd := 49) rfl rfl (fun w0 v0 ho0 hb0 => ?_); have HBx : Hid (Below wc.heap.size wc w0) := (Hid.out hHeld).trans (hb0.mono (Hid.out hHeld).size); have O0 := hide (own_mono ho0 (Hid.out hHeld).size); (try (replace A6 := hide (A6.out.kept hb0))); clear ho0 hb0
            refine hK.out _ _ ?_ (fun hHeld => ?_)
            · exact HBx
            clear hK K
            try simp only [Act.put, List.setIfInBounds_toArray, List.set_cons_zero, List.set_cons_succ]
            refine wpAnyH_ready (rs := [2, 6]) (by kernel_rfl) (by simp) ?_
            refine (AllReadyH.cons rfl (fun K hK => ?_) (AllReadyH.cons rfl (fun K hK => ?_) AllReadyH.nil))
            focus
              refine wp_append_bytes_dst (dd := 51) rfl (.tmp 49) (.tmp 50) rfl wc.heap.size v0 [] rfl 0 rfl O0.out p n c key HN.out rfl (HK.out.1.kept (KT.out _ hHeld)) HK.out.2.1 (by omega) (Hid.out hHeld).size (fun v2 w2 ho2 hg2 => ?_); have HBx : Hid (Below wc.heap.size wc w2) := (Hid.out hHeld).grown hg2 (Hid.out hHeld).size (fun k hk => (O0.out.lt k hk).1); have O2 : Hid (w2.ownsRow wc.heap.size 5 1 v2 n (u8s key)) := (by show World.ownsRow _ _ _ _ _ _ _; simpa using ho2); (try (replace A6 := hide (A6.out.keptR hg2 (own_ne_arr O0.out A6.out (by decide))))); clear ho2 hg2 O0
              refine hK.out _ _ ?_ (fun hHeld => ?_)
              · exact HBx
              clear hK K
              try simp only [Act.put, List.setIfInBounds_toArray, List.set_cons_zero, List.set_cons_succ]
              refine wpAnyH_ready (rs := [4, 6]) (by kernel_rfl) (by simp) ?_
              refine (AllReadyH.cons rfl (fun K hK => ?_) (AllReadyH.cons rfl (fun K hK => ?_) AllReadyH.nil))
              focus
                refine wp_append_zeros_dst (dd := 53) rfl (.tmp 51) (.tmp 52) rfl wc.heap.size v2 key rfl n HN.out O2.out m rfl (by omega) (Hid.out hHeld).size (fun v4 w4 ho4 hg4 => ?_); have HBx : Hid (Below wc.heap.size wc w4) := (Hid.out hHeld).grown hg4 (Hid.out hHeld).size (fun k hk => (O2.out.lt k hk).1); (try (replace A6 := hide (A6.out.keptR hg4 (own_ne_arr O2.out A6.out (by decide))))); obtain ⟨p4, c4, hv4, hp4, _⟩ := own_piece (l := key ++ List.replicate m 0) (by rw [List.length_append, HN.out, List.length_replicate]; exact ho4) (bytes_append HK.out.2.2.1 (zeros_bytes _)); rw [List.length_append, HN.out, List.length_replicate] at hv4; subst hv4; have P4 := hide hp4; clear ho4 hg4 hp4 O2
                refine hK.out _ _ ?_ (fun hHeld => ?_)
                · exact HBx
                clear hK K
                try simp only [Act.put, List.setIfInBounds_toArray, List.set_cons_zero, List.set_cons_succ]
                refine wpAnyH_ready (rs := [6]) (by kernel_rfl) (by simp) ?_
                refine (AllReadyH.cons rfl (fun K hK => ?_) AllReadyH.nil)
                refine wp_build_one (dd := 55) rfl (.tmp 54) rfl q nt d rfl (fun w6 b hA6 _ hb6 => ?_); have HBx : Hid (Below wc.heap.size wc w6) := (Hid.out hHeld).trans (hb6.mono (Hid.out hHeld).size); have A6 := hide hA6; (try (replace O0 := hide (own_below O0.out hb6))); (try (replace O2 := hide (own_below O2.out hb6))); (try (replace P4 := hide (P4.out.kept hb6))); clear hA6 hb6
                refine hK.out _ _ ?_ (fun hHeld => ?_)
                · exact HBx
                clear hK K
                try simp only [Act.put, List.setIfInBounds_toArray, List.set_cons_zero, List.set_cons_succ]
                refine wpAnyH_ready (rs := [7]) (by kernel_rfl) (by simp) ?_
                refine (AllReadyH.cons rfl (fun K hK => ?_) AllReadyH.nil)
                go_simp
                refine (HO3.out _ (KT.out _ hHeld) m hm64 p4 c4 P4.out b A6.out).mono ?_; rintro e wd ⟨rfl, hbd⟩; have HBd : Hid (Below wc.heap.size wc wd) := (Hid.out hHeld).trans (hbd.mono (Hid.out hHeld).size); clear hbd
                go_wp2_with fail
                refine hK.out _ _ ?_ (fun hHeld => ?_)
                · exact HBd
                clear hK K
                try simp only [Act.put, List.setIfInBounds_toArray, List.set_cons_zero, List.set_cons_succ]
                refine take_dstH (i := 9) (d := 58) (v := ?_) rfl rfl (by kernel_rfl) (by kernel_rfl) (by kernel_rfl) (fun _ _ _ h => h) (by rfl) hHeld ?_ ?_
                rotate_left
                · intro wZ hSw; refine exec_neq_agg 25 25 (.tmp 56) (.tmp 57) ?_ (u8s D).toArray (u8s D).toArray ?_ ?_ true (guard35n _ _ _ _ _) (HE.out wZ) <;> rfl
                try simp only [Act.put, List.setIfInBounds_toArray, List.set_cons_zero, List.set_cons_succ]
                refine wpAnyH_done (by kernel_rfl) ?_ _
              rotate_left 1
              focus
                refine wp_build_one (dd := 55) rfl (.tmp 54) rfl q nt d rfl (fun w6 b hA6 _ hb6 => ?_); have HBx : Hid (Below wc.heap.size wc w6) := (Hid.out hHeld).trans (hb6.mono (Hid.out hHeld).size); have A6 := hide hA6; (try (replace O0 := hide (own_below O0.out hb6))); (try (replace O2 := hide (own_below O2.out hb6))); (try (replace P4 := hide (P4.out.kept hb6))); clear hA6 hb6
                refine hK.out _ _ ?_ (fun hHeld => ?_)
                · exact HBx
                clear hK K
                try simp only [Act.put, List.setIfInBounds_toArray, List.set_cons_zero, List.set_cons_succ]
                refine wpAnyH_ready (rs := [4]) (by kernel_rfl) (by simp) ?_
                refine (AllReadyH.cons rfl (fun K hK => ?_) AllReadyH.nil)
                refine wp_append_zeros_dst (dd := 53) rfl (.tmp 51) (.tmp 52) rfl wc.heap.size v2 key rfl n HN.out O2.out m rfl (by omega) (Hid.out hHeld).size (fun v4 w4 ho4 hg4 => ?_); have HBx : Hid (Below wc.heap.size wc w4) := (Hid.out hHeld).grown hg4 (Hid.out hHeld).size (fun k hk => (O2.out.lt k hk).1); (try (replace A6 := hide (A6.out.keptR hg4 (own_ne_arr O2.out A6.out (by decide))))); obtain ⟨p4, c4, hv4, hp4, _⟩ := own_piece (l := key ++ List.replicate m 0) (by rw [List.length_append, HN.out, List.length_replicate]; exact ho4) (bytes_append HK.out.2.2.1 (zeros_bytes _)); rw [List.length_append, HN.out, List.length_replicate] at hv4; subst hv4; have P4 := hide hp4; clear ho4 hg4 hp4 O2
                refine hK.out _ _ ?_ (fun hHeld => ?_)
                · exact HBx
                clear hK K
                try simp only [Act.put, List.setIfInBounds_toArray, List.set_cons_zero, List.set_cons_succ]
                refine wpAnyH_ready (rs := [7]) (by kernel_rfl) (by simp) ?_
                refine (AllReadyH.cons rfl (fun K hK => ?_) AllReadyH.nil)
                go_simp
                refine (HO3.out _ (KT.out _ hHeld) m hm64 p4 c4 P4.out b A6.out).mono ?_; rintro e wd ⟨rfl, hbd⟩; have HBd : Hid (Below wc.heap.size wc wd) := (Hid.out hHeld).trans (hbd.mono (Hid.out hHeld).size); clear hbd
                go_wp2_with fail
                refine hK.out _ _ ?_ (fun hHeld => ?_)
                · exact HBd
                clear hK K
                try simp only [Act.put, List.setIfInBounds_toArray, List.set_cons_zero, List.set_cons_succ]
                refine take_dstH (i := 9) (d := 58) (v := ?_) rfl rfl (by kernel_rfl) (by kernel_rfl) (by kernel_rfl) (fun _ _ _ h => h) (by rfl) hHeld ?_ ?_
                rotate_left
                · intro wZ hSw; refine exec_neq_agg 25 25 (.tmp 56) (.tmp 57) ?_ (u8s D).toArray (u8s D).toArray ?_ ?_ true (guard35n _ _ _ _ _) (HE.out wZ) <;> rfl
                try simp only [Act.put, List.setIfInBounds_toArray, List.set_cons_zero, List.set_cons_succ]
                refine wpAnyH_done (by kernel_rfl) ?_ _
            rotate_left 2
            focus
              refine wp_build_one (dd := 55) rfl (.tmp 54) rfl q nt d rfl (fun w6 b hA6 _ hb6 => ?_); have HBx : Hid (Below wc.heap.size wc w6) := (Hid.out hHeld).trans (hb6.mono (Hid.out hHeld).size); have A6 := hide hA6; (try (replace O0 := hide (own_below O0.out hb6))); (try (replace O2 := hide (own_below O2.out hb6))); (try (replace P4 := hide (P4.out.kept hb6))); clear hA6 hb6
              refine hK.out _ _ ?_ (fun hHeld => ?_)
              · exact HBx
              clear hK K
              try simp only [Act.put, List.setIfInBounds_toArray, List.set_cons_zero, List.set_cons_succ]
              refine wpAnyH_ready (rs := [2]) (by kernel_rfl) (by simp) ?_
              refine (AllReadyH.cons rfl (fun K hK => ?_) AllReadyH.nil)
              refine wp_append_bytes_dst (dd := 51) rfl (.tmp 49) (.tmp 50) rfl wc.heap.size v0 [] rfl 0 rfl O0.out p n c key HN.out rfl (HK.out.1.kept (KT.out _ hHeld)) HK.out.2.1 (by omega) (Hid.out hHeld).size (fun v2 w2 ho2 hg2 => ?_); have HBx : Hid (Below wc.heap.size wc w2) := (Hid.out hHeld).grown hg2 (Hid.out hHeld).size (fun k hk => (O0.out.lt k hk).1); have O2 : Hid (w2.ownsRow wc.heap.size 5 1 v2 n (u8s key)) := (by show World.ownsRow _ _ _ _ _ _ _; simpa using ho2); (try (replace A6 := hide (A6.out.keptR hg2 (own_ne_arr O0.out A6.out (by decide))))); clear ho2 hg2 O0
              refine hK.out _ _ ?_ (fun hHeld => ?_)
              · exact HBx
              clear hK K
              try simp only [Act.put, List.setIfInBounds_toArray, List.set_cons_zero, List.set_cons_succ]
              refine wpAnyH_ready (rs := [4]) (by kernel_rfl) (by simp) ?_
              refine (AllReadyH.cons rfl (fun K hK => ?_) AllReadyH.nil)
              refine wp_append_zeros_dst (dd := 53) rfl (.tmp 51) (.tmp 52) rfl wc.heap.size v2 key rfl n HN.out O2.out m rfl (by omega) (Hid.out hHeld).size (fun v4 w4 ho4 hg4 => ?_); have HBx : Hid (Below wc.heap.size wc w4) := (Hid.out hHeld).grown hg4 (Hid.out hHeld).size (fun k hk => (O2.out.lt k hk).1); (try (replace A6 := hide (A6.out.keptR hg4 (own_ne_arr O2.out A6.out (by decide))))); obtain ⟨p4, c4, hv4, hp4, _⟩ := own_piece (l := key ++ List.replicate m 0) (by rw [List.length_append, HN.out, List.length_replicate]; exact ho4) (bytes_append HK.out.2.2.1 (zeros_bytes _)); rw [List.length_append, HN.out, List.length_replicate] at hv4; subst hv4; have P4 := hide hp4; clear ho4 hg4 hp4 O2
              refine hK.out _ _ ?_ (fun hHeld => ?_)
              · exact HBx
              clear hK K
              try simp only [Act.put, List.setIfInBounds_toArray, List.set_cons_zero, List.set_cons_succ]
              refine wpAnyH_ready (rs := [7]) (by kernel_rfl) (by simp) ?_
              refine (AllReadyH.cons rfl (fun K hK => ?_) AllReadyH.nil)
              go_simp
              refine (HO3.out _ (KT.out _ hHeld) m hm64 p4 c4 P4.out b A6.out).mono ?_; rintro e wd ⟨rfl, hbd⟩; have HBd : Hid (Below wc.heap.size wc wd) := (Hid.out hHeld).trans (hbd.mono (Hid.out hHeld).size); clear hbd
              go_wp2_with fail
              refine hK.out _ _ ?_ (fun hHeld => ?_)
              · exact HBd
              clear hK K
              try simp only [Act.put, List.setIfInBounds_toArray, List.set_cons_zero, List.set_cons_succ]
              refine take_dstH (i := 9) (d := 58) (v := ?_) rfl rfl (by kernel_rfl) (by kernel_rfl) (by kernel_rfl) (fun _ _ _ h => h) (by rfl) hHeld ?_ ?_
              rotate_left
              · intro wZ hSw; refine exec_neq_agg 25 25 (.tmp 56) (.tmp 57) ?_ (u8s D).toArray (u8s D).toArray ?_ ?_ true (guard35n _ _ _ _ _) (HE.out wZ) <;> rfl
              try simp only [Act.put, List.setIfInBounds_toArray, List.set_cons_zero, List.set_cons_succ]
              refine wpAnyH_done (by kernel_rfl) ?_ _
          rotate_left 3
          focus
            refine wp_build_one (dd := 55) rfl (.tmp 54) rfl q nt d rfl (fun w6 b hA6 _ hb6 => ?_); have HBx : Hid (Below wc.heap.size wc w6) := (Hid.out hHeld).trans (hb6.mono (Hid.out hHeld).size); have A6 := hide hA6; (try (replace O0 := hide (own_below O0.out hb6))); (try (replace O2 := hide (own_below O2.out hb6))); (try (replace P4 := hide (P4.out.kept hb6))); clear hA6 hb6
            refine hK.out _ _ ?_ (fun hHeld => ?_)
            · exact HBx
            clear hK K
            try simp only [Act.put, List.setIfInBounds_toArray, List.set_cons_zero, List.set_cons_succ]
            refine wpAnyH_ready (rs := [0]) (by kernel_rfl) (by simp) ?_
            refine (AllReadyH.cons rfl (fun K hK => ?_) AllReadyH.nil)
            refine wp_build_empty (dd := 49) rfl rfl (fun w0 v0 ho0 hb0 => ?_); have HBx : Hid (Below wc.heap.size wc w0) := (Hid.out hHeld).trans (hb0.mono (Hid.out hHeld).size); have O0 := hide (own_mono ho0 (Hid.out hHeld).size); (try (replace A6 := hide (A6.out.kept hb0))); clear ho0 hb0
            refine hK.out _ _ ?_ (fun hHeld => ?_)
            · exact HBx
            clear hK K
            try simp only [Act.put, List.setIfInBounds_toArray, List.set_cons_zero, List.set_cons_succ]
            refine wpAnyH_ready (rs := [2]) (by kernel_rfl) (by simp) ?_
            refine (AllReadyH.cons rfl (fun K hK => ?_) AllReadyH.nil)
            refine wp_append_bytes_dst (dd := 51) rfl (.tmp 49) (.tmp 50) rfl wc.heap.size v0 [] rfl 0 rfl O0.out p n c key HN.out rfl (HK.out.1.kept (KT.out _ hHeld)) HK.out.2.1 (by omega) (Hid.out hHeld).size (fun v2 w2 ho2 hg2 => ?_); have HBx : Hid (Below wc.heap.size wc w2) := (Hid.out hHeld).grown hg2 (Hid.out hHeld).size (fun k hk => (O0.out.lt k hk).1); have O2 : Hid (w2.ownsRow wc.heap.size 5 1 v2 n (u8s key)) := (by show World.ownsRow _ _ _ _ _ _ _; simpa using ho2); (try (replace A6 := hide (A6.out.keptR hg2 (own_ne_arr O0.out A6.out (by decide))))); clear ho2 hg2 O0
            refine hK.out _ _ ?_ (fun hHeld => ?_)
            · exact HBx
            clear hK K
            try simp only [Act.put, List.setIfInBounds_toArray, List.set_cons_zero, List.set_cons_succ]
            refine wpAnyH_ready (rs := [4]) (by kernel_rfl) (by simp) ?_
            refine (AllReadyH.cons rfl (fun K hK => ?_) AllReadyH.nil)
            refine wp_append_zeros_dst (dd := 53) rfl (.tmp 51) (.tmp 52) rfl wc.heap.size v2 key rfl n HN.out O2.out m rfl (by omega) (Hid.out hHeld).size (fun v4 w4 ho4 hg4 => ?_); have HBx : Hid (Below wc.heap.size wc w4) := (Hid.out hHeld).grown hg4 (Hid.out hHeld).size (fun k hk => (O2.out.lt k hk).1); (try (replace A6 := hide (A6.out.keptR hg4 (own_ne_arr O2.out A6.out (by decide))))); obtain ⟨p4, c4, hv4, hp4, _⟩ := own_piece (l := key ++ List.replicate m 0) (by rw [List.length_append, HN.out, List.length_replicate]; exact ho4) (bytes_append HK.out.2.2.1 (zeros_bytes _)); rw [List.length_append, HN.out, List.length_replicate] at hv4; subst hv4; have P4 := hide hp4; clear ho4 hg4 hp4 O2
            refine hK.out _ _ ?_ (fun hHeld => ?_)
            · exact HBx
            clear hK K
            try simp only [Act.put, List.setIfInBounds_toArray, List.set_cons_zero, List.set_cons_succ]
            refine wpAnyH_ready (rs := [7]) (by kernel_rfl) (by simp) ?_
            refine (AllReadyH.cons rfl (fun K hK => ?_) AllReadyH.nil)
            go_simp
            refine (HO3.out _ (KT.out _ hHeld) m hm64 p4 c4 P4.out b A6.out).mono ?_; rintro e wd ⟨rfl, hbd⟩; have HBd : Hid (Below wc.heap.size wc wd) := (Hid.out hHeld).trans (hbd.mono (Hid.out hHeld).size); clear hbd
            go_wp2_with fail
            refine hK.out _ _ ?_ (fun hHeld => ?_)
            · exact HBd
            clear hK K
            try simp only [Act.put, List.setIfInBounds_toArray, List.set_cons_zero, List.set_cons_succ]
            refine take_dstH (i := 9) (d := 58) (v := ?_) rfl rfl (by kernel_rfl) (by kernel_rfl) (by kernel_rfl) (fun _ _ _ h => h) (by rfl) hHeld ?_ ?_
            rotate_left
            · intro wZ hSw; refine exec_neq_agg 25 25 (.tmp 56) (.tmp 57) ?_ (u8s D).toArray (u8s D).toArray ?_ ?_ true (guard35n _ _ _ _ _) (HE.out wZ) <;> rfl
            try simp only [Act.put, List.setIfInBounds_toArray, List.set_cons_zero, List.set_cons_succ]
            refine wpAnyH_done (by kernel_rfl) ?_ _
          all_goals
            go_wp2
            go_meet
            case rel => exact ⟨KG.out _ HBd, KT.out _ HBd⟩
        · clear HBM
          go_wp2
          go_meet
          case rel => exact ⟨HG.out, HB.out⟩
      case rest =>
        clear HG HB HBM HO2 HO3 HSK
        obtain ⟨hG, hB⟩ := hcut
        have HG := hide hG
        have HB := hide hB
        clear hG hB
        go_wp2
        go_loopg [9, 10, 11] 65 (fun f s9 s10 s11 wr => ∃ (i : Nat) (vi vo : Value), vi = s9 ∧ vo = s10 ∧ s11 = .int .i64 i ∧ i ≤ 64 ∧ 64 - i < f ∧ wr.ownsRow W.heap.size 5 1 vi i (u8s (XI.take i)) ∧ wr.ownsRow W.heap.size 5 1 vo i (u8s (XO.take i)) ∧ Apart vi vo ∧ Arr wr g 25 (u8s D) ∧ Below W.heap.size W wr)
        case atStart => exact ⟨0, _, _, rfl, rfl, rfl, by omega, by omega, World.ownsRow_nil _ _ _ _, World.ownsRow_nil _ _ _ _, (fun k h _ => by cases h), HG.out, HB.out⟩
        case round =>
          clear HG HB
          obtain ⟨i, vi, vo, rfl, rfl, rfl, hi, hf, hoi, hoo, hap, hG, hB⟩ := hrel
          have HOI := hide hoi
          have HOO := hide hoo
          have HAP := hide hap
          have HG := hide hG
          have HB := hide hB
          clear hoi hoo hap hG hB
          by_cases hlt : i < 64
          · have hlt' : (i : Int) < 64 := by omega
            obtain ⟨y, hy⟩ : ∃ y, y = KB.getD i 0 := ⟨_, rfl⟩
            have hyb : y < 256 := by rw [hy]; exact HKB.out.getD i
            have HY := hide hy
            clear hy
            go_upto_if 66 with fail
            go_cut [12] (fun s12 wx => s12 = .int .u8 ((y : Nat) : Int) ∧ Hid (wx = wr))
            case first =>
              have hka := HKA2.out i
              rw [← HY.out] at hka
              by_cases hik : i < n
              · rw [if_pos hik] at hka
                have hik' : (i : Int) < (n : Int) := by omega
                rcases HK.out.1 with h0 | ⟨gk, ok, rfl, hck⟩
                · have h := HN.out
                  rw [h0] at h
                  simp at h
                  omega
                have ck := hck i (by rw [HN.out]; exact hik)
                have ck' := (HB.out.cell (block_lt_of_cell ck)).trans ck
                rw [← hka] at ck'
                clear ck hck hka
                go_wp2
                go_meet
                case rel => exact ⟨rfl, rfl⟩
              · rw [if_neg hik] at hka
                have hik' : ¬ (i : Int) < (n : Int) := by omega
                have HKA3 := hide hka
                clear hka
                go_wp2
                go_meet
                case rel => exact ⟨by rw [HKA3.out]; rfl, rfl⟩
            case rest =>
              obtain ⟨rfl, hw⟩ := hcut
              have OI : Hid (wc.ownsRow W.heap.size 5 1 vi i (u8s (XI.take i))) := by rw [hw.out]; exact HOI
              have OO : Hid (wc.ownsRow W.heap.size 5 1 vo i (u8s (XO.take i))) := by rw [hw.out]; exact HOO
              have GG : Hid (Arr wc g 25 (u8s D)) := by rw [hw.out]; exact HG
              have BB : Hid (Below W.heap.size W wc) := by rw [hw.out]; exact HB
              clear HOI HOO HG HB hw
              have bx1 := u8_xor_nat y 54 hyb (by omega)
              have bx2 := u8_xor_nat y 92 hyb (by omega)
              rw [show ((54 : Nat) : Int) = 54 from rfl] at bx1
              rw [show ((92 : Nat) : Int) = 92 from rfl] at bx2
              have TI : Hid (XI.take (i + 1) = XI.take i ++ [y ^^^ 54]) := by show _ = _; rw [take_more _ _ (by rw [HX1.out]; exact hlt), HXA1.out i hlt, HY.out]
              have TO : Hid (XO.take (i + 1) = XO.take i ++ [y ^^^ 92]) := by show _ = _; rw [take_more _ _ (by rw [HX2.out]; exact hlt), HXA2.out i hlt, HY.out]
              have hl1 : y ^^^ 54 < 256 := xor_lt8 hyb (by omega)
              have hl2 : y ^^^ 92 < 256 := xor_lt8 hyb (by omega)
              have LI : Hid ((XI.take i).length = i) := by show _ = _; simp [HX1.out]; omega
              have LO : Hid ((XO.take i).length = i) := by show _ = _; simp [HX2.out]; omega
              clear HY
              generalize y ^^^ 54 = a1 at *
              generalize y ^^^ 92 = a2 at *
              go_wp2_with (at_builtin; refine wpList_append_byte rfl (.tmp 71) (.tmp 74) rfl W.heap.size _ (XI.take i) rfl i LI.out (OI.out.alloc _) wc.heap.size a1 rfl (by simp) (by omega) (by have := BB.out.size; simp; omega) ?_)
              intro vi' w5 ho5 hg5 hwh5
              have O5 : Hid (w5.ownsRow W.heap.size 5 1 vi' (i + 1) (u8s (XI.take (i + 1)))) := by show World.ownsRow _ _ _ _ _ _ _; rw [TI.out]; exact ho5
              have hne5 : vo.ownBlock = none ∨ vo.ownBlock ≠ vi.ownBlock := by
                cases hvo : vo.ownBlock with
                | none => exact Or.inl rfl
                | some k => exact Or.inr (fun e => HAP.out k e.symm hvo)
              have OO5 : Hid (w5.ownsRow W.heap.size 5 1 vo i (u8s (XO.take i))) := (OO.out.alloc _).kept hg5 hne5
              have G5 : Hid (Arr w5 g 25 (u8s D)) := (GG.out.alloc _).keptR hg5 (own_ne_arr OI.out GG.out (by decide))
              have B5 : Hid (Below W.heap.size W w5) := (BB.out.alloc BB.out.size _).grown hg5 (by have := BB.out.size; simp; omega) (fun k hk => (OI.out.lt k hk).1)
              have AP5 : Hid (Apart vi' vo) := fun k h1 h2 => by
                have h3 := (OO.out.lt k h2).2
                rcases hwh5 with e | e
                · exact HAP.out k (by rw [← e]; exact h1) h2
                · rw [e] at h1
                  simp at h1
                  omega
              clear ho5 hg5 hwh5 hne5 OI OO GG BB HAP TI
              go_wp2_with (at_builtin; refine wpList_append_byte rfl (.tmp 76) (.tmp 79) rfl W.heap.size _ (XO.take i) rfl i LO.out (OO5.out.alloc _) w5.heap.size a2 rfl (by simp) (by omega) (by have := B5.out.size; simp; omega) ?_)
              intro vo' w6 ho6 hg6 hwh6
              have O6 : Hid (w6.ownsRow W.heap.size 5 1 vo' (i + 1) (u8s (XO.take (i + 1)))) := by show World.ownsRow _ _ _ _ _ _ _; rw [TO.out]; exact ho6
              have hne6 : vi'.ownBlock = none ∨ vi'.ownBlock ≠ vo.ownBlock := by
                cases hvi : vi'.ownBlock with
                | none => exact Or.inl rfl
                | some k => exact Or.inr (fun e => AP5.out k hvi e.symm)
              have OI6 : Hid (w6.ownsRow W.heap.size 5 1 vi' (i + 1) (u8s (XI.take (i + 1)))) := (O5.out.alloc _).kept hg6 hne6
              have G6 : Hid (Arr w6 g 25 (u8s D)) := (G5.out.alloc _).keptR hg6 (own_ne_arr OO5.out G5.out (by decide))
              have B6 : Hid (Below W.heap.size W w6) := (B5.out.alloc B5.out.size _).grown hg6 (by have := B5.out.size; simp; omega) (fun k hk => (OO5.out.lt k hk).1)
              have AP6 : Hid (Apart vi' vo') := fun k h1 h2 => by
                have h3 := (O5.out.lt k h1).2
                rcases hwh6 with e | e
                · exact AP5.out k h1 (by rw [← e]; exact h2)
                · rw [e] at h2
                  simp at h2
                  omega
              clear ho6 hg6 hwh6 hne6 O5 OO5 G5 B5 AP5 TO
              go_wp2
              go_roundg (64 - i)
              case measure => omega
              case rel => exact ⟨i + 1, vi', vo', rfl, rfl, by go_num, by omega, by omega, OI6.out, O6.out, AP6.out, G6.out, B6.out⟩
          · have e : i = 64 := by omega
            subst e
            have hti : XI.take 64 = XI := List.take_of_length_le (by rw [HX1.out]; omega)
            have hto : XO.take 64 = XO := List.take_of_length_le (by rw [HX2.out]; omega)
            obtain ⟨pi, ci, hvi, hpi, _⟩ := own_piece (l := XI) (w := wr) (B := W.heap.size) (v := vi) (by rw [HX1.out]; have h := HOI.out; rw [hti] at h; exact h) HXB1.out
            obtain ⟨po, co, hvo, hpo, _⟩ := own_piece (l := XO) (w := wr) (B := W.heap.size) (v := vo) (by rw [HX2.out]; have h := HOO.out; rw [hto] at h; exact h) HXB2.out
            rw [HX1.out] at hvi
            rw [HX2.out] at hvo
            clear HOI HOO HAP hti hto
            subst hvi hvo
            have PI := hide hpi
            have PO := hide hpo
            clear hpi hpo
            go_upto_region 21 with fail
            go_cut [13] (fun s13 wx => ∃ s, s13 = .pointer (some ⟨s, 0, none⟩) ∧ Arr wx s 25 (u8s D1) ∧ Arr wx g 25 (u8s D) ∧ Piece wx po co XO ∧ Below W.heap.size W wx)
            case first =>
              go_wp2_with fail
              refine (HS1.out _ (HB.out.alloc HB.out.size _) pi ci (PI.out.kept ((Below.refl _ _).alloc (Nat.le_refl _) _)) wr.heap.size (Arr.new wr _ [.slice pi 64 ci, .slice q nt d])).mono ?_
              rintro e w2 ⟨rfl, hb2⟩
              have hb2' : Below wr.heap.size wr w2 := ((Below.refl wr.heap.size wr).alloc (Nat.le_refl _) _).trans (hb2.mono (by simp))
              have G2 := hide (HG.out.kept hb2')
              have PO2 := hide (PO.out.kept hb2')
              have B2 : Hid (Below W.heap.size W w2) := HB.out.trans (hb2'.mono HB.out.size)
              clear hb2 hb2' HB HG PI PO
              go_wp2_with (refine wpList_store_row rfl 25 _ _ rfl w2.heap.size (u8s D1).toArray rfl rfl 25 (u8s (List.replicate 32 0)).toArray (heap_at w2 _ _ rfl) I1.out O1.out (all_u8s _) ?_)
              go_meet
              case rel =>
                have hbb := below_setRow ((Below.refl w2.heap.size w2).alloc (Nat.le_refl _) (Obj.cells (u8s (List.replicate 32 0)).toArray 25)) (Nat.le_refl _) (by simp) (u8s D1).toArray
                exact ⟨w2.heap.size, rfl, (Arr.new w2 25 (u8s (List.replicate 32 0))).row _, (G2.out.alloc _).rowOther _ _ (Nat.ne_of_lt G2.out.lt), PO2.out.kept hbb, below_setRow (B2.out.alloc B2.out.size _) B2.out.size (by simp) _⟩
            case rest =>
              clear HG HB PI PO HS1
              obtain ⟨s, rfl, hs, hG, hp, hB⟩ := hcut
              have KS : Hid (∀ v : World, Hid (Below wc.heap.size wc v) → Arr v s 25 (u8s D1)) := fun v hv => hs.kept hv.out
              have KG : Hid (∀ v : World, Hid (Below wc.heap.size wc v) → Arr v g 25 (u8s D)) := fun v hv => hG.kept hv.out
              have KP : Hid (∀ v : World, Hid (Below wc.heap.size wc v) → Piece v po co XO) := fun v hv => hp.kept hv.out
              have KT : Hid (∀ v : World, Hid (Below wc.heap.size wc v) → Below W.heap.size W v) := fun v hv => hB.trans (hv.out.mono hB.size)
              clear hs hG hB hp
              have hsl := fun v => run_all32 v s
              go_upto_region 22 with fail
              refine wp_region_held_drew (S := fun v => Hid (Below wc.heap.size wc v)) (by kernel_rfl) (hide (Below.refl wc.heap.size wc).drew) (fun hHeld => ?_)
              refine take_dstH (i := 0) (d := 85) (v := ?_) rfl rfl (by kernel_rfl) (by kernel_rfl) (by kernel_rfl) (fun _ _ _ h => h) (by rfl) hHeld ?_ ?_
              rotate_left
              · intro wZ hSw; clear hSw; go_simp; first | (with_reducible rfl) | (rw [if_pos (by omega)]; with_reducible rfl) | skip
              try simp only [Act.put, List.setIfInBounds_toArray, List.set_cons_zero, List.set_cons_succ]
              refine take_dstH (i := 1) (d := 86) (v := ?_) rfl rfl (by kernel_rfl) (by kernel_rfl) (by kernel_rfl) (fun _ _ _ h => h) (by rfl) hHeld ?_ ?_
              rotate_left
              · intro wZ hSw; clear hSw; go_simp; first | (with_reducible rfl) | (rw [if_pos (by omega)]; with_reducible rfl) | skip
              try simp only [Act.put, List.setIfInBounds_toArray, List.set_cons_zero, List.set_cons_succ]
              refine take_dstH (i := 4) (d := 89) (v := ?_) rfl rfl (by kernel_rfl) (by kernel_rfl) (by kernel_rfl) (fun _ _ _ h => h) (by rfl) hHeld ?_ ?_
              rotate_left
              · intro wZ hSw; refine exec_load_row 25 (.tmp 7) ?_ g ?_ 25 _ (0, 0) _ (KG.out wZ hSw) Tryd.underlying25 rfl ID.out <;> rfl
              try simp only [Act.put, List.setIfInBounds_toArray, List.set_cons_zero, List.set_cons_succ]
              refine wpAnyH_ready (rs := [2]) (by kernel_rfl) (by simp) ?_
              refine (AllReadyH.cons rfl (fun K hK => ?_) AllReadyH.nil)
              refine wp_build_two (dd := 87) rfl (.tmp 85) (.tmp 86) rfl po 64 co rfl (some ⟨s, 0, none⟩) 32 32 rfl (fun w6 b hA6 _ hb6 => ?_); have HBx : Hid (Below wc.heap.size wc w6) := (Hid.out hHeld).trans (hb6.mono (Hid.out hHeld).size); have A6 := hide hA6; clear hA6 hb6
              refine hK.out _ _ ?_ (fun hHeld => ?_)
              · exact HBx
              clear hK K
              try simp only [Act.put, List.setIfInBounds_toArray, List.set_cons_zero, List.set_cons_succ]
              refine wpAnyH_ready (rs := [3]) (by kernel_rfl) (by simp) ?_
              refine (AllReadyH.cons rfl (fun K hK => ?_) AllReadyH.nil)
              go_simp
              refine (HS2.out _ (KT.out _ hHeld) po co (KP.out _ hHeld) s (KS.out _ hHeld) b A6.out).mono ?_; rintro e wd ⟨rfl, hbd⟩; have HBd : Hid (Below wc.heap.size wc wd) := (Hid.out hHeld).trans (hbd.mono (Hid.out hHeld).size); clear hbd
              go_wp2_with fail
              refine hK.out _ _ ?_ (fun hHeld => ?_)
              · exact HBd
              clear hK K
              try simp only [Act.put, List.setIfInBounds_toArray, List.set_cons_zero, List.set_cons_succ]
              refine take_dstH (i := 5) (d := 90) (v := ?_) rfl rfl (by kernel_rfl) (by kernel_rfl) (by kernel_rfl) (fun _ _ _ h => h) (by rfl) hHeld ?_ ?_
              rotate_left
              · intro wZ hSw; refine exec_eql_agg 25 25 (.tmp 88) (.tmp 89) ?_ (u8s D).toArray (u8s D).toArray ?_ ?_ true (guard35 _ _ _ _ _) (HE.out wZ) <;> rfl
              try simp only [Act.put, List.setIfInBounds_toArray, List.set_cons_zero, List.set_cons_succ]
              refine take_dstH (i := 6) (d := 6) (v := ?_) rfl rfl (by kernel_rfl) (by kernel_rfl) (by kernel_rfl) (fun _ _ _ h => h) (by rfl) hHeld ?_ ?_
              rotate_left
              · intro wZ hSw; clear hSw; go_simp; first | (with_reducible rfl) | (rw [if_pos (by omega)]; with_reducible rfl) | skip
              try simp only [Act.put, List.setIfInBounds_toArray, List.set_cons_zero, List.set_cons_succ]
              refine wpAnyH_done (by kernel_rfl) ?_ _
              all_goals
                go_wp2
                go_ret
                exact ⟨rfl, KT.out _ HBd⟩

set_option maxHeartbeats 4000000 in
set_option maxRecDepth 100000 in
/-- beyond the bounds nothing is asked -/
theorem walk_out (p : Option Addr) (c n : Nat) (q : Option Addr) (d m : Nat) (more : Int) (W : World) (hL : Laid W) (h : 300 < n ∨ 300 < m) :
    Calls Tryd.prog 6 #[.slice p n c, .slice q m d, .int .i64 more] W fun e W' => e = .returned (.bool true) ∧ Below W.heap.size W W' := by
  have HL := hide hL
  clear hL
  go_enter Tryd.func6, Tryd.ntmps6
  go_wp2_with fail
  refine (known_any _ HL.out).mono ?_
  rintro e w1 ⟨rfl, hb1⟩
  have B1 := hide hb1
  clear hb1
  by_cases h1 : 300 < n
  · have g1 : (300 : Int) < (n : Int) := by omega
    clear h
    go_wp2
    go_ret
    exact ⟨rfl, B1.out⟩
  · have g1 : ¬ (300 : Int) < (n : Int) := by omega
    have g2 : (300 : Int) < (m : Int) := by omega
    clear h
    go_wp2
    go_ret
    exact ⟨rfl, B1.out⟩

theorem walk (p : Option Addr) (c : Nat) (key : List Nat) (q : Option Addr) (d : Nat) (text : List Nat) (more : Int) (W : World) (hK : Piece W p c key) (hT : Piece W q d text) (_hm : (Lit.int .i64 more).wf = true) (hL : Laid W) :
    Calls Tryd.prog 6 #[.slice p key.length c, .slice q text.length d, .int .i64 more] W fun e W' => e = .returned (.bool true) ∧ Below W.heap.size W W' := by
  by_cases h : 300 < key.length ∨ 300 < text.length
  · exact walk_out p c key.length q d text.length more W hL h
  · exact walk_in p c key q d text more W hK hT hL (by omega) (by omega)

set_option maxRecDepth 100000 in
theorem lifted (os : Os) (started : os.Started) (H : Type) (enc : TypeId × Value → H) :
    ReturnsInHanded {} Tryd.checked os 6 .any (fun w args => (Rows.macLongSpec.pre enc Tryd.prog Tryd.f6 [] false w args ∧ laidMetH Tryd.prog laid2 w) ∧ sizedMet enc Tryd.prog Tryd.f6 (OpenSpec.ofChange Rows.macLongSpec) false w args)
      (Rows.macLongSpec.post enc Tryd.prog Tryd.f6 false true false false) := by
  refine returnsInHanded_of_change_and (C := Tryd.checked) (X := fun w _ => laidMetH Tryd.prog laid2 w) (fun _ _ _ hh h => h.of_heap hh) own started (by kernel_rfl) Tryd.func6
    (ChangeSpec.witness_shaped (enc := enc) (C := Tryd.checked) (os := os) (X := fun w _ => laidMetH Tryd.prog laid2 w) false (World.doorLaid Tryd.prog 400 os) #[.slice none 0 0, .slice none 0 0, .int .i64 0] 8 rfl (World.shaped_of_RefB (by kernel_rfl) (by kernel_rfl)) (by kernel_rfl) (by kernel_rfl) (by kernel_rfl) (door_met os _)) ?_
  intro W base args ds gs before hval0 hW _ hsz hL _
  have hval : ∀ (j : Nat) t v, Tryd.f6.params[j]? = some t → args[j]? = some v → Value.okWide Tryd.prog W .any base t v := hval0
  have hW' := hW
  obtain ⟨p, q, hA0, hV, rfl, hfz, hnd⟩ := hW
  have hA : DataW.TrodAll enc Tryd.prog W 0 (fun _ => true) true Tryd.f6.params.toList args.toList ds p := hA0
  rw [Tryd.params6] at hA hval
  obtain ⟨v0, vs0, d0, ds0, p0, q0, hargs, rfl, rfl, h0, r0⟩ := trodAll_cons hA
  obtain ⟨v1, vs1, d1, ds1, p1, q1, rfl, rfl, rfl, h1, r1⟩ := trodAll_cons r0
  obtain ⟨v2, vs2, d2, ds2, p2, q2, rfl, rfl, rfl, h2, r2⟩ := trodAll_cons r1
  obtain ⟨rfl, rfl, rfl⟩ := trodAll_nil r2
  obtain rfl : args = #[v0, v1, v2] := by cases args; simp_all
  obtain ⟨rfl, rfl⟩ := trodVars_none hV
  obtain ⟨a0, len0, cap0, rfl⟩ := okWide_slice Tryd.underlying22 (hval 0 22 v0 rfl rfl)
  have k0 := h0
  have lt0 : ∀ x ∈ p0, x.block < W.heap.size := by obtain ⟨m, hm⟩ := k0; exact DataW.trod_lt m _ _ _ hm
  obtain ⟨fuel0, hf0⟩ := h0
  obtain ⟨a0', cap0', x0, hcs0, w0⟩ := piece_of hf0
  simp [Value.cells] at hcs0
  obtain ⟨rfl, rfl, rfl⟩ := hcs0
  clear hf0
  obtain ⟨a1, len1, cap1, rfl⟩ := okWide_slice Tryd.underlying22 (hval 1 22 v1 rfl rfl)
  have k1 := h1
  have lt1 : ∀ x ∈ p1, x.block < W.heap.size := by obtain ⟨m, hm⟩ := k1; exact DataW.trod_lt m _ _ _ hm
  obtain ⟨fuel1, hf1⟩ := h1
  obtain ⟨a1', cap1', x1, hcs1, w1⟩ := piece_of hf1
  simp [Value.cells] at hcs1
  obtain ⟨rfl, rfl, rfl⟩ := hcs1
  clear hf1
  obtain ⟨a2, rfl, rfl, rfl, w2⟩ := open_int Tryd.underlying3 (hval 2 3 v2 rfl rfl) h2
  clear hA0 hval0
  refine (walk a0 cap0 x0 a1 cap1 x1 a2 W w0 w1 w2 (of_laid hL)).mono fun e W' ⟨he, bel⟩ => ?_
  subst he
  exact ⟨_, rfl, _, _, _, [], _, [], hW', trodAll_mk1 (shut_bool Tryd.underlying4 _), (trodAll_cons_mk (Below.trod laidOut (by kernel_rfl) (of_decide_eq_true (by kernel_rfl)) k0 bel lt0) (trodAll_cons_mk (Below.trod laidOut (by kernel_rfl) (of_decide_eq_true (by kernel_rfl)) k1 bel lt1) (trodAll_cons_mk (shut_int Tryd.underlying3 w2) trodAll_mk0))), rfl, bel.frame _, fun h => by cases h⟩

theorem row : Rows.MacLongSaid :=
  OpenClaim.holds_of_wide 6 Tryd.f6 rfl rfl rfl rfl rfl rfl rfl ⟨rfl, rfl, rfl, rfl, rfl⟩ rfl rfl rfl rfl rfl (by kernel_rfl) Tryd.func6 (by kernel_rfl)
    (of_decide_eq_true (by kernel_rfl)) (by unfold Func.isWrapper; first | (rw [if_pos (by decide +kernel)]; kernel_rfl) | (rw [if_neg (by decide +kernel)]; exact ⟨rfl, rfl⟩))
    (fun os started H enc _ => lifted os started H enc)

theorem card : Rows.MacLongCardSaid :=
  Claim7.holds_tied_plain_at .later [] [.data, .data] true (true, Rows.macLongCard.stood.harness.2) false
    row (fun _ h => by cases h) (by kernel_rfl) (fun _ h => by cases h) macLong_row_tie rfl ⟨rfl, rfl⟩ (by kernel_rfl) rfl
    (fun f fn hf hfn => by
      obtain rfl : f = 6 := Option.some.inj ((show Tryd.prog.funcNamed "oriel/oriellaw03.MacLong" = some 6 by kernel_rfl).symm.trans hf) |>.symm
      obtain rfl : fn = Tryd.f6 := (Option.some.inj (Tryd.func6.symm.trans hfn)).symm
      exact ⟨by kernel_rfl, fun j t ht => by
        rw [Tryd.params6] at ht
        have hm : t ∈ [22, 22, 3] := by simpa using Array.mem_of_getElem? ht
        have hall : ([22, 22, 3].all fun u => !Tryd.prog.wantsStandIn u) = true := by kernel_rfl
        exact (show Tryd.prog.wantsStandIn t = false by simpa using List.all_eq_true.1 hall t hm)⟩)
    (by kernel_rfl)

end MacLongProof

theorem macLong_holds : Rows.MacLongCardSaid := MacLongProof.card
#print axioms macLong_holds

end Go.Proofs.YtfopjobcjafgaabDoor
