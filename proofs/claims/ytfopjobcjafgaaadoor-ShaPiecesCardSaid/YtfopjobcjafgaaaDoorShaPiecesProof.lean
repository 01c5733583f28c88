/-
  ShaPieces, the tied card: however bytes are cut, their digest is the same: by Sum, by a hash, by the blocks alone (of more than 2000 bytes, or of cuts outside them, nothing is asked): the law returns true, and what is handed in stays. No condition but the two tables, which the card ties to the program's text.
-/
import Derived.Test.YtfopjobcjafgaaaDoorHE
import Derived.Test.YtfopjobcjafgaaaDoorHP
import Derived.Test.YtfopjobcjafgaaaDoorHL
import Derived.Test.YtfopjobcjafgaaaDoorHF
import Derived.Test.YtfopjobcjafgaaaDoorFA
namespace Go.Proofs.YtfopjobcjafgaaaDoor
namespace ShaPiecesProof
open Go.ChangeShapes Go.WideShapes Go.ChangeAt Go.WideMaps Go.WideElems Go.RowKit

/-- what lies in memory: the hash that has all bytes, the row of them and what stands behind them -/
def St (W wr : World) (Y : Nat) (v : Value) (l xs : List Nat) : Prop :=
  MadeH wr Y xs ∧ wr.ownsRow W.heap.size 5 1 v l.length (u8s l) ∧ Below W.heap.size W wr

theorem St.append {W wr w' : World} {Y : Nat} {v v' : Value} {l l' xs : List Nat} (r : St W wr Y v l xs) (ho : w'.ownsRow W.heap.size 5 1 v' l'.length (u8s l')) (hg : wr.grownBy w' v.ownBlock) : St W w' Y v' l' xs :=
  ⟨r.1.keptR hg (own_ne r.2.1 r.1), ho, r.2.2.grown hg r.2.2.size (fun k hk => (r.2.1.lt k hk).1)⟩
theorem St.kept {W wr w' : World} {Y : Nat} {v : Value} {l xs : List Nat} (r : St W wr Y v l xs) (hb : Below wr.heap.size wr w') : St W w' Y v l xs :=
  ⟨r.1.kept hb, own_below r.2.1 hb, r.2.2.trans (hb.mono r.2.2.size)⟩
theorem St.other {W wr w' : World} {Y G : Nat} {v : Value} {l xs : List Nat} {t : TypeId} {vs : List Value} (r : St W wr Y v l xs) (hA : Arr wr G t vs) (h1 : t ≠ 5) (h2 : t ≠ 49) (hG : W.heap.size ≤ G) (hg : wr.grownBy w' (some G)) : St W w' Y v l xs :=
  ⟨r.1.grown hg (made_ne_arr r.1 hA h2), r.2.1.kept hg (Or.inr (own_ne_arr r.2.1 hA h1)), r.2.2.grown hg r.2.2.size (by intro k hk; cases hk; exact hG)⟩

theorem be8_cells (n : Nat) (h : n ≤ 2000) : #[Value.int .u8 0, Value.int .u8 0, Value.int .u8 0, Value.int .u8 0, Value.int .u8 (8 * (n : Int) / 16777216), Value.int .u8 (8 * (n : Int) / 65536), Value.int .u8 (8 * (n : Int) / 256), Value.int .u8 (8 * (n : Int) % 256)] = (u8s (be8 (n * 8) 8)).toArray := by
  have e : be8 (n * 8) 8 = [0, 0, 0, 0, n * 8 / 16777216, n * 8 / 65536, n * 8 / 256, n * 8 % 256] := by
    simp [be8]
    omega
  rw [e]
  simp [u8s]
  omega

theorem info27' : (Tryd.prog.info? 27).map (·.size) = some 64 := by kernel_rfl

theorem run_tail (w : World) (g n cap q : Nat) (h : q ≤ n) (hc : q < cap) :
    (Instr.slice 30 (.slice (some ⟨g, 0, none⟩) n cap) (some (.int .i64 (q : Int))) none none).run Tryd.prog w = .ok (.slice (some ⟨g, q, none⟩) (n - q) (cap - q)) w := by
  rw [run_from w _ n cap q h]
  simp [cutP, show cap ≠ q by omega, Addr.add_mid]

/-- 'copy(x[:], all[q:])': a block of bytes -/
theorem copy_blk (wr : World) (H g q N cap : Nat) (blk : List Nat) (hA : Arr wr H 27 (u8s (List.replicate 64 0))) (hbl : blk.length = 64) (hq : q + 64 ≤ N) (hbt : Bts wr g q blk) :
    (Builtin.copy_ #[30, 30] 3 #[.slice (some ⟨H, 0, none⟩) 64 64, .slice (some ⟨g, q, none⟩) (N - q) cap]).run Tryd.prog wr = .ok (.int .i64 64) (wr.setRow H (u8s blk).toArray) := by
  have hlen : (u8s blk).length = 64 := by simp [u8s, hbl]
  have hmin : Nat.min (N - q) 64 = 64 := Nat.min_eq_right (by omega)
  have h := run_copy_row (P := Tryd.prog) wr 30 30 3 5 H 0 64 64 ⟨g, q, none⟩ (N - q) cap (u8s (List.replicate 64 0)).toArray 27 (u8s blk) Tryd.underlying30 info8 hA (by rw [hlen]; exact hmin.symm)
    (fun j v hv => by
      have hj : j < blk.length := by have := (List.getElem?_eq_some_iff.1 hv).1; simpa [u8s] using this
      rw [u8s_at hj] at hv
      cases hv
      rw [Addr.add_mid]
      exact hbt j hj)
    (by rw [hlen]; simp [u8s]) (one_u8s _)
  rw [hlen] at h
  have e : ((u8s (List.replicate 64 0)).toArray.toList.take 0 ++ u8s blk ++ (u8s (List.replicate 64 0)).toArray.toList.drop (0 + 64)) = u8s blk := by
    rw [List.take_zero, List.nil_append, List.drop_eq_nil_of_le (by simp [u8s]), List.append_nil]
  rw [e] at h
  exact h

set_option maxHeartbeats 8000000 in
set_option maxRecDepth 100000 in
theorem walk_in (p : Option Addr) (c : Nat) (xs : List Nat) (a d : Nat) (W : World) (hP : Piece W p c xs) (hL : Laid W) (h2k : xs.length ≤ 2000) (had : a ≤ d) (hdn : d ≤ xs.length) :
    Calls Tryd.prog 8 #[.slice p xs.length c, .int .i64 (a : Int), .int .i64 (d : Int)] W fun e W' => e = .returned (.bool true) ∧ Below W.heap.size W W' := by
  have hL2 := hL.size
  have HL := hide hL
  have HP := hide hP
  have hxc := hP.2.2.2.1
  have hcm := hP.2.2.2.2
  unfold maxLen at hcm
  clear hP hL
  have HLB : Hid (∀ v, Below W.heap.size W v → Laid v) := fun v hb => HL.out.keptB (B := W.heap.size) hL2 hb
  have HBL : Hid (∀ (v : World) (q : Option Addr) (cc : Nat) (ys : List Nat), Piece W q cc ys → ∀ b, q = some b → ys ≠ [] → b.block < W.heap.size) := fun v q cc ys h b hb hn => bi_lt h.1 hn b hb
  have lta : (xs.take a).length = a := by simp; omega
  have ltm : ((xs.take d).drop a).length = d - a := by simp; omega
  have ltd : (xs.drop d).length = xs.length - d := by simp
  have ja : xs.take a ++ (xs.take d).drop a = xs.take d := by
    have h := List.take_append_drop a (xs.take d)
    rwa [List.take_take, Nat.min_eq_left had] at h
  have jd : xs.take d ++ xs.drop d = xs := List.take_append_drop d xs
  have P1 := hide (HP.out.take a)
  have P2 := hide ((HP.out.take d).from a (by simp; omega))
  have P3 := hide (HP.out.from d hdn)
  have HW1 := hide (fun (v : World) (g : Nat) (hA : MadeH v g []) (hb : Below W.heap.size W v) (hg : W.heap.size ≤ g) => write_any g [] p c (xs.take a) v hA (P1.out.kept hb).1 P1.out.2.1 (fun b hb hn => by have := HBL.out W _ _ _ P1.out b hb hn; omega) P1.out.2.2.1 P1.out.2.2.2.1 P1.out.2.2.2.2 (by rw [lta]; simp; omega) (HLB.out v hb) (by omega))
  have HW2 := hide (fun (v : World) (g : Nat) (hA : MadeH v g (xs.take a)) (hb : Below W.heap.size W v) (hg : W.heap.size ≤ g) => write_any g (xs.take a) (cutP p a c) (c - a) ((xs.take d).drop a) v hA (P2.out.kept hb).1 P2.out.2.1 (fun b hb hn => by have := HBL.out W _ _ _ P2.out b hb hn; omega) P2.out.2.2.1 P2.out.2.2.2.1 P2.out.2.2.2.2 (by rw [lta, ltm]; omega) (HLB.out v hb) (by omega))
  have HW3 := hide (fun (v : World) (g : Nat) (hA : MadeH v g (xs.take d)) (hb : Below W.heap.size W v) (hg : W.heap.size ≤ g) => write_any g (xs.take d) (cutP p d c) (c - d) (xs.drop d) v hA (P3.out.kept hb).1 P3.out.2.1 (fun b hb hn => by have := HBL.out W _ _ _ P3.out b hb hn; omega) P3.out.2.2.1 P3.out.2.2.2.1 P3.out.2.2.2.2 (by simp; omega) (HLB.out v hb) (by omega))
  rw [lta, List.nil_append] at HW1
  rw [ltm, ja] at HW2
  rw [ltd, jd] at HW3
  have HS1 := hide (fun (v : World) (g : Nat) (hA : MadeH v g (xs.take a)) (hb : Below W.heap.size W v) => hsum_of (.pointer (some ⟨g, 0, none⟩)) (xs.take a) (sumF (xs.take a)) v (Or.inl ⟨g, rfl, hA⟩) (by omega) (HLB.out v hb) rfl)
  have hto := fun v => run_to v p xs.length c a (by omega)
  have hmid := fun v => run_mid v p xs.length c a d had (by omega)
  have hfrom := fun v => run_from v p xs.length c d hdn
  have LTA := hide lta
  have LTM := hide ltm
  have LTD := hide ltd
  clear lta ltm ltd ja jd
  generalize sumF (xs.take a) = D1 at *
  generalize hn : xs.length = n at *
  have HN := hide hn
  clear hn
  have g1 : ¬ (2000 : Int) < (n : Int) := by omega
  have g2 : ¬ (a : Int) < 0 := by omega
  have g3 : ¬ (n : Int) < (a : Int) := by omega
  have g4 : ¬ (d : Int) < (a : Int) := by omega
  have g5 : ¬ (n : Int) < (d : Int) := by omega
  go_enter Tryd.func8, Tryd.ntmps8
  go_wp2_with fail
  refine (known_any _ HL.out).mono ?_
  rintro e w1 ⟨rfl, hb1⟩
  have B1 := hide hb1
  clear hb1
  go_wp2_with fail
  refine (new_any w1 (HLB.out w1 B1.out)).mono ?_
  rintro e w2 ⟨rfl, hw2⟩
  have M2 : Hid (MadeH w2 w1.heap.size []) := by show MadeH _ _ _; rw [hw2]; exact made_new
  have B2 : Hid (Below W.heap.size W w2) := by show Below _ _ _; rw [hw2]; exact B1.out.alloc B1.out.size _
  have X2 : Hid (W.heap.size ≤ w1.heap.size) := B1.out.size
  clear hw2 B1 g1 g2 g3 g4 g5
  generalize w1.heap.size = X at *
  go_wp2_with fail
  refine (HW1.out w2 X M2.out B2.out X2.out).mono ?_
  rintro e w3 ⟨rfl, hM3, hg3⟩
  have M3 := hide hM3
  have B3 : Hid (Below W.heap.size W w3) := B2.out.grown hg3 B2.out.size (by intro k hk; cases hk; exact X2.out)
  clear hM3 hg3 M2 B2 HW1
  go_wp2_with fail
  refine (HS1.out w3 X M3.out B3.out).mono ?_
  rintro e w4 ⟨rfl, hb4⟩
  have M4 := hide (M3.out.kept hb4)
  have B4 : Hid (Below W.heap.size W w4) := B3.out.trans (hb4.mono B3.out.size)
  clear hb4 M3 B3 HS1
  go_wp2_with fail
  refine (HW2.out w4 X M4.out B4.out X2.out).mono ?_
  rintro e w5 ⟨rfl, hM5, hg5⟩
  have M5 := hide hM5
  have B5 : Hid (Below W.heap.size W w5) := B4.out.grown hg5 B4.out.size (by intro k hk; cases hk; exact X2.out)
  clear hM5 hg5 M4 B4 HW2
  go_wp2_with fail
  refine (copy_is (.pointer (some ⟨X, 0, none⟩)) (xs.take d) w5 (Or.inl ⟨X, rfl, M5.out⟩) (HLB.out w5 B5.out)).mono ?_
  rintro e w6 ⟨rfl, hM6, hb6⟩
  have M6 := hide hM6
  have B6 : Hid (Below W.heap.size W w6) := B5.out.trans (hb6.mono B5.out.size)
  have Y6 : Hid (W.heap.size ≤ w5.heap.size) := B5.out.size
  clear hM6 hb6 M5 B5
  generalize w5.heap.size = Y at *
  go_wp2_with fail
  refine (HW3.out w6 Y M6.out B6.out Y6.out).mono ?_
  rintro e w7 ⟨rfl, hM7, hg7⟩
  have M7 := hide hM7
  have B7 : Hid (Below W.heap.size W w7) := B6.out.grown hg7 B6.out.size (by intro k hk; cases hk; exact Y6.out)
  clear hM7 hg7 M6 B6 HW3
  go_upto_region 15 with fail
  go_cut [9] (fun s9 wx => ∃ v, v = s9 ∧ St W wx Y v (xs ++ [128]) xs)
  case first =>
    go_wp2_with (at_builtin; refine wpList_append_bytes rfl (.tmp 68) (.tmp 69) rfl W.heap.size _ [] rfl 0 rfl (World.ownsRow_made w7 #[] 0 B7.out.size (Nat.zero_le _) rfl) p n c xs HN.out rfl ((HP.out.1.kept B7.out).kept ((Below.refl _ _).alloc (Nat.le_refl _) _)) HP.out.2.1 (by omega) (by have := B7.out.size; simp; omega) ?_)
    intro v2 w3 hown hgrow
    have S2 : Hid (St W w3 Y v2 xs xs) := by
      have hb : Below w7.heap.size w7 w3 := ((Below.refl _ w7).alloc (Nat.le_refl _) _).trans (grown_below hgrow (by simp) (by intro k hk; simp [Value.ownBlock] at hk; omega))
      exact ⟨M7.out.kept hb, by rw [HN.out]; simpa using hown, B7.out.trans (hb.mono B7.out.size)⟩
    clear hown hgrow M7 B7
    go_wp2_with (at_builtin; refine wpList_append_bytes rfl (.tmp 70) (.tmp 71) rfl W.heap.size v2 xs rfl n HN.out (by have := S2.out.2.1.alloc (Obj.cells #[.int .u8 (128 : Int)] 5); rw [HN.out] at this; exact this) (some ⟨w3.heap.size, 0, none⟩) 1 1 [128] rfl rfl (bi_one w3 128) (fun e => by cases e) (by omega) (by have := S2.out.2.2.size; simp; omega) ?_)
    intro v4 w4 hown hgrow
    have S4 : Hid (St W w4 Y v4 (xs ++ [128]) xs) := by
      refine St.append (S2.out.kept ((Below.refl _ _).alloc (Nat.le_refl _) _)) ?_ hgrow
      rw [List.length_append, HN.out]; exact hown
    clear hown hgrow S2
    go_wp2_with fail
    go_meet
    case rel => exact ⟨v4, rfl, S4.out⟩
  case rest =>
    clear M7 B7
    obtain ⟨v4, rfl, hS4⟩ := hcut
    have S4 := hide hS4
    clear hS4
    have hz : padZ n < 64 := Nat.mod_lt _ (by omega)
    have HZ : Hid (padZ n = (119 - n % 64) % 64) := rfl
    have HPF : Hid (padF xs = xs ++ [128] ++ List.replicate (padZ n) 0 ++ be8 (n * 8) 8) := by show _ = _; rw [← HN.out]; rfl
    generalize padZ n = z at *
    go_wp2
    go_loopg [9] (z + 1) (fun f s9 wr => ∃ (k : Nat) (v : Value), v = s9 ∧ k ≤ z ∧ z - k < f ∧ St W wr Y v (xs ++ [128] ++ List.replicate k 0) xs)
    case atStart => exact ⟨0, v4, rfl, by omega, by omega, by simpa using S4.out⟩
    case round =>
      clear S4
      obtain ⟨k, v, rfl, hk, hf, hS⟩ := hrel
      have HS := hide hS
      have hll : (xs ++ [128] ++ List.replicate k 0).length = n + 1 + k := by simp [HN.out]; omega
      obtain ⟨gv, cv, rfl, hgv, hgs, hcv, hcmv⟩ := own_shape hS.2.1 (by rw [hll]; omega)
      rw [hll] at HS hcv ⊢
      have HLL := hide hll
      clear hS hll
      generalize hL : xs ++ [128] ++ List.replicate k 0 = L at *
      have HLX := hide hL
      clear hL
      unfold maxLen at hcmv
      by_cases hkz : k < z
      · have hne : ¬ (n + 1 + k) % 64 = 56 := by have := HZ.out; omega
        have hne' : ¬ (((n : Int) + 1 + k) % 64 = 56) := by omega
        go_wp2_with (at_builtin; refine wpList_append_bytes rfl (.tmp 77) (.tmp 78) rfl W.heap.size _ L rfl (n + 1 + k) HLL.out (by have := HS.out.2.1.alloc (Obj.cells #[.int .u8 (0 : Int)] 5); rw [HLL.out] at this; exact this) (some ⟨wr.heap.size, 0, none⟩) 1 1 [0] rfl rfl (bi_one wr 0) (fun e => by cases e) (by omega) (by have := HS.out.2.2.size; simp; omega) ?_)
        intro v5 w5 hown hgrow
        have S5 : Hid (St W w5 Y v5 (xs ++ [128] ++ List.replicate (k + 1) 0) xs) := by
          have e : xs ++ [128] ++ List.replicate (k + 1) 0 = L ++ [0] := by rw [List.replicate_succ', ← List.append_assoc, HLX.out]
          show St _ _ _ _ _ _
          rw [e]
          refine St.append (HS.out.kept ((Below.refl _ _).alloc (Nat.le_refl _) _)) ?_ hgrow
          rw [List.length_append, HLL.out]; exact hown
        clear hown hgrow HS
        go_wp2
        go_roundg (z - k)
        case measure => omega
        case rel => exact ⟨k + 1, v5, rfl, by omega, by omega, S5.out⟩
      · have e : k = z := by omega
        subst e
        have heq : (n + 1 + k) % 64 = 56 := by have := HZ.out; omega
        have heq' : ((n : Int) + 1 + k) % 64 = 56 := by omega
        have HBE := hide (be8_cells n h2k)
        have HPX : Hid (padF xs = L ++ be8 (n * 8) 8) := by show _ = _; rw [HPF.out, HLX.out]
        have hb8 : (be8 (n * 8) 8).length = 8 := be8_length _ 8
        clear HPF HZ
        generalize be8 (n * 8) 8 = eb at *
        go_upto_region 19 with fail
        clear heq heq'
        go_wp2_with (at_builtin; refine wpList_append_bytes rfl (.tmp 83) (.tmp 95) rfl W.heap.size _ L rfl (n + 1 + k) HLL.out (by have := HS.out.2.1; rw [HLL.out] at this; exact this.alloc _) (some ⟨wr.heap.size, 0, none⟩) 8 8 eb hb8 rfl (by rw [HBE.out]; exact bi_row wr eb) (fun e => by cases e) (by omega) (by have := HS.out.2.2.size; simp; omega) ?_)
        intro v6 w6 hown hgrow
        have S6 : Hid (St W w6 Y v6 (L ++ eb) xs) := by
          refine St.append (HS.out.kept ((Below.refl _ _).alloc (Nat.le_refl _) _)) ?_ hgrow
          rw [List.length_append, HLL.out, hb8]; exact hown
        have hwhole := padF_whole xs
        have hpb := padF_bytes (HP.out.2.2.1)
        have HSM : Hid (sumF xs = digestF (hashTo (padF xs) ((padF xs).length / 64))) := rfl
        have hpx := HPX.out
        have hpl : (L ++ eb).length = n + 1 + k + 8 := by rw [List.length_append, HLL.out, hb8]
        rw [hpx] at hwhole hpb HSM
        rw [hpl] at hwhole HSM
        have HPL := hide hpl
        have HPB := hide hpb
        clear hown hgrow HS hpx hpl hpb hb8 HPX HBE HLL HLX
        generalize L ++ eb = PF at *
        obtain ⟨N, hN⟩ : ∃ N, N = n + 1 + k + 8 := ⟨_, rfl⟩
        rw [← hN] at HSM hwhole HPL
        have hNb : N ≤ 3000 := by omega
        have hN9 : 9 ≤ N := by omega
        obtain ⟨gx, cx, rfl, hgx, hgsx, hcx, hcmx⟩ := own_shape S6.out.2.1 (by rw [HPL.out]; omega)
        rw [HPL.out] at S6 hcx ⊢
        unfold maxLen at hcmx
        clear hN hgx hgv hgs hcv hcmv
        go_wp2
        generalize hH : w6.heap.size = G at *
        have HH := hide hH
        clear hH
        have HWG : Hid (W.heap.size ≤ G) := by show _ ≤ _; rw [← HH.out]; exact S6.out.2.2.size
        go_loopg [12] 9 (fun f s12 wx => ∃ (i : Nat), s12 = .int .i64 i ∧ i ≤ 8 ∧ 8 - i < f ∧ St W wx Y (.slice (some ⟨gx, 0, none⟩) N cx) PF xs ∧ Arr wx G 26 (u32s (part startT 8 i)))
        case atStart =>
          refine ⟨0, rfl, by omega, by omega, S6.out.kept ((Below.refl _ _).alloc (Nat.le_refl _) _), ?_⟩
          exact Arr.newAt w6 26 (u32s (List.replicate 8 0)) G HH.out
        case round =>
          clear S6 HH
          obtain ⟨i, rfl, hi, hf2, hS, hA⟩ := hrel
          have HS := hide hS
          have HA := hide hA
          clear hS hA
          by_cases hi8 : i < 8
          · have HST := hide (shaStart_any (i : Int) wr (HLB.out wr HS.out.2.2))
            rw [wordAt_in (T := startT) (k := i) (by rw [startT_length]; omega)] at HST
            have c7 : ∃ x, wr.cell? ⟨G, i, none⟩ = some (.int .u32 x) := ⟨_, (HA.out.cell i).trans (u32s_at (by rw [part_length _ _ _ startT_length (by omega)]; omega))⟩
            obtain ⟨x7, c7⟩ := c7
            have f7 := HA.out.frozen i
            have hi8' : (i : Int) < 8 := by omega
            have C7 := hide c7
            have F7 := hide f7
            clear c7 f7
            go_wp2_with fail
            refine HST.out.mono ?_
            rintro e w7 ⟨rfl, hw7⟩
            have c8 : w7.cell? ⟨G, i, none⟩ = some (.int .u32 x7) := by rw [hw7]; exact C7.out
            have f8 : w7.frozen? ⟨G, i, none⟩ = false := by rw [hw7]; exact F7.out
            have S8 := hide (show St W w7 Y (.slice (some ⟨gx, 0, none⟩) N cx) PF xs from by rw [hw7]; exact HS.out)
            have A8 := hide (show Arr w7 G 26 (u32s (part startT 8 i)) from by rw [hw7]; exact HA.out)
            clear hw7 HS HA HST C7 F7
            go_wp2
            go_roundg (8 - i)
            case measure => omega
            case rel =>
              refine ⟨i + 1, by go_num, by omega, by omega, S8.out.other A8.out (by decide) (by decide) HWG.out (grown_set w7 G i _), ?_⟩
              have := A8.out.set i (.int .u32 ((startT.getD i 0 : Nat) : Int))
              rw [u32s_set, part_set _ _ _ startT_length hi8] at this
              exact this
          · have e : i = 8 := by omega
            subst e
            have hA := HA.out
            rw [part_full _ _ startT_length] at hA
            have HA8 := hide hA
            clear hA HA
            go_wp2
            go_loopg [13] (N + 1) (fun f s13 wx => ∃ (j q : Nat), s13 = .int .i64 q ∧ q = 64 * j ∧ q ≤ N ∧ N - q < f ∧ St W wx Y (.slice (some ⟨gx, 0, none⟩) N cx) PF xs ∧ Arr wx G 26 (u32s (hashTo PF j)))
            case atStart => exact ⟨0, 0, rfl, rfl, by omega, by omega, HS.out, HA8.out⟩
            case round =>
              clear HS HA8
              obtain ⟨j, q, rfl, hqj, hqN, hf3, hS, hA⟩ := hrel
              have HS := hide hS
              have HA := hide hA
              have HQJ := hide hqj
              have hR1 := hS.2.1
              rw [HPL.out] at hR1
              have hbt : Bts wr gx 0 PF := fun i hi => by rw [Nat.zero_add]; exact (hR1.cellAt i (by rw [HPL.out] at hi; omega)).trans (u8s_at hi)
              have hjl := hashTo_length PF j
              have hjw := hashTo_words PF j
              by_cases hq64 : q + 64 ≤ N
              · have hq64' : (q : Int) + 64 ≤ (N : Int) := by omega
                have hnx : hashTo PF (j + 1) = blockF (hashTo PF j) ((PF.drop q).take 64) := by rw [hqj]; rfl
                have HNX := hide hnx
                have hdl : ((PF.drop q).take 64).length = 64 := by simp [HPL.out]; omega
                have hbd : Bts wr gx q ((PF.drop q).take 64) := fun i hi => by
                  rw [hdl] at hi
                  have := hbt (q + i) (by rw [HPL.out]; omega)
                  rw [Nat.zero_add] at this
                  rw [this]
                  congr 3
                  simp [List.getD, hi]
                have hdb : ∀ x ∈ (PF.drop q).take 64, x < 256 := fun x hx => HPB.out x (List.mem_of_mem_drop (List.mem_of_mem_take hx))
                have HCB := hide (fun (v : World) (hv : Laid v) => block_any (hashTo PF j) ((PF.drop q).take 64) v hjl hjw hdl hdb hv)
                have HBD := hide hbd
                have HDL := hide hdl
                have hnl : (blockF (hashTo PF j) ((PF.drop q).take 64)).length = 8 := blockF_length _ _
                clear hnx hbd hdb hbt hqj hS hA hR1
                generalize (PF.drop q).take 64 = blk at *
                generalize hashTo PF j = hj at *
                have HI8 : Hid ((Tryd.prog.info? 26).map (·.size) = some (u32s hj).toArray.size) := by show _ = _; rw [info26]; simp [u32s, hjl]
                have HI9 : Hid ((Tryd.prog.info? 26).map (·.size) = some (u32s (blockF hj blk)).toArray.size) := by show _ = _; rw [info26]; simp [u32s, hnl]
                have HO9 : Hid ((u32s hj).toArray.size = (u32s (blockF hj blk)).toArray.size) := by show _ = _; simp [u32s, hnl, hjl]
                have HI64 : Hid ((Tryd.prog.info? 27).map (·.size) = some (u8s blk).toArray.size) := by show _ = _; rw [info27']; simp [u8s, hdl]
                generalize blockF hj blk = hb at *
                have hsl := fun v => run_tail v gx N cx q (by omega) (by omega)
                clear hjl hjw hnl hdl
                go_upto_region 28 with fail
                go_cut [14] (fun s14 wx => s14 = .pointer (some ⟨wr.heap.size, 0, none⟩) ∧ Arr wx wr.heap.size 27 (u8s (List.replicate 64 0)) ∧ Below wr.heap.size wr wx)
                case first =>
                  go_wp2
                  go_meet
                  case rel => exact ⟨rfl, Arr.new wr 27 (u8s (List.replicate 64 0)), (Below.refl _ _).alloc (Nat.le_refl _) _⟩
                case rest =>
                  obtain ⟨rfl, hx, hbx⟩ := hcut
                  have HS1 := hide (HS.out.kept hbx)
                  have HA1 := hide (HA.out.kept hbx)
                  have HX1 := hide hx
                  have hGr : Hid (G < wr.heap.size) := HA.out.lt
                  have HWr : Hid (W.heap.size ≤ wr.heap.size) := HS.out.2.2.size
                  have HCP := hide (copy_blk wc.drew wr.heap.size gx q N (cx - q) blk (show Arr wc.drew _ _ _ from hx) HDL.out hq64 (HBD.out.kept hbx.drew))
                  have hsa := fun v => run_all64 v wr.heap.size
                  clear hx hbx HS HA HBD
                  generalize wr.heap.size = H at *
                  go_upto_region 29 with fail
                  go_cut [] (fun wx => Arr wx H 27 (u8s blk) ∧ wc.grownBy wx (some H))
                  case first =>
                    refine wp_region_any (by kernel_rfl) ?_
                    try (change wpAny _ _ _ _ _ _ _ (World.drew _))
                    refine take_dst (i := 0) (d := 112) (v := ?_) rfl rfl (by kernel_rfl) (by kernel_rfl) (by kernel_rfl) (fun _ _ _ h => h) (by rfl) ?_ ?_
                    rotate_left
                    · intro wZ; go_simp; first | (with_reducible rfl) | (rw [if_pos (by omega)]; with_reducible rfl) | skip
                    try simp only [Act.put, List.setIfInBounds_toArray, List.set_cons_zero, List.set_cons_succ]
                    refine take_dst (i := 1) (d := 113) (v := ?_) rfl rfl (by kernel_rfl) (by kernel_rfl) (by kernel_rfl) (fun _ _ _ h => h) (by rfl) ?_ ?_
                    rotate_left
                    · intro wZ; go_simp; first | (with_reducible rfl) | (rw [if_pos (by omega)]; with_reducible rfl) | skip
                    try simp only [Act.put, List.setIfInBounds_toArray, List.set_cons_zero, List.set_cons_succ]
                    refine take_dst (i := 2) (d := 114) (v := ?_) rfl rfl (by kernel_rfl) (by kernel_rfl) (by kernel_rfl) (fun _ _ _ h => h) (by rfl) ?_ ?_
                    rotate_left
                    · intro wZ; go_simp; first | (with_reducible rfl) | (rw [if_pos (by omega)]; with_reducible rfl) | skip
                    try simp only [Act.put, List.setIfInBounds_toArray, List.set_cons_zero, List.set_cons_succ]
                    refine take_dst (i := 3) (d := 115) (v := ?_) rfl rfl (by kernel_rfl) (by kernel_rfl) (by kernel_rfl) (fun _ _ _ h => h) (by rfl) ?_ ?_
                    rotate_left
                    · intro wZ; go_simp; first | (with_reducible rfl) | (rw [if_pos (by omega)]; with_reducible rfl) | skip
                    try simp only [Act.put, List.setIfInBounds_toArray, List.set_cons_zero, List.set_cons_succ]
                    refine wpAny_ready (rs := [4]) (by kernel_rfl) (by simp) ?_
                    refine (AllReady.cons rfl (fun K hK => ?_) AllReady.nil)
                    refine wp_copy_dst _ (dd := 116) rfl (.tmp 112) (.tmp 115) 30 30 rfl _ _ rfl rfl HCP.out ?_
                    first | (refine hK _ _ ?_; clear hK K) | (clear hK K) | skip
                    try simp only [Act.put, List.setIfInBounds_toArray, List.set_cons_zero, List.set_cons_succ]
                    refine wpAny_done (by kernel_rfl) ?_ _
                    go_wp2_with fail
                    go_meet
                    case rel => exact ⟨HX1.out.row _, grown_trans (grown_drew (grown_refl _ _)) (grown_row _ H _)⟩
                  case rest =>
                    obtain ⟨hx2, hg2⟩ := hcut
                    have HX2 := hide hx2
                    have HS2 := hide (HS1.out.other HX1.out (by decide) (by decide) HWr.out hg2)
                    have HA2 := hide (HA1.out.grown' hg2 (Nat.ne_of_lt hGr.out))
                    clear hx2 hg2 HS1 HA1 HX1 HCP hsa hsl
                    go_wp2_with (first
                      | (refine wpList_load_row rfl 26 _ rfl G rfl 26 _ (0, 0) _ HA2.out Tryd.underlying26 rfl HI8.out ?_)
                      | (refine wpList_load_row rfl 27 _ rfl H rfl 27 _ (0, 0) _ HX2.out Tryd.underlying27 rfl HI64.out ?_))
                    refine (HCB.out _ (HLB.out _ HS2.out.2.2)).mono ?_
                    rintro e w9 ⟨rfl, hb9⟩
                    have HS9 := hide (HS2.out.kept hb9)
                    have HA9 := hide (HA2.out.kept hb9)
                    clear hb9 HS2 HA2 HX2 HCB
                    go_wp2_with (refine wpList_store_row rfl 26 _ _ rfl G _ rfl rfl 26 _ HA9.out HI9.out HO9.out (one_u32s _) ?_)
                    go_roundg (N - q)
                    case measure => omega
                    case rel =>
                      refine ⟨j + 1, q + 64, by go_num, by have := HQJ.out; omega, by omega, by omega, ?_, ?_⟩
                      · exact HS9.out.other HA9.out (by decide) (by decide) HWG.out (grown_row _ G _)
                      · rw [HNX.out]; exact HA9.out.row _
              · have hqe : q = N := by have := HQJ.out; omega
                have hje : N / 64 = j := by have := HQJ.out; omega
                rw [hje] at HSM
                have hDl : (sumF xs).length = 32 := sumF_length _
                have hDa : ∀ i, i < 32 → (sumF xs).getD i 0 = (hashTo PF j).getD (i / 4) 0 / 2 ^ (24 - 8 * (i % 4)) % 256 := fun i hi => by rw [HSM.out]; exact digestF_at _ i hi
                have DL := hide hDl
                have DA := hide hDa
                have JL := hide hjl
                have JW := hide hjw
                have hqn : ¬ (q : Int) + 64 ≤ (N : Int) := by omega
                clear hqe hje hbt hR1 hS hA HQJ hqj HPB HSM hDl hDa hjl hjw
                have j3 : xs.take a ++ (xs.take d).drop a ++ xs.drop d = xs := by
                  have h := List.take_append_drop a (xs.take d)
                  rw [List.take_take, Nat.min_eq_left had] at h
                  rw [h, List.take_append_drop]
                have HW1 := hide (fun (v : World) (hb : Below W.heap.size W v) => ssum_one p c xs (sumF xs) v (HP.out.kept hb) (by rw [HN.out]; omega) (HLB.out v hb) (Nat.le_trans hL2 hb.size) rfl)
                have HW3 := hide (fun (v : World) (hb : Below W.heap.size W v) => ssum_three p (cutP p a c) (cutP p d c) c (c - a) (c - d) (xs.take a) ((xs.take d).drop a) (xs.drop d) (sumF xs) v (P1.out.kept hb) (P2.out.kept hb) (P3.out.kept hb) (by rw [LTA.out, LTM.out, LTD.out]; omega) (HLB.out v hb) (Nat.le_trans hL2 hb.size) (by rw [j3]))
                have HCS := hide (fun (v : World) (h1 : MadeH v Y xs) (hb : Below W.heap.size W v) => hsum_of (.pointer (some ⟨Y, 0, none⟩)) xs (sumF xs) v (Or.inl ⟨Y, rfl, h1⟩) (by rw [HN.out]; omega) (HLB.out v hb) rfl)
                have HCL := hide (fun (v : World) (h1 : MadeH v Y xs) => len_is (.pointer (some ⟨Y, 0, none⟩)) xs v (Or.inl ⟨Y, rfl, h1⟩))
                have HE := hide (eq_self (sumF xs) (sumF_length _) (sumF_bytes _))
                have DB := hide (sumF_bytes xs)
                rw [HN.out] at HW1 HCL
                rw [LTA.out, LTM.out, LTD.out] at HW3
                clear j3 P1 P2 P3
                have ID : Hid ((Tryd.prog.info? 35).map (·.size) = some (u8s (sumF xs)).toArray.size) := by show _ = _; rw [info35]; simp [u8s, DL.out]
                have OD : Hid ((u8s (List.replicate 32 0)).toArray.size = (u8s (sumF xs)).toArray.size) := by show _ = _; simp [u8s, DL.out]
                generalize hashTo PF j = hF at *
                generalize sumF xs = D at *
                go_upto_region 31 with fail
                go_cut [15] (fun s15 wx => ∃ O, s15 = .pointer (some ⟨O, 0, none⟩) ∧ Arr wx O 35 (u8s D) ∧ Below wr.heap.size wr wx)
                case first =>
                  go_wp2_with fail
                  refine (HW1.out wr HS.out.2.2).mono ?_
                  rintro e w9 ⟨rfl, hb9⟩
                  have b9 := hide hb9
                  clear hb9 HW1
                  go_wp2_with (refine wpList_store_row rfl 35 _ _ rfl w9.heap.size (u8s D).toArray rfl rfl 35 (u8s (List.replicate 32 0)).toArray (heap_at w9 _ _ rfl) ID.out OD.out (all_u8s _) ?_)
                  go_meet
                  case rel => exact ⟨w9.heap.size, rfl, (Arr.new w9 35 (u8s (List.replicate 32 0))).row _, below_setRow (b9.out.alloc b9.out.size _) b9.out.size (by simp) _⟩
                case rest =>
                  obtain ⟨O, rfl, hO, hbO⟩ := hcut
                  have KM := hide (HS.out.1.kept hbO)
                  have KB : Hid (Below W.heap.size W wc) := HS.out.2.2.trans (hbO.mono HS.out.2.2.size)
                  have KW := hide (HA.out.kept hbO)
                  have KO := hide hO
                  clear hO hbO HS HA
                  go_wp2
                  go_loopg [16] 33 (fun f s16 wx => ∃ (i : Nat), s16 = .int .i64 i ∧ i ≤ 32 ∧ 32 - i < f ∧ Below wc.heap.size wc wx)
                  case atStart => exact ⟨0, rfl, by omega, by omega, Below.refl _ _⟩
                  case round =>
                    obtain ⟨i, rfl, hi2, hf4, hbw⟩ := hrel
                    have HBW := hide hbw
                    clear hbw
                    by_cases hi32 : i < 32
                    · obtain ⟨ia, hia⟩ : ∃ a, a = i / 4 := ⟨_, rfl⟩
                      obtain ⟨ir, hir⟩ : ∃ a, a = i % 4 := ⟨_, rfl⟩
                      obtain ⟨sf, hsf⟩ : ∃ a, a = 24 - 8 * ir := ⟨_, rfl⟩
                      have hdi := DA.out i hi32
                      rw [← hia, ← hir, ← hsf] at hdi
                      have KY : Hid (∀ v : World, Hid (Below wc.heap.size wc v) → v.cell? ⟨G, ia, none⟩ = some (.int .u32 ((hF.getD ia 0 : Nat) : Int))) := fun v hv => ((KW.out.kept hv.out).cell ia).trans (u32s_at (l := hF) (by rw [JL.out]; omega))
                      have KD : Hid (∀ v : World, Hid (Below wc.heap.size wc v) → v.cell? ⟨O, i, none⟩ = some (.int .u8 ((D.getD i 0 : Nat) : Int))) := fun v hv => ((KO.out.kept hv.out).cell i).trans (u8s_at (by rw [DL.out]; exact hi32))
                      have ly := JW.out.getD ia
                      have e1 : Int.tdiv (i : Int) 4 = (ia : Int) := by rw [Int.tdiv_eq_ediv_of_nonneg (by omega)]; omega
                      have e1' : (i : Int) / 4 = (ia : Int) := by omega
                      have e2 : Int.tmod (i : Int) 4 = (ir : Int) := by rw [Int.tmod_eq_emod_of_nonneg (by omega)]; omega
                      have e2' : (i : Int) % 4 = (ir : Int) := by omega
                      have e4 : 24 - 8 * (ir : Int) = (sf : Int) := by omega
                      have pa : (ia : Int) < 8 := by omega
                      have pi32 : (i : Int) < 32 := by omega
                      have hs24 : sf ≤ 24 := by omega
                      have hr4 : ir < 4 := by omega
                      clear hia hsf hir
                      generalize hF.getD ia 0 = y at *
                      have e3 : ((y : Int) / 2 ^ sf) % 256 = ((D.getD i 0 : Nat) : Int) := by rw [hdi]; simp
                      clear hdi
                      have hdvb : D.getD i 0 < 256 := by
                        have := DB.out (D[i]'(by rw [DL.out]; exact hi32)) (List.getElem_mem _)
                        simpa [List.getD, DL.out, hi32] using this
                      generalize D.getD i 0 = dv at *
                      have q1 : IntKind.i64.wrap (ia : Int) = (ia : Int) := by simp [IntKind.wrap, IntKind.bits, IntKind.signed]; omega
                      have q2 : IntKind.i64.wrap (8 * (ir : Int)) = 8 * (ir : Int) := by simp [IntKind.wrap, IntKind.bits, IntKind.signed]; omega
                      have q3 : IntKind.i64.wrap (sf : Int) = (sf : Int) := by simp [IntKind.wrap, IntKind.bits, IntKind.signed]; omega
                      have q4 : IntKind.u64.wrap (sf : Int) = (sf : Int) := by simp [IntKind.wrap, IntKind.bits, IntKind.signed]; omega
                      have q5 : IntKind.u8.wrap ((y : Int) / 2 ^ sf) = (dv : Int) := by rw [← e3]; simp [IntKind.wrap, IntKind.bits, IntKind.signed]
                      go_upto_region 35 with fail
                      refine wp_region_held_drew (S := fun v => Hid (Below wc.heap.size wc v)) (by kernel_rfl) (hide HBW.out.drew) (fun hHeld => ?_)
                      refine take_dstH (i := 0) (d := 127) (v := ?_) rfl rfl (by kernel_rfl) (by kernel_rfl) (by kernel_rfl) (fun _ _ _ h => h) (by rfl) hHeld ?_ ?_
                      rotate_left
                      · intro wZ hSw; clear hSw; go_simp; first | (with_reducible rfl) | (rw [if_pos (by omega)]; with_reducible rfl) | skip
                      try simp only [Act.put, List.setIfInBounds_toArray, List.set_cons_zero, List.set_cons_succ]
                      refine take_dstH (i := 1) (d := 128) (v := ?_) rfl rfl (by kernel_rfl) (by kernel_rfl) (by kernel_rfl) (fun _ _ _ h => h) (by rfl) hHeld ?_ ?_
                      rotate_left
                      · intro wZ hSw; clear hSw; go_simp; first | (with_reducible rfl) | (rw [if_pos (by omega)]; with_reducible rfl) | skip
                      try simp only [Act.put, List.setIfInBounds_toArray, List.set_cons_zero, List.set_cons_succ]
                      refine take_dstH (i := 2) (d := 129) (v := ?_) rfl rfl (by kernel_rfl) (by kernel_rfl) (by kernel_rfl) (fun _ _ _ h => h) (by rfl) hHeld ?_ ?_
                      rotate_left
                      · intro wZ hSw; have hfS := KD.out wZ hSw; clear hSw; go_simp; first | (with_reducible rfl) | (rw [if_pos (by omega)]; with_reducible rfl) | skip
                      try simp only [Act.put, List.setIfInBounds_toArray, List.set_cons_zero, List.set_cons_succ]
                      refine take_dstH (i := 3) (d := 130) (v := ?_) rfl rfl (by kernel_rfl) (by kernel_rfl) (by kernel_rfl) (fun _ _ _ h => h) (by rfl) hHeld ?_ ?_
                      rotate_left
                      · intro wZ hSw; clear hSw; go_simp; first | (with_reducible rfl) | (rw [if_pos (by omega)]; with_reducible rfl) | skip
                      try simp only [Act.put, List.setIfInBounds_toArray, List.set_cons_zero, List.set_cons_succ]
                      refine take_dstH (i := 4) (d := 131) (v := ?_) rfl rfl (by kernel_rfl) (by kernel_rfl) (by kernel_rfl) (fun _ _ _ h => h) (by rfl) hHeld ?_ ?_
                      rotate_left
                      · intro wZ hSw; clear hSw; go_simp; first | (with_reducible rfl) | (rw [if_pos (by omega)]; with_reducible rfl) | skip
                      try simp only [Act.put, List.setIfInBounds_toArray, List.set_cons_zero, List.set_cons_succ]
                      refine take_dstH (i := 5) (d := 132) (v := ?_) rfl rfl (by kernel_rfl) (by kernel_rfl) (by kernel_rfl) (fun _ _ _ h => h) (by rfl) hHeld ?_ ?_
                      rotate_left
                      · intro wZ hSw; clear hSw; go_simp; first | (with_reducible rfl) | (rw [if_pos (by omega)]; with_reducible rfl) | skip
                      try simp only [Act.put, List.setIfInBounds_toArray, List.set_cons_zero, List.set_cons_succ]
                      refine take_dstH (i := 6) (d := 133) (v := ?_) rfl rfl (by kernel_rfl) (by kernel_rfl) (by kernel_rfl) (fun _ _ _ h => h) (by rfl) hHeld ?_ ?_
                      rotate_left
                      · intro wZ hSw; have hfS := KY.out wZ hSw; clear hSw; go_simp; first | (with_reducible rfl) | (rw [if_pos (by omega)]; with_reducible rfl) | skip
                      try simp only [Act.put, List.setIfInBounds_toArray, List.set_cons_zero, List.set_cons_succ]
                      refine take_dstH (i := 7) (d := 134) (v := ?_) rfl rfl (by kernel_rfl) (by kernel_rfl) (by kernel_rfl) (fun _ _ _ h => h) (by rfl) hHeld ?_ ?_
                      rotate_left
                      · intro wZ hSw; clear hSw; go_simp; first | (with_reducible rfl) | (rw [if_pos (by omega)]; with_reducible rfl) | skip
                      try simp only [Act.put, List.setIfInBounds_toArray, List.set_cons_zero, List.set_cons_succ]
                      refine take_dstH (i := 8) (d := 135) (v := ?_) rfl rfl (by kernel_rfl) (by kernel_rfl) (by kernel_rfl) (fun _ _ _ h => h) (by rfl) hHeld ?_ ?_
                      rotate_left
                      · intro wZ hSw; clear hSw; go_simp; first | (with_reducible rfl) | (rw [if_pos (by omega)]; with_reducible rfl) | skip
                      try simp only [Act.put, List.setIfInBounds_toArray, List.set_cons_zero, List.set_cons_succ]
                      refine take_dstH (i := 9) (d := 136) (v := ?_) rfl rfl (by kernel_rfl) (by kernel_rfl) (by kernel_rfl) (fun _ _ _ h => h) (by rfl) hHeld ?_ ?_
                      rotate_left
                      · intro wZ hSw; clear hSw; go_simp; first | (with_reducible rfl) | (rw [if_pos (by omega)]; with_reducible rfl) | skip
                      try simp only [Act.put, List.setIfInBounds_toArray, List.set_cons_zero, List.set_cons_succ]
                      refine take_dstH (i := 10) (d := 137) (v := ?_) rfl rfl (by kernel_rfl) (by kernel_rfl) (by kernel_rfl) (fun _ _ _ h => h) (by rfl) hHeld ?_ ?_
                      rotate_left
                      · intro wZ hSw; clear hSw; go_simp; first | (with_reducible rfl) | (rw [if_pos (by omega)]; with_reducible rfl) | skip
                      try simp only [Act.put, List.setIfInBounds_toArray, List.set_cons_zero, List.set_cons_succ]
                      refine take_dstH (i := 11) (d := 138) (v := ?_) rfl rfl (by kernel_rfl) (by kernel_rfl) (by kernel_rfl) (fun _ _ _ h => h) (by rfl) hHeld ?_ ?_
                      rotate_left
                      · intro wZ hSw; clear hSw; go_simp; first | (with_reducible rfl) | (rw [if_pos (by omega)]; with_reducible rfl) | skip
                      try simp only [Act.put, List.setIfInBounds_toArray, List.set_cons_zero, List.set_cons_succ]
                      refine take_dstH (i := 12) (d := 139) (v := ?_) rfl rfl (by kernel_rfl) (by kernel_rfl) (by kernel_rfl) (fun _ _ _ h => h) (by rfl) hHeld ?_ ?_
                      rotate_left
                      · intro wZ hSw; clear hSw; go_simp; first | (with_reducible rfl) | (rw [if_pos (by omega)]; with_reducible rfl) | skip
                      try simp only [Act.put, List.setIfInBounds_toArray, List.set_cons_zero, List.set_cons_succ]
                      refine take_dstH (i := 13) (d := 140) (v := ?_) rfl rfl (by kernel_rfl) (by kernel_rfl) (by kernel_rfl) (fun _ _ _ h => h) (by rfl) hHeld ?_ ?_
                      rotate_left
                      · intro wZ hSw; clear hSw; go_simp; first | (with_reducible rfl) | (rw [if_pos (by omega)]; with_reducible rfl) | skip
                      try simp only [Act.put, List.setIfInBounds_toArray, List.set_cons_zero, List.set_cons_succ]
                      refine take_dstH (i := 14) (d := 141) (v := ?_) rfl rfl (by kernel_rfl) (by kernel_rfl) (by kernel_rfl) (fun _ _ _ h => h) (by rfl) hHeld ?_ ?_
                      rotate_left
                      · intro wZ hSw; clear hSw; go_simp; first | (with_reducible rfl) | (rw [if_pos (by omega)]; with_reducible rfl) | skip
                      try simp only [Act.put, List.setIfInBounds_toArray, List.set_cons_zero, List.set_cons_succ]
                      refine wpAnyH_done (by kernel_rfl) ?_ _
                      go_wp2
                      go_roundg (32 - i)
                      case measure => omega
                      case rel => exact ⟨i + 1, by go_num, by omega, by omega, HBW.out.drew⟩
                    · have e : i = 32 := by omega
                      subst e
                      have KT : Hid (∀ v : World, Hid (Below wc.heap.size wc v) → Below W.heap.size W v) := fun v hv => KB.out.trans (hv.out.mono KB.out.size)
                      have KM2 : Hid (∀ v : World, Hid (Below wc.heap.size wc v) → MadeH v Y xs) := fun v hv => KM.out.kept hv.out
                      have KO2 : Hid (∀ v : World, Hid (Below wc.heap.size wc v) → Arr v O 35 (u8s D)) := fun v hv => KO.out.kept hv.out
                      clear KM KB KW KO JL JW DA DB
                      go_upto_region 37 with fail
                      refine wp_region_held_drew (S := fun v => Hid (Below wc.heap.size wc v)) (by kernel_rfl) (hide HBW.out.drew) (fun hHeld => ?_)
                      refine take_dstH (i := 0) (d := 142) (v := ?_) rfl rfl (by kernel_rfl) (by kernel_rfl) (by kernel_rfl) (fun _ _ _ h => h) (by rfl) hHeld ?_ ?_
                      rotate_left
                      · intro wZ hSw; clear hSw; go_simp; first | (with_reducible rfl) | (rw [if_pos (by omega)]; with_reducible rfl) | skip
                      try simp only [Act.put, List.setIfInBounds_toArray, List.set_cons_zero, List.set_cons_succ]
                      refine take_dstH (i := 2) (d := 144) (v := ?_) rfl rfl (by kernel_rfl) (by kernel_rfl) (by kernel_rfl) (fun _ _ _ h => h) (by rfl) hHeld ?_ ?_
                      rotate_left
                      · intro wZ hSw; refine exec_load_row 35 (.tmp 15) ?_ O ?_ 35 _ (0, 0) _ (KO2.out wZ hSw) Tryd.underlying35 rfl ID.out <;> rfl
                      try simp only [Act.put, List.setIfInBounds_toArray, List.set_cons_zero, List.set_cons_succ]
                      refine wpAnyH_ready (rs := [1]) (by kernel_rfl) (by simp) ?_
                      refine (AllReadyH.cons rfl (fun K hK => ?_) AllReadyH.nil)
                      go_simp
                      refine (HCS.out _ (KM2.out _ hHeld) (KT.out _ hHeld)).mono ?_; rintro e wa ⟨rfl, hba⟩; have HBa : Hid (Below wc.heap.size wc wa) := (Hid.out hHeld).trans (hba.mono (Hid.out hHeld).size); clear hba
                      go_wp2_with fail
                      refine hK.out _ _ ?_ (fun hHeld => ?_)
                      · exact HBa
                      clear hK K
                      try simp only [Act.put, List.setIfInBounds_toArray, List.set_cons_zero, List.set_cons_succ]
                      refine take_dstH (i := 3) (d := 145) (v := ?_) rfl rfl (by kernel_rfl) (by kernel_rfl) (by kernel_rfl) (fun _ _ _ h => h) (by rfl) hHeld ?_ ?_
                      rotate_left
                      · intro wZ hSw; refine exec_eql_agg 35 35 (.tmp 143) (.tmp 144) ?_ (u8s D).toArray (u8s D).toArray ?_ ?_ true (guard35 _ _ _ _ _) (HE.out wZ) <;> rfl
                      try simp only [Act.put, List.setIfInBounds_toArray, List.set_cons_zero, List.set_cons_succ]
                      refine take_dstH (i := 4) (d := 146) (v := ?_) rfl rfl (by kernel_rfl) (by kernel_rfl) (by kernel_rfl) (fun _ _ _ h => h) (by rfl) hHeld ?_ ?_
                      rotate_left
                      · intro wZ hSw; clear hSw; go_simp; first | (with_reducible rfl) | (rw [if_pos (by omega)]; with_reducible rfl) | skip
                      try simp only [Act.put, List.setIfInBounds_toArray, List.set_cons_zero, List.set_cons_succ]
                      refine take_dstH (i := 5) (d := 147) (v := ?_) rfl rfl (by kernel_rfl) (by kernel_rfl) (by kernel_rfl) (fun _ _ _ h => h) (by rfl) hHeld ?_ ?_
                      rotate_left
                      · intro wZ hSw; clear hSw; go_simp; first | (with_reducible rfl) | (rw [if_pos (by omega)]; with_reducible rfl) | skip
                      try simp only [Act.put, List.setIfInBounds_toArray, List.set_cons_zero, List.set_cons_succ]
                      refine take_dstH (i := 6) (d := 148) (v := ?_) rfl rfl (by kernel_rfl) (by kernel_rfl) (by kernel_rfl) (fun _ _ _ h => h) (by rfl) hHeld ?_ ?_
                      rotate_left
                      · intro wZ hSw; clear hSw; go_simp; first | (with_reducible rfl) | (rw [if_pos (by omega)]; with_reducible rfl) | skip
                      try simp only [Act.put, List.setIfInBounds_toArray, List.set_cons_zero, List.set_cons_succ]
                      refine take_dstH (i := 7) (d := 149) (v := ?_) rfl rfl (by kernel_rfl) (by kernel_rfl) (by kernel_rfl) (fun _ _ _ h => h) (by rfl) hHeld ?_ ?_
                      rotate_left
                      · intro wZ hSw; clear hSw; go_simp; first | (with_reducible rfl) | (rw [if_pos (by omega)]; with_reducible rfl) | skip
                      try simp only [Act.put, List.setIfInBounds_toArray, List.set_cons_zero, List.set_cons_succ]
                      refine take_dstH (i := 8) (d := 150) (v := ?_) rfl rfl (by kernel_rfl) (by kernel_rfl) (by kernel_rfl) (fun _ _ _ h => h) (by rfl) hHeld ?_ ?_
                      rotate_left
                      · intro wZ hSw; clear hSw; go_simp; first | (with_reducible rfl) | (rw [if_pos (by omega)]; with_reducible rfl) | skip
                      try simp only [Act.put, List.setIfInBounds_toArray, List.set_cons_zero, List.set_cons_succ]
                      refine take_dstH (i := 9) (d := 151) (v := ?_) rfl rfl (by kernel_rfl) (by kernel_rfl) (by kernel_rfl) (fun _ _ _ h => h) (by rfl) hHeld ?_ ?_
                      rotate_left
                      · intro wZ hSw; clear hSw; go_simp; first | (with_reducible rfl) | (rw [if_pos (by omega)]; with_reducible rfl) | skip
                      try simp only [Act.put, List.setIfInBounds_toArray, List.set_cons_zero, List.set_cons_succ]
                      refine take_dstH (i := 10) (d := 152) (v := ?_) rfl rfl (by kernel_rfl) (by kernel_rfl) (by kernel_rfl) (fun _ _ _ h => h) (by rfl) hHeld ?_ ?_
                      rotate_left
                      · intro wZ hSw; clear hSw; go_simp; first | (with_reducible rfl) | (rw [if_pos (by omega)]; with_reducible rfl) | skip
                      try simp only [Act.put, List.setIfInBounds_toArray, List.set_cons_zero, List.set_cons_succ]
                      refine take_dstH (i := 11) (d := 153) (v := ?_) rfl rfl (by kernel_rfl) (by kernel_rfl) (by kernel_rfl) (fun _ _ _ h => h) (by rfl) hHeld ?_ ?_
                      rotate_left
                      · intro wZ hSw; clear hSw; go_simp; first | (with_reducible rfl) | (rw [if_pos (by omega)]; with_reducible rfl) | skip
                      try simp only [Act.put, List.setIfInBounds_toArray, List.set_cons_zero, List.set_cons_succ]
                      refine take_dstH (i := 12) (d := 154) (v := ?_) rfl rfl (by kernel_rfl) (by kernel_rfl) (by kernel_rfl) (fun _ _ _ h => h) (by rfl) hHeld ?_ ?_
                      rotate_left
                      · intro wZ hSw; clear hSw; go_simp; first | (with_reducible rfl) | (rw [if_pos (by omega)]; with_reducible rfl) | skip
                      try simp only [Act.put, List.setIfInBounds_toArray, List.set_cons_zero, List.set_cons_succ]
                      refine take_dstH (i := 13) (d := 155) (v := ?_) rfl rfl (by kernel_rfl) (by kernel_rfl) (by kernel_rfl) (fun _ _ _ h => h) (by rfl) hHeld ?_ ?_
                      rotate_left
                      · intro wZ hSw; clear hSw; go_simp; first | (with_reducible rfl) | (rw [if_pos (by omega)]; with_reducible rfl) | skip
                      try simp only [Act.put, List.setIfInBounds_toArray, List.set_cons_zero, List.set_cons_succ]
                      refine take_dstH (i := 14) (d := 156) (v := ?_) rfl rfl (by kernel_rfl) (by kernel_rfl) (by kernel_rfl) (fun _ _ _ h => h) (by rfl) hHeld ?_ ?_
                      rotate_left
                      · intro wZ hSw; clear hSw; go_simp; first | (with_reducible rfl) | (rw [if_pos (by omega)]; with_reducible rfl) | skip
                      try simp only [Act.put, List.setIfInBounds_toArray, List.set_cons_zero, List.set_cons_succ]
                      refine take_dstH (i := 17) (d := 159) (v := ?_) rfl rfl (by kernel_rfl) (by kernel_rfl) (by kernel_rfl) (fun _ _ _ h => h) (by rfl) hHeld ?_ ?_
                      rotate_left
                      · intro wZ hSw; refine exec_load_row 35 (.tmp 15) ?_ O ?_ 35 _ (0, 0) _ (KO2.out wZ hSw) Tryd.underlying35 rfl ID.out <;> rfl
                      try simp only [Act.put, List.setIfInBounds_toArray, List.set_cons_zero, List.set_cons_succ]
                      refine wpAnyH_ready (rs := [15]) (by kernel_rfl) (by simp) ?_
                      refine (AllReadyH.cons rfl (fun K hK => ?_) AllReadyH.nil)
                      go_simp
                      refine hK.out _ _ ?_ (fun hHeld => ?_)
                      · exact (Hid.out hHeld).alloc (Hid.out hHeld).size _
                      clear hK K
                      try simp only [Act.put, List.setIfInBounds_toArray, List.set_cons_zero, List.set_cons_succ]
                      refine wpAnyH_ready (rs := [16]) (by kernel_rfl) (by simp) ?_
                      refine (AllReadyH.cons rfl (fun K hK => ?_) AllReadyH.nil)
                      go_simp
                      refine (HW3.out wa (KT.out _ HBa)).mono ?_; rintro e wb ⟨rfl, hbb⟩; have HBb : Hid (Below wc.heap.size wc wb) := (Hid.out HBa).trans (hbb.mono (Hid.out HBa).size); clear hbb
                      go_wp2_with fail
                      refine hK.out _ _ ?_ (fun hHeld => ?_)
                      · exact HBb
                      clear hK K
                      try simp only [Act.put, List.setIfInBounds_toArray, List.set_cons_zero, List.set_cons_succ]
                      refine take_dstH (i := 18) (d := 160) (v := ?_) rfl rfl (by kernel_rfl) (by kernel_rfl) (by kernel_rfl) (fun _ _ _ h => h) (by rfl) hHeld ?_ ?_
                      rotate_left
                      · intro wZ hSw; refine exec_eql_agg 35 35 (.tmp 158) (.tmp 159) ?_ (u8s D).toArray (u8s D).toArray ?_ ?_ true (guard35 _ _ _ _ _) (HE.out wZ) <;> rfl
                      try simp only [Act.put, List.setIfInBounds_toArray, List.set_cons_zero, List.set_cons_succ]
                      refine take_dstH (i := 19) (d := 161) (v := ?_) rfl rfl (by kernel_rfl) (by kernel_rfl) (by kernel_rfl) (fun _ _ _ h => h) (by rfl) hHeld ?_ ?_
                      rotate_left
                      · intro wZ hSw; clear hSw; go_simp; first | (with_reducible rfl) | (rw [if_pos (by omega)]; with_reducible rfl) | skip
                      try simp only [Act.put, List.setIfInBounds_toArray, List.set_cons_zero, List.set_cons_succ]
                      refine take_dstH (i := 20) (d := 162) (v := ?_) rfl rfl (by kernel_rfl) (by kernel_rfl) (by kernel_rfl) (fun _ _ _ h => h) (by rfl) hHeld ?_ ?_
                      rotate_left
                      · intro wZ hSw; clear hSw; go_simp; first | (with_reducible rfl) | (rw [if_pos (by omega)]; with_reducible rfl) | skip
                      try simp only [Act.put, List.setIfInBounds_toArray, List.set_cons_zero, List.set_cons_succ]
                      refine take_dstH (i := 21) (d := 163) (v := ?_) rfl rfl (by kernel_rfl) (by kernel_rfl) (by kernel_rfl) (fun _ _ _ h => h) (by rfl) hHeld ?_ ?_
                      rotate_left
                      · intro wZ hSw; clear hSw; go_simp; first | (with_reducible rfl) | (rw [if_pos (by omega)]; with_reducible rfl) | skip
                      try simp only [Act.put, List.setIfInBounds_toArray, List.set_cons_zero, List.set_cons_succ]
                      refine take_dstH (i := 23) (d := 165) (v := ?_) rfl rfl (by kernel_rfl) (by kernel_rfl) (by kernel_rfl) (fun _ _ _ h => h) (by rfl) hHeld ?_ ?_
                      rotate_left
                      · intro wZ hSw; clear hSw; go_simp; first | (with_reducible rfl) | (rw [if_pos (by omega)]; with_reducible rfl) | skip
                      try simp only [Act.put, List.setIfInBounds_toArray, List.set_cons_zero, List.set_cons_succ]
                      refine take_dstH (i := 24) (d := 166) (v := ?_) rfl rfl (by kernel_rfl) (by kernel_rfl) (by kernel_rfl) (fun _ _ _ h => h) (by rfl) hHeld ?_ ?_
                      rotate_left
                      · intro wZ hSw; clear hSw; go_simp; first | (with_reducible rfl) | (rw [if_pos (by omega)]; with_reducible rfl) | skip
                      try simp only [Act.put, List.setIfInBounds_toArray, List.set_cons_zero, List.set_cons_succ]
                      refine wpAnyH_ready (rs := [22]) (by kernel_rfl) (by simp) ?_
                      refine (AllReadyH.cons rfl (fun K hK => ?_) AllReadyH.nil)
                      go_simp
                      refine (HCL.out _ (KM2.out _ hHeld)).mono ?_; rintro e wd ⟨rfl, hwd⟩; have HBd : Hid (Below wc.heap.size wc wd) := (by rw [hwd]; exact hHeld); clear hwd
                      go_wp2_with fail
                      refine hK.out _ _ ?_ (fun hHeld => ?_)
                      · exact HBd
                      clear hK K
                      try simp only [Act.put, List.setIfInBounds_toArray, List.set_cons_zero, List.set_cons_succ]
                      refine take_dstH (i := 25) (d := 167) (v := ?_) rfl rfl (by kernel_rfl) (by kernel_rfl) (by kernel_rfl) (fun _ _ _ h => h) (by rfl) hHeld ?_ ?_
                      rotate_left
                      · intro wZ hSw; clear hSw; go_simp; first | (with_reducible rfl) | (rw [if_pos (by omega)]; with_reducible rfl) | skip
                      try simp only [Act.put, List.setIfInBounds_toArray, List.set_cons_zero, List.set_cons_succ]
                      refine take_dstH (i := 26) (d := 168) (v := ?_) rfl rfl (by kernel_rfl) (by kernel_rfl) (by kernel_rfl) (fun _ _ _ h => h) (by rfl) hHeld ?_ ?_
                      rotate_left
                      · intro wZ hSw; clear hSw; go_simp; first | (with_reducible rfl) | (rw [if_pos (by omega)]; with_reducible rfl) | skip
                      try simp only [Act.put, List.setIfInBounds_toArray, List.set_cons_zero, List.set_cons_succ]
                      refine take_dstH (i := 27) (d := 6) (v := ?_) rfl rfl (by kernel_rfl) (by kernel_rfl) (by kernel_rfl) (fun _ _ _ h => h) (by rfl) hHeld ?_ ?_
                      rotate_left
                      · intro wZ hSw; clear hSw; go_simp; first | (with_reducible rfl) | (rw [if_pos (by omega)]; with_reducible rfl) | skip
                      try simp only [Act.put, List.setIfInBounds_toArray, List.set_cons_zero, List.set_cons_succ]
                      refine wpAnyH_done (by kernel_rfl) ?_ _
                      all_goals
                        go_wp2
                        go_ret
                        exact ⟨rfl, KT.out _ HBd⟩

set_option maxHeartbeats 4000000 in
set_option maxRecDepth 100000 in
/-- outside the bounds nothing is asked -/
theorem walk_out (p : Option Addr) (c n : Nat) (a d : Int) (W : World) (hL : Laid W) (h : ¬ (n ≤ 2000 ∧ 0 ≤ a ∧ a ≤ d ∧ d ≤ n)) :
    Calls Tryd.prog 8 #[.slice p n c, .int .i64 a, .int .i64 d] W fun e W' => e = .returned (.bool true) ∧ Below W.heap.size W W' := by
  have HL := hide hL
  clear hL
  have h' : 2000 < n ∨ (¬ 2000 < n ∧ a < 0) ∨ (¬ 2000 < n ∧ ¬ a < 0 ∧ (n : Int) < a) ∨ (¬ 2000 < n ∧ ¬ a < 0 ∧ ¬ (n : Int) < a ∧ d < a) ∨ (¬ 2000 < n ∧ ¬ a < 0 ∧ ¬ (n : Int) < a ∧ ¬ d < a ∧ (n : Int) < d) := by omega
  clear h
  go_enter Tryd.func8, Tryd.ntmps8
  go_wp2_with fail
  refine (known_any _ HL.out).mono ?_
  rintro e w1 ⟨rfl, hb1⟩
  have B1 := hide hb1
  clear hb1
  rcases h' with h1 | ⟨h1, h2⟩ | ⟨h1, h2, h3⟩ | ⟨h1, h2, h3, h4⟩ | ⟨h1, h2, h3, h4, h5⟩
  · have g1 : (2000 : Int) < (n : Int) := by omega
    go_wp2
    go_ret
    exact ⟨rfl, B1.out⟩
  · have g1 : ¬ (2000 : Int) < (n : Int) := by omega
    go_wp2
    go_ret
    exact ⟨rfl, B1.out⟩
  · have g1 : ¬ (2000 : Int) < (n : Int) := by omega
    go_wp2
    go_ret
    exact ⟨rfl, B1.out⟩
  · have g1 : ¬ (2000 : Int) < (n : Int) := by omega
    go_wp2
    go_ret
    exact ⟨rfl, B1.out⟩
  · have g1 : ¬ (2000 : Int) < (n : Int) := by omega
    go_wp2
    go_ret
    exact ⟨rfl, B1.out⟩

theorem walk (p : Option Addr) (c : Nat) (xs : List Nat) (a d : Int) (W : World) (hP : Piece W p c xs) (_ha : (Lit.int .i64 a).wf = true) (_hd : (Lit.int .i64 d).wf = true) (hL : Laid W) :
    Calls Tryd.prog 8 #[.slice p xs.length c, .int .i64 a, .int .i64 d] W fun e W' => e = .returned (.bool true) ∧ Below W.heap.size W W' := by
  by_cases h : xs.length ≤ 2000 ∧ 0 ≤ a ∧ a ≤ d ∧ d ≤ xs.length
  · obtain ⟨na, rfl⟩ := Int.eq_ofNat_of_zero_le h.2.1
    obtain ⟨nd, rfl⟩ := Int.eq_ofNat_of_zero_le (Int.le_trans h.2.1 h.2.2.1)
    exact walk_in p c xs na nd W hP hL h.1 (by have := h.2.2.1; omega) (by have := h.2.2.2; omega)
  · exact walk_out p c xs.length a d W hL h

set_option maxRecDepth 100000 in
theorem lifted (os : Os) (started : os.Started) (H : Type) (enc : TypeId × Value → H) :
    ReturnsInHanded {} Tryd.checked os 8 .any (fun w args => (Rows.shaPiecesSpec.pre enc Tryd.prog Tryd.f8 [] false w args ∧ laidMetH Tryd.prog laid2 w) ∧ sizedMet enc Tryd.prog Tryd.f8 (OpenSpec.ofChange Rows.shaPiecesSpec) false w args)
      (Rows.shaPiecesSpec.post enc Tryd.prog Tryd.f8 false true false false) := by
  refine returnsInHanded_of_change_and (C := Tryd.checked) (X := fun w _ => laidMetH Tryd.prog laid2 w) (fun _ _ _ hh h => h.of_heap hh) own started (by kernel_rfl) Tryd.func8
    (ChangeSpec.witness_shaped (enc := enc) (C := Tryd.checked) (os := os) (X := fun w _ => laidMetH Tryd.prog laid2 w) false (World.doorLaid Tryd.prog 400 os) #[.slice none 0 0, .int .i64 0, .int .i64 0] 8 rfl (World.shaped_of_RefB (by kernel_rfl) (by kernel_rfl)) (by kernel_rfl) (by kernel_rfl) (by kernel_rfl) (door_met os _)) ?_
  intro W base args ds gs before hval0 hW _ _ hL _
  have hval : ∀ (j : Nat) t v, Tryd.f8.params[j]? = some t → args[j]? = some v → Value.okWide Tryd.prog W .any base t v := hval0
  have hW' := hW
  obtain ⟨p, q, hA0, hV, rfl, hfz, hnd⟩ := hW
  have hA : DataW.TrodAll enc Tryd.prog W 0 (fun _ => true) true Tryd.f8.params.toList args.toList ds p := hA0
  rw [Tryd.params8] at hA hval
  obtain ⟨v0, vs0, d0, ds0, p0, q0, hargs, rfl, rfl, h0, r0⟩ := trodAll_cons hA
  obtain ⟨v1, vs1, d1, ds1, p1, q1, rfl, rfl, rfl, h1, r1⟩ := trodAll_cons r0
  obtain ⟨v2, vs2, d2, ds2, p2, q2, rfl, rfl, rfl, h2, r2⟩ := trodAll_cons r1
  obtain ⟨rfl, rfl, rfl⟩ := trodAll_nil r2
  obtain rfl : args = #[v0, v1, v2] := by cases args; simp_all
  obtain ⟨rfl, rfl⟩ := trodVars_none hV
  obtain ⟨a0, len0, cap0, rfl⟩ := okWide_slice Tryd.underlying30 (hval 0 30 v0 rfl rfl)
  have k0 := h0
  have lt0 : ∀ x ∈ p0, x.block < W.heap.size := by obtain ⟨m, hm⟩ := k0; exact DataW.trod_lt m _ _ _ hm
  obtain ⟨fuel0, hf0⟩ := h0
  obtain ⟨a0', cap0', x0, hcs0, w0⟩ := piece_of hf0
  simp [Value.cells] at hcs0
  obtain ⟨rfl, rfl, rfl⟩ := hcs0
  clear hf0
  obtain ⟨a1, rfl, rfl, rfl, w1⟩ := open_int Tryd.underlying3 (hval 1 3 v1 rfl rfl) h1
  obtain ⟨a2, rfl, rfl, rfl, w2⟩ := open_int Tryd.underlying3 (hval 2 3 v2 rfl rfl) h2
  clear hA0 hval0
  refine (walk a0 cap0 x0 a1 a2 W w0 w1 w2 (of_laid hL)).mono fun e W' ⟨he, bel⟩ => ?_
  subst he
  exact ⟨_, rfl, _, _, _, [], _, [], hW', trodAll_mk1 (shut_bool Tryd.underlying4 _), (trodAll_cons_mk (Below.trod laidOut (by kernel_rfl) (of_decide_eq_true (by kernel_rfl)) k0 bel lt0) (trodAll_cons_mk (shut_int Tryd.underlying3 w1) (trodAll_cons_mk (shut_int Tryd.underlying3 w2) trodAll_mk0))), rfl, bel.frame _, fun h => by cases h⟩

theorem row : Rows.ShaPiecesSaid :=
  OpenClaim.holds_of_wide 8 Tryd.f8 rfl rfl rfl rfl rfl rfl rfl ⟨rfl, rfl, rfl, rfl, rfl⟩ rfl rfl rfl rfl rfl (by kernel_rfl) Tryd.func8 (by kernel_rfl)
    (of_decide_eq_true (by kernel_rfl)) (by unfold Func.isWrapper; first | (rw [if_pos (by decide +kernel)]; kernel_rfl) | (rw [if_neg (by decide +kernel)]; exact ⟨rfl, rfl⟩))
    (fun os started H enc _ => lifted os started H enc)

theorem card : Rows.ShaPiecesCardSaid :=
  Claim7.holds_tied_plain_at .later [] [.data, .data] true (true, Rows.shaPiecesCard.stood.harness.2) false
    row (fun _ h => by cases h) (by kernel_rfl) (fun _ h => by cases h) shaPieces_row_tie rfl ⟨rfl, rfl⟩ (by kernel_rfl) rfl
    (fun f fn hf hfn => by
      obtain rfl : f = 8 := Option.some.inj ((show Tryd.prog.funcNamed "oriel/oriellaw02.ShaPieces" = some 8 by kernel_rfl).symm.trans hf) |>.symm
      obtain rfl : fn = Tryd.f8 := (Option.some.inj (Tryd.func8.symm.trans hfn)).symm
      exact ⟨by kernel_rfl, fun j t ht => by
        rw [Tryd.params8] at ht
        have hm : t ∈ [30, 3, 3] := by simpa using Array.mem_of_getElem? ht
        have hall : ([30, 3, 3].all fun u => !Tryd.prog.wantsStandIn u) = true := by kernel_rfl
        exact (show Tryd.prog.wantsStandIn t = false by simpa using List.all_eq_true.1 hall t hm)⟩)
    (by kernel_rfl)

end ShaPiecesProof

theorem shaPieces_holds : Rows.ShaPiecesCardSaid := ShaPiecesProof.card
#print axioms shaPieces_holds

end Go.Proofs.YtfopjobcjafgaaaDoor
