/-
  SealBack (the stage's theorem), the tied card: what was sealed is opened again, nonce and text; with its tag changed anywhere nothing of it is told (of nonces of 2 to the power 63 and more, of texts of more than 1200 bytes nothing is asked but the known rows); no condition but the two tables, which the card ties to the program's text.
-/
import Derived.Test.YtjiipiolckddnaaDoorJU
import Derived.Test.YtjiipiolckddnaaDoorJT
import Derived.Test.YtjiipiolckddnaaDoorJR
import Derived.Test.YtjiipiolckddnaaDoorJP
namespace Go.Proofs.YtjiipiolckddnaaDoor
namespace SealBackProof
open Go.ChangeShapes Go.WideShapes Go.ChangeAt Go.WideMaps Go.WideElems Go.RowKit

set_option maxHeartbeats 4000000 in
set_option maxRecDepth 100000 in
theorem walk_out (code mark : List Nat) (d : Bool) (m : Nat) (p : Option Addr) (c n : Nat) (a y : Int) (W : World) (h : ¬ m < 9223372036854775808 ∨ 1200 < n)
    (hK : ∀ v, Below W.heap.size W v → Calls Tryd.prog 13 #[] v fun e w' => e = .returned (.bool true) ∧ Below v.heap.size v w') :
    Calls Tryd.prog 7 #[keyV code mark, noV d m, .slice p n c, .int .i64 a, .int .u8 y] W fun r w' => r = .returned (.bool true) ∧ Below W.heap.size W w' := by
  have HK := hide hK
  have two : (9223372036854775808 : Int) ≤ (m : Int) ∨ (decide ((9223372036854775808 : Int) ≤ (m : Int)) = false ∧ (1200 : Int) < (n : Int)) := by
    by_cases hm : (9223372036854775808 : Int) ≤ (m : Int)
    · exact Or.inl hm
    · refine Or.inr ⟨by simpa using hm, ?_⟩
      rcases h with h | h <;> omega
  have A1 := hide (boxes W (kCells code mark) (noC d m) 34 24)
  clear hK h
  rcases two with h1 | ⟨h1, h2⟩
  all_goals
    go_enter Tryd.func7, Tryd.ntmps7
    go_upto_region 1 with fail
    generalize (W.alloc (Obj.cells (kCells code mark).toArray 34)).alloc (Obj.cells #[Value.bool d, Value.int IntKind.u64 ↑m] 24) = w1 at *
    go_wp2_with fail
    refine (HK.out w1 A1.out.2.2).mono ?_
    rintro r w2 ⟨rfl, hb⟩
    have A2 : Hid (Arr w2 (W.heap.size + 1) 24 (noC d m) ∧ Below W.heap.size W w2) := ⟨A1.out.2.1.kept hb, A1.out.2.2.trans (hb.mono A1.out.2.2.size)⟩
    clear hb A1 HK
    have c1 := A2.out.1.cell 1
    simp only [List.getElem?_cons_zero, List.getElem?_cons_succ] at c1
    go_wp2
    go_ret
    exact ⟨rfl, A2.out.2⟩

/-- what lies in memory ahead of the change -/
structure M1 (W : World) (code mark : List Nat) (d : Bool) (m : Nat) (q : Option Addr) (cq : Nat) (PA : List Nat) (g : Nat) (v : World) : Prop where
  k : Arr v W.heap.size 34 (kCells code mark)
  n : Arr v (W.heap.size + 1) 24 (noC d m)
  b : Piece v q cq PA
  o : Arr v g 24 (noC d m)
  l : Below W.heap.size W v

set_option maxHeartbeats 8000000 in
set_option maxRecDepth 100000 in
theorem walk_of (code mark : List Nat) (d : Bool) (m : Nat) (p : Option Addr) (c n N : Nat) (a y : Int) (text PA : List Nat) (W : World) (hk : IsKey code mark) (hm : m < 9223372036854775808) (hP : Piece W p c text) (hn : text.length = n) (hN : N = n + 24) (hPl : PA.length = N) (hPb : BytesN PA) (hn2 : n ≤ 1200)
    (hK : ∀ v, Below W.heap.size W v → Calls Tryd.prog 13 #[] v fun e w' => e = .returned (.bool true) ∧ Below v.heap.size v w')
    (hS : ∀ v, Below W.heap.size W v → Calls Tryd.prog 14 #[keyV code mark, noV d m, .slice p n c] v fun r w' => ∃ q cq, r = .returned (.tuple #[.slice q N cq, .int .i64 0]) ∧ Piece w' q cq PA ∧ Below v.heap.size v w')
    (hO : ∀ v q cq, Below W.heap.size W v → Piece v q cq PA → Calls Tryd.prog 16 #[keyV code mark, .slice q N cq] v fun r w' => ∃ q' cq', r = .returned (.tuple #[noV d m, .slice q' n cq', .int .i64 0]) ∧ Piece w' q' cq' text ∧ Below v.heap.size v w')
    (hB : ∀ (i y' : Nat) (v : World) (q : Option Addr) (cq : Nat), n + 8 ≤ i → i < n + 24 → y' ≠ 0 → y' < 256 → Below W.heap.size W v → Piece v q cq (chF1 PA i y') → Calls Tryd.prog 16 #[keyV code mark, .slice q N cq] v fun r w' => r = .returned (.tuple #[noV false 0, .slice none 0 0, .int .i64 60]) ∧ Below v.heap.size v w')
    (hPk : ∀ (i y' : Nat) (v : World) (q : Option Addr) (cq : Nat), n + 8 ≤ i → i < n + 24 → y' < 256 → Below W.heap.size W v → Piece v q cq (chF1 PA i y') → Calls Tryd.prog 18 #[.slice q N cq] v fun r w' => r = .returned (.tuple #[noV d m, .int .i64 0]) ∧ Below v.heap.size v w')
    (wy : (Lit.int .u8 y).wf = true) :
    Calls Tryd.prog 7 #[keyV code mark, noV d m, .slice p n c, .int .i64 a, .int .u8 y] W fun r w' => r = .returned (.bool true) ∧ Below W.heap.size W w' := by
  have HK := hide hK
  have HS := hide hS
  have HO := hide hO
  have HB := hide hB
  have HPK := hide hPk
  have HP := hide hP
  have HN := hide hn
  have HPL := hide hPl
  have HPB := hide hPb
  have IK := hide hk.info
  have HNN := hide hN
  have E1 := hide (fun v : World => eq_no_true d m v)
  have hn' : ¬ (1200 : Int) < (n : Int) := by omega
  have hm' : decide ((9223372036854775808 : Int) ≤ (m : Int)) = false := by simp; omega
  have hNn : (n : Int) + 24 = (N : Int) := by omega
  have A1 := hide (boxes W (kCells code mark) (noC d m) 34 24)
  clear hK hS hO hB hPk hP hPl hPb hk hm
  go_enter Tryd.func7, Tryd.ntmps7
  go_upto_region 1 with fail
  generalize (W.alloc (Obj.cells (kCells code mark).toArray 34)).alloc (Obj.cells #[Value.bool d, Value.int IntKind.u64 ↑m] 24) = w1 at *
  go_wp2_with fail
  refine (HK.out w1 A1.out.2.2).mono ?_
  rintro r w2 ⟨rfl, hb⟩
  have A2 : Hid (Arr w2 W.heap.size 34 (kCells code mark) ∧ Arr w2 (W.heap.size + 1) 24 (noC d m) ∧ Below W.heap.size W w2) := ⟨A1.out.1.kept hb, A1.out.2.1.kept hb, A1.out.2.2.trans (hb.mono A1.out.2.2.size)⟩
  clear hb A1 HK
  have c1 := A2.out.2.1.cell 1
  simp only [List.getElem?_cons_zero, List.getElem?_cons_succ] at c1
  clear hn hN
  go_wp2_with (first
    | (refine wpList_load_row rfl 34 _ rfl W.heap.size rfl 34 _ (0, 0) _ A2.out.1 Tryd.underlying34 rfl IK.out ?_)
    | (refine wpList_load_row rfl 24 _ rfl (W.heap.size + 1) rfl 24 _ (0, 0) _ A2.out.2.1 Tryd.underlying24 rfl infoN ?_))
  refine (HS.out w2 A2.out.2.2).mono ?_
  rintro r w3 ⟨q, cq, rfl, hp, hb⟩
  have A3 : Hid (Arr w3 W.heap.size 34 (kCells code mark) ∧ Arr w3 (W.heap.size + 1) 24 (noC d m) ∧ Piece w3 q cq PA ∧ Below W.heap.size W w3) := ⟨A2.out.1.kept hb, A2.out.2.1.kept hb, hp, A2.out.2.2.trans (hb.mono A2.out.2.2.size)⟩
  clear hp hb A2 HS c1
  go_wp2_with (refine wpList_load_row rfl 34 _ rfl W.heap.size rfl 34 _ (0, 0) _ A3.out.1 Tryd.underlying34 rfl IK.out ?_)
  refine (HO.out w3 q cq A3.out.2.2.2 A3.out.2.2.1).mono ?_
  rintro r w4 ⟨q1, c1, rfl, hp, hb⟩
  have A4 : Hid (M1 W code mark d m q cq PA w4.heap.size (w4.alloc (Obj.cells #[Value.bool d, Value.int .u64 (m : Int)] 24)) ∧ Piece (w4.alloc (Obj.cells #[Value.bool d, Value.int .u64 (m : Int)] 24)) q1 c1 text) :=
    ⟨⟨(A3.out.1.kept hb).alloc _, (A3.out.2.1.kept hb).alloc _, (A3.out.2.2.1.kept hb).kept ((Below.refl _ _).alloc (Nat.le_refl _) _), Arr.new w4 _ _, (A3.out.2.2.2.trans (hb.mono A3.out.2.2.2.size)).alloc (Nat.le_trans A3.out.2.2.2.size hb.size) _⟩, hp.kept ((Below.refl _ _).alloc (Nat.le_refl _) _)⟩
  have HLT4 : W.heap.size + 1 < w4.heap.size := (A3.out.2.1.kept hb).lt
  clear hp hb A3 HO
  have HG4 : Hid (W.heap.size + 1 ≠ w4.heap.size) := by show _ ≠ _; have h1 := HLT4; omega
  have HG5 : Hid (W.heap.size ≤ w4.heap.size) := by show _ ≤ _; have h1 := HLT4; omega
  clear HLT4
  go_upto_region 7 with fail
  generalize w4.alloc (Obj.cells #[Value.bool d, Value.int .u64 (m : Int)] 24) = w5 at *
  generalize w4.heap.size = g at *
  have cv1 := conv_any A4.out.2.1 (c := c1) n HN.out
  have cv2 := conv_any (HP.out.kept A4.out.1.l).1 (c := c) n HN.out
  go_upto_region 9 with (first
    | (refine wpList_exec (by rfl) _ (exec_load_all 24 (.tmp 13) rfl g rfl 24 (noC d m) _ A4.out.1.o Tryd.underlying24 rfl infoN) ?_)
    | (refine wpList_exec (by rfl) _ (exec_load_all 24 (.tmp 6) rfl (W.heap.size + 1) rfl 24 (noC d m) _ A4.out.1.n Tryd.underlying24 rfl infoN) ?_)
    | (refine wpList_exec (by rfl) _ (exec_neq_agg 24 24 (.tmp 50) (.tmp 51) rfl #[Value.bool d, Value.int .u64 (m : Int)] #[Value.bool d, Value.int .u64 (m : Int)] rfl rfl true (guardNn _ _ _ _ _) (E1.out _)) ?_))
  clear cv1 cv2 hn' hm' hNn
  have four : (a < 0) ∨ (decide (a < 0) = false ∧ 15 < a) ∨ (decide (a < 0) = false ∧ decide (15 < a) = false ∧ y = 0) ∨ (∃ j y' : Nat, a = j ∧ y = y' ∧ j ≤ 15 ∧ y' ≠ 0 ∧ y' < 256) := by
    obtain ⟨y', rfl, hy⟩ := wf_byte wy
    by_cases h1 : a < 0
    · exact Or.inl h1
    · by_cases h2 : 15 < a
      · exact Or.inr (Or.inl ⟨by simpa using h1, h2⟩)
      · by_cases h3 : y' = 0
        · exact Or.inr (Or.inr (Or.inl ⟨by simpa using h1, by simpa using h2, by omega⟩))
        · exact Or.inr (Or.inr (Or.inr ⟨a.toNat, y', by omega, rfl, by omega, h3, hy⟩))
  clear wy
  have BL := hide A4.out.1.l
  rcases four with h | ⟨h1, h2⟩ | ⟨h1, h2, rfl⟩ | ⟨j, y', rfl, rfl, hj, hy0, hy8⟩
  · go_wp2
    go_ret
    exact ⟨rfl, BL.out⟩
  · go_wp2
    go_ret
    exact ⟨rfl, BL.out⟩
  · go_wp2
    go_ret
    exact ⟨rfl, BL.out⟩
  · have d1 : decide ((j : Int) < 0) = false := by simp
    have d2 : decide ((15 : Int) < (j : Int)) = false := by simp; omega
    have d3 : decide ((y' : Int) = 0) = false := by simp; omega
    have d4 : ((y' : Int) == 0) = false := by simp; omega
    obtain ⟨i, hi⟩ : ∃ i : Nat, i = N - 1 - j := ⟨_, rfl⟩
    have hnn := HNN.out
    have i1 : n + 8 ≤ i := by omega
    have i2 : i < n + 24 := by omega
    have i3 : i < N := by omega
    have e1 : (N : Int) - 1 - (j : Int) = (i : Int) := by omega
    have HPC := hide (chF1_length PA i y')
    have HPLN := hide HPL.out
    have HGN0 : W.heap.size + 1 ≠ g := HG4.out
    have HGW0 : W.heap.size ≤ g := HG5.out
    have HPCB := hide (chF1_bytes HPB.out i hy8)
    have HBB := hide (fun (v : World) (q : Option Addr) (cq : Nat) => HB.out i y' v q cq i1 i2 hy0 hy8)
    have HPP := hide (fun (v : World) (q : Option Addr) (cq : Nat) => HPK.out i y' v q cq i1 i2 hy8)
    have eu := u8_xor_nat (PA.getD i 0) y' (getD_byte HPB.out i) hy8
    have HCF : Hid (chF1 PA i y' = PA.set i (PA.getD i 0 ^^^ y')) := rfl
    have HX : Hid (∃ x, PA.getD i 0 = x) := ⟨_, rfl⟩
    generalize hx : PA.getD i 0 = x at *
    have HXE := hide hx
    clear hx HX
    generalize x ^^^ y' = xy at *
    have hNs : N ≤ 1300 := by omega
    clear hi hnn i1 i2 HB HPK HNN hy0
    go_upto_region 11 with fail
    clear d1 d2 d3 d4
    go_upto_region 12 with (at_builtin; refine wpList_append_bytes rfl (.tmp 79) (.tmp 80) rfl w5.heap.size _ [] rfl 0 rfl (World.ownsRow_made w5 #[] 0 (Nat.le_refl _) (Nat.zero_le _) rfl) q N cq PA HPL.out rfl (A4.out.1.b.1.kept ((Below.refl _ _).alloc (Nat.le_refl _) _)) A4.out.1.b.2.1 (by omega) (by simp) ?_; intro v6 w6 hown hgrow; have B6 : Hid (Below w5.heap.size w5 w6) := ((Below.refl _ w5).alloc (Nat.le_refl _) _).trans (grown_below hgrow (by simp) (by intro k hk; have h : some w5.heap.size = some k := hk; cases h; exact Nat.le_refl _)); have O6 : Hid (w6.ownsRow w5.heap.size 5 1 v6 N (u8s PA)) := (show World.ownsRow _ _ _ _ _ _ _ by simpa using hown); obtain ⟨gc, cap, rfl, hgc, _, hcap, hcm⟩ := own_shape O6.out (by omega); unfold maxLen at hcm; clear hown hgrow)
    have ci := (O6.out.cellAt i (by omega)).trans (u8s_at (by rw [HPL.out]; exact i3))
    rw [HXE.out] at ci
    have fi := O6.out.frozenAt i
    have hst := (O6.out.stored i (.int .u8 ((xy : Nat) : Int)))
    rw [u8s_set, ← HCF.out] at hst
    have O7 := hide hst.1
    have B7 : Hid (Below w5.heap.size w5 (w6.setCell ⟨gc, i, none⟩ (.int .u8 ((xy : Nat) : Int)))) := B6.out.setCell hgc _
    clear hst O6
    go_upto_region 13 with fail
    clear ci fi e1 i3 hNs eu HCF HXE HPB HPL
    generalize w6.setCell ⟨gc, i, none⟩ (.int .u8 ((xy : Nat) : Int)) = w7 at *
    generalize chF1 PA i y' = PC at *
    have PL : Hid (PC.length = N) := by have h := HPC.out; have h2 := HPLN.out; show _ = _; omega
    have A7 : Hid (Arr w7 W.heap.size 34 (kCells code mark) ∧ Arr w7 (W.heap.size + 1) 24 (noC d m) ∧ Arr w7 g 24 (noC d m) ∧ Below W.heap.size W w7) := ⟨A4.out.1.k.kept B7.out, A4.out.1.n.kept B7.out, A4.out.1.o.kept B7.out, A4.out.1.l.trans (B7.out.mono A4.out.1.l.size)⟩
    have O7' : Hid (w7.ownsRow W.heap.size 5 1 (.slice (some ⟨gc, 0, none⟩) N cap) N (u8s PC)) := own_base O7.out BL.out.size
    obtain ⟨pc, cc, hpv, hpc, _⟩ := own_piece_n O7'.out PL.out HPCB.out
    cases hpv
    have P7 := hide hpc
    clear hpc A4 B6 B7 O7 BL
    go_wp2_with (refine wpList_load_row rfl 34 _ rfl W.heap.size rfl 34 _ (0, 0) _ A7.out.1 Tryd.underlying34 rfl IK.out ?_)
    refine (HBB.out w7 _ _ A7.out.2.2.2 P7.out).mono ?_
    rintro r w8 ⟨rfl, hb⟩
    have A8 : Hid (Arr w8 (W.heap.size + 1) 24 (noC d m) ∧ Arr w8 g 24 (noC d m) ∧ Below W.heap.size W w8) := ⟨A7.out.2.1.kept hb, A7.out.2.2.1.kept hb, A7.out.2.2.2.trans (hb.mono A7.out.2.2.2.size)⟩
    have O8 := hide (own_below O7'.out hb)
    have HGN : Hid (W.heap.size + 1 ≠ g) := HGN0
    have HGW : Hid (W.heap.size ≤ g) := HGW0
    clear hb A7 O7' P7 HBB
    go_upto_region 14 with (refine wpList_store_row rfl 24 _ _ rfl g (noC false 0).toArray rfl rfl 24 (noC d m).toArray A8.out.2.1 infoN rfl (one_noC _ _) ?_)
    have A9 : Hid (Arr (w8.setRow g (noC false 0).toArray) (W.heap.size + 1) 24 (noC d m) ∧ Arr (w8.setRow g (noC false 0).toArray) g 24 (noC false 0) ∧ Below W.heap.size W (w8.setRow g (noC false 0).toArray)) := ⟨A8.out.1.rowOther _ _ HGN.out, A8.out.2.1.row _, below_setRow A8.out.2.2 HGW.out A8.out.2.1.lt _⟩
    have O9 : Hid ((w8.setRow g (noC false 0).toArray).ownsRow W.heap.size 5 1 (.slice (some ⟨gc, 0, none⟩) N cap) N (u8s PC)) := O8.out.kept (grown_row w8 g _) (.inr (own_ne_arr O8.out A8.out.2.1 (by decide)))
    generalize w8.setRow g (noC false 0).toArray = w9 at *
    clear O8 A8 HGW
    obtain ⟨pc2, cc2, hpv, hpc, _⟩ := own_piece_n O9.out PL.out HPCB.out
    cases hpv
    have P9 := hide hpc
    clear hpc
    go_wp2_with fail
    refine (HPP.out w9 _ _ A9.out.2.2 P9.out).mono ?_
    rintro r w10 ⟨rfl, hb⟩
    have A10 : Hid (Arr (w10.alloc (Obj.cells #[Value.bool d, Value.int .u64 (m : Int)] 24)) (W.heap.size + 1) 24 (noC d m) ∧ Arr (w10.alloc (Obj.cells #[Value.bool d, Value.int .u64 (m : Int)] 24)) g 24 (noC false 0) ∧ Arr (w10.alloc (Obj.cells #[Value.bool d, Value.int .u64 (m : Int)] 24)) w10.heap.size 24 (noC d m) ∧ Below W.heap.size W (w10.alloc (Obj.cells #[Value.bool d, Value.int .u64 (m : Int)] 24))) :=
      ⟨(A9.out.1.kept hb).alloc _, (A9.out.2.1.kept hb).alloc _, Arr.new w10 _ _, (A9.out.2.2.trans (hb.mono A9.out.2.2.size)).alloc (Nat.le_trans A9.out.2.2.size hb.size) _⟩
    clear hb A9 O9 P9 HPP
    go_upto_region 15 with fail
    generalize w10.alloc (Obj.cells #[Value.bool d, Value.int .u64 (m : Int)] 24) = w11 at *
    generalize w10.heap.size = g2 at *
    have BE := hide A10.out.2.2.2
    have E0 := hide (fun v : World => eq_no_true false 0 v)
    go_wp2_with (first
      | (refine wpList_exec (by rfl) _ (exec_load_all 24 (.tmp 13) rfl g rfl 24 (noC false 0) _ A10.out.2.1 Tryd.underlying24 rfl infoN) ?_)
      | (refine wpList_exec (by rfl) _ (exec_eql_agg 24 24 (.tmp 108) (.tmp 109) rfl #[Value.bool false, Value.int .u64 0] #[Value.bool false, Value.int .u64 0] rfl rfl true (guardN _ _ _ _ _) (E0.out _)) ?_)
      | (refine wpList_exec (by rfl) _ (exec_load_all 24 (.tmp 17) rfl g2 rfl 24 (noC d m) _ A10.out.2.2.1 Tryd.underlying24 rfl infoN) ?_)
      | (refine wpList_exec (by rfl) _ (exec_load_all 24 (.tmp 6) rfl (W.heap.size + 1) rfl 24 (noC d m) _ A10.out.1 Tryd.underlying24 rfl infoN) ?_)
      | (refine wpList_exec (by rfl) _ (exec_eql_agg 24 24 (.tmp 118) (.tmp 119) rfl #[Value.bool d, Value.int .u64 (m : Int)] #[Value.bool d, Value.int .u64 (m : Int)] rfl rfl true (guardN _ _ _ _ _) (E1.out _)) ?_))
    go_ret
    exact ⟨rfl, BE.out⟩

theorem walk (code mark : List Nat) (d : Bool) (m : Nat) (p : Option Addr) (c : Nat) (text : List Nat) (a y : Int) (W : World) (hk : IsKey code mark) (_hm64 : m < 18446744073709551616) (hP : Piece W p c text) (_wa : (Lit.int .i64 a).wf = true) (wy : (Lit.int .u8 y).wf = true) (hL : Laid W) :
    Calls Tryd.prog 7 #[keyV code mark, noV d m, .slice p text.length c, .int .i64 a, .int .u8 y] W fun r w' => r = .returned (.bool true) ∧ Below W.heap.size W w' := by
  have hL2 := hL.size
  have hLB : ∀ v, Below W.heap.size W v → Laid v := fun v hb => hL.keptB (B := W.heap.size) hL2 hb
  have hK : ∀ v, Below W.heap.size W v → Calls Tryd.prog 13 #[] v fun e w' => e = .returned (.bool true) ∧ Below v.heap.size v w' := fun v hb => known_any v (hLB v hb)
  by_cases hm : m < 9223372036854775808
  · by_cases hn : 1200 < text.length
    · exact walk_out code mark d m p c text.length a y W (Or.inr hn) hK
    · have hU := paF_length code mark (wdF d m) text
      have hUb := paF_bytes hk.c mark (wdF d m) hP.2.2.1
      refine walk_of code mark d m p c text.length (text.length + 24) a y text (paF code mark (wdF d m) text) W hk hm hP rfl rfl hU hUb (by omega) hK (fun v hb => ?_) (fun v q cq hb hq => ?_) (fun i y' v q cq h1 h2 h3 h4 hb hq => ?_) (fun i y' v q cq h1 h2 h4 hb hq => ?_) wy
      · exact (seal_ok code mark d m p c text.length text v hk hm (hP.kept hb) rfl (by omega) (hLB v hb)).mono fun r w' ⟨u, h1, h2, h3⟩ => by
          obtain ⟨q', cq', rfl, hq', _⟩ := own_piece_n h2 hU hUb
          exact ⟨q', cq', h1, hq', h3⟩
      · exact (open_pa code mark d m q cq text.length text v hk hm hq rfl (by omega) (hLB v hb)).mono fun r w' ⟨u, h1, h2, h3⟩ => by
          obtain ⟨q', cq', rfl, hq', _⟩ := own_piece_n h2 rfl hP.2.2.1
          exact ⟨q', cq', h1, hq', h3⟩
      · have h := open_ok code mark q cq text.length (chF1 (paF code mark (wdF d m) text) i y') v hk hq (by rw [chF1_length]; exact hU) (by omega) (hLB v hb)
        rw [decide_eq_false (ch_tag h1 h2 h3)] at h
        exact h.mono fun r w' ⟨h1, h3⟩ => ⟨h1, h3⟩
      · have h := peek_ok q cq text.length (chF1 (paF code mark (wdF d m) text) i y') v hq (by rw [chF1_length]; exact hU) (by omega)
        rw [ch_word (wdF_lt hm) y' h1, wD_wd hm, wN_wd hm] at h
        exact h
  · exact walk_out code mark d m p c text.length a y W (Or.inl hm) hK

set_option maxRecDepth 100000 in
theorem lifted (os : Os) (started : os.Started) (H : Type) (enc : TypeId × Value → H) :
    ReturnsInHanded {} Tryd.checked os 7 .any (fun w args => (Rows.sealBackSpec.pre enc Tryd.prog Tryd.f7 [] false w args ∧ laidMetH Tryd.prog laid2 w) ∧ sizedMet enc Tryd.prog Tryd.f7 (OpenSpec.ofChange Rows.sealBackSpec) false w args)
      (Rows.sealBackSpec.post enc Tryd.prog Tryd.f7 false true false false) := by
  refine returnsInHanded_of_change_and (C := Tryd.checked) (X := fun w _ => laidMetH Tryd.prog laid2 w) (fun _ _ _ hh h => h.of_heap hh) own started (by kernel_rfl) Tryd.func7
    (ChangeSpec.witness_shaped (enc := enc) (C := Tryd.checked) (os := os) (X := fun w _ => laidMetH Tryd.prog laid2 w) false (World.doorLaid Tryd.prog 400 os) #[.agg zeroK.toArray, .agg #[.bool false, .int .u64 0], .slice none 0 0, .int .i64 0, .int .u8 0] 8 rfl (World.shaped_of_RefB (by kernel_rfl) (by kernel_rfl)) (by kernel_rfl) (by kernel_rfl) (by kernel_rfl) (door_met os _)) ?_
  intro W base args ds gs before hval0 hW _ hsz hL _
  have hval : ∀ (j : Nat) t v, Tryd.f7.params[j]? = some t → args[j]? = some v → Value.okWide Tryd.prog W .any base t v := hval0
  have hW' := hW
  obtain ⟨p, q, hA0, hV, rfl, hfz, hnd⟩ := hW
  have hA : DataW.TrodAll enc Tryd.prog W 0 (fun _ => true) true Tryd.f7.params.toList args.toList ds p := hA0
  rw [Tryd.params7] at hA hval
  obtain ⟨v0, vs0, d0, ds0, p0, q0, hargs, rfl, rfl, h0, r0⟩ := trodAll_cons hA
  obtain ⟨v1, vs1, d1, ds1, p1, q1, rfl, rfl, rfl, h1, r1⟩ := trodAll_cons r0
  obtain ⟨v2, vs2, d2, ds2, p2, q2, rfl, rfl, rfl, h2, r2⟩ := trodAll_cons r1
  obtain ⟨v3, vs3, d3, ds3, p3, q3, rfl, rfl, rfl, h3, r3⟩ := trodAll_cons r2
  obtain ⟨v4, vs4, d4, ds4, p4, q4, rfl, rfl, rfl, h4, r4⟩ := trodAll_cons r3
  obtain ⟨rfl, rfl, rfl⟩ := trodAll_nil r4
  obtain rfl : args = #[v0, v1, v2, v3, v4] := by cases args; simp_all
  obtain ⟨rfl, rfl⟩ := trodVars_none hV
  have k0 := h0
  obtain ⟨x0, y0, rfl, w0, z0⟩ := open_key (hval 0 34 v0 rfl rfl) h0
  have k1 := h1
  obtain ⟨x1, y1, rfl, w1, z1⟩ := open_nonce (hval 1 24 v1 rfl rfl) h1
  obtain ⟨a2, len2, cap2, rfl⟩ := okWide_slice Tryd.underlying35 (hval 2 35 v2 rfl rfl)
  have k2 := h2
  have lt2 : ∀ x ∈ p2, x.block < W.heap.size := by obtain ⟨m, hm⟩ := k2; exact DataW.trod_lt m _ _ _ hm
  obtain ⟨fuel2, hf2⟩ := h2
  obtain ⟨a2', cap2', x2, hcs2, w2⟩ := piece_of hf2
  simp [Value.cells] at hcs2
  obtain ⟨rfl, rfl, rfl⟩ := hcs2
  clear hf2
  obtain ⟨a3, rfl, rfl, rfl, w3⟩ := open_int Tryd.underlying3 (hval 3 3 v3 rfl rfl) h3
  obtain ⟨a4, rfl, rfl, rfl, w4⟩ := open_int Tryd.underlying5 (hval 4 5 v4 rfl rfl) h4
  clear hA0 hval0
  refine (walk x0 y0 x1 y1 a2 cap2 x2 a3 a4 W w0 w1 w2 w3 w4 (of_laid hL)).mono fun e W' ⟨he, bel⟩ => ?_
  subst he
  exact ⟨_, rfl, _, _, _, [], _, [], hW', trodAll_mk1 (shut_bool Tryd.underlying4 _), (trodAll_cons_mk (Below.trod laidOut (by kernel_rfl) (of_decide_eq_true (by kernel_rfl)) k0 bel (fun x hx => (z0 x hx).elim)) (trodAll_cons_mk (Below.trod laidOut (by kernel_rfl) (of_decide_eq_true (by kernel_rfl)) k1 bel (fun x hx => (z1 x hx).elim)) (trodAll_cons_mk (Below.trod laidOut (by kernel_rfl) (of_decide_eq_true (by kernel_rfl)) k2 bel lt2) (trodAll_cons_mk (shut_int Tryd.underlying3 w3) (trodAll_cons_mk (shut_int Tryd.underlying5 w4) trodAll_mk0))))), rfl, bel.frame _, fun h => by cases h⟩

theorem row : Rows.SealBackSaid :=
  OpenClaim.holds_of_wide 7 Tryd.f7 rfl rfl rfl rfl rfl rfl rfl ⟨rfl, rfl, rfl, rfl, rfl⟩ rfl rfl rfl rfl rfl (by kernel_rfl) Tryd.func7 (by kernel_rfl)
    (of_decide_eq_true (by kernel_rfl)) (by unfold Func.isWrapper; first | (rw [if_pos (by decide +kernel)]; kernel_rfl) | (rw [if_neg (by decide +kernel)]; exact ⟨rfl, rfl⟩))
    (fun os started H enc _ => lifted os started H enc)

theorem card : Rows.SealBackCardSaid :=
  Claim7.holds_tied_plain_at .later [] [.data, .data] true (true, Rows.sealBackCard.stood.harness.2) false
    row (fun _ h => by cases h) (by kernel_rfl) (fun _ h => by cases h) sealBack_row_tie rfl ⟨rfl, rfl⟩ (by kernel_rfl) rfl
    (fun f fn hf hfn => by
      obtain rfl : f = 7 := Option.some.inj ((show Tryd.prog.funcNamed "oriel/oriellaw06.SealBack" = some 7 by kernel_rfl).symm.trans hf) |>.symm
      obtain rfl : fn = Tryd.f7 := (Option.some.inj (Tryd.func7.symm.trans hfn)).symm
      exact ⟨by kernel_rfl, fun j t ht => by
        rw [Tryd.params7] at ht
        have hm : t ∈ [34, 24, 35, 3, 5] := by simpa using Array.mem_of_getElem? ht
        have hall : ([34, 24, 35, 3, 5].all fun u => !Tryd.prog.wantsStandIn u) = true := by kernel_rfl
        exact (show Tryd.prog.wantsStandIn t = false by simpa using List.all_eq_true.1 hall t hm)⟩)
    (by kernel_rfl)

end SealBackProof

/-- What was sealed is opened again, nonce and text; with its tag changed anywhere nothing of it is told. -/
theorem sealBack_holds : Rows.SealBackCardSaid := SealBackProof.card

#print axioms sealBack_holds
end Go.Proofs.YtjiipiolckddnaaDoor
