/-
  SealApart, the tied card: unlike nonces have unlike words and unlike packets, also of one text under one key (of nonces of 2 to the power 63 and more, of texts of more than 300 bytes nothing is asked but the known rows); no condition but the two tables, which the card ties to the program's text.
-/
import Derived.Test.YtjiipiolckddnaaDoorJU
import Derived.Test.YtjiipiolckddnaaDoorJT
import Derived.Test.YtjiipiolckddnaaDoorJR
import Derived.Test.YtjiipiolckddnaaDoorJP
namespace Go.Proofs.YtjiipiolckddnaaDoor
namespace SealApartProof
open Go.ChangeShapes Go.WideShapes Go.ChangeAt Go.WideMaps Go.WideElems Go.RowKit

/-- three boxes -/
theorem boxes3 (w : World) (A B C : List Value) (ta tb tc : TypeId) : Arr (((w.alloc (Obj.cells A.toArray ta)).alloc (Obj.cells B.toArray tb)).alloc (Obj.cells C.toArray tc)) w.heap.size ta A ∧ Arr (((w.alloc (Obj.cells A.toArray ta)).alloc (Obj.cells B.toArray tb)).alloc (Obj.cells C.toArray tc)) (w.heap.size + 1) tb B ∧ Arr (((w.alloc (Obj.cells A.toArray ta)).alloc (Obj.cells B.toArray tb)).alloc (Obj.cells C.toArray tc)) (w.heap.size + 1 + 1) tc C ∧ Below w.heap.size w (((w.alloc (Obj.cells A.toArray ta)).alloc (Obj.cells B.toArray tb)).alloc (Obj.cells C.toArray tc)) :=
  ⟨((Arr.new w ta A).alloc _).alloc _, (Arr.newAt (w.alloc _) tb B _ (by simp)).alloc _, Arr.newAt ((w.alloc _).alloc _) tc C _ (by simp), (((Below.refl _ _).alloc (Nat.le_refl _) _).alloc (by simp) _).alloc (by simp; omega) _⟩

set_option maxHeartbeats 4000000 in
set_option maxRecDepth 100000 in
theorem walk_out (code mark : List Nat) (da : Bool) (ma : Nat) (db : Bool) (mb : Nat) (p : Option Addr) (c n : Nat) (W : World) (h : ¬ ma < 9223372036854775808 ∨ ¬ mb < 9223372036854775808 ∨ 300 < n)
    (hK : ∀ v, Below W.heap.size W v → Calls Tryd.prog 13 #[] v fun e w' => e = .returned (.bool true) ∧ Below v.heap.size v w') :
    Calls Tryd.prog 8 #[keyV code mark, noV da ma, noV db mb, .slice p n c] W fun r w' => r = .returned (.bool true) ∧ Below W.heap.size W w' := by
  have HK := hide hK
  have three : (9223372036854775808 : Int) ≤ (ma : Int) ∨ (decide ((9223372036854775808 : Int) ≤ (ma : Int)) = false ∧ (9223372036854775808 : Int) ≤ (mb : Int)) ∨ (decide ((9223372036854775808 : Int) ≤ (ma : Int)) = false ∧ decide ((9223372036854775808 : Int) ≤ (mb : Int)) = false ∧ (300 : Int) < (n : Int)) := by
    by_cases h1 : (9223372036854775808 : Int) ≤ (ma : Int)
    · exact Or.inl h1
    · by_cases h2 : (9223372036854775808 : Int) ≤ (mb : Int)
      · exact Or.inr (Or.inl ⟨by simpa using h1, h2⟩)
      · refine Or.inr (Or.inr ⟨by simpa using h1, by simpa using h2, ?_⟩)
        rcases h with h | h | h <;> omega
  have A1 := hide (boxes3 W (kCells code mark) (noC da ma) (noC db mb) 34 24 24)
  clear hK h
  rcases three with h1 | ⟨h1, h2⟩ | ⟨h1, h2, h3⟩
  all_goals
    go_enter Tryd.func8, Tryd.ntmps8
    go_upto_region 1 with fail
    generalize ((W.alloc (Obj.cells (kCells code mark).toArray 34)).alloc (Obj.cells #[Value.bool da, Value.int IntKind.u64 ↑ma] 24)).alloc (Obj.cells #[Value.bool db, Value.int IntKind.u64 ↑mb] 24) = w1 at *
    go_wp2_with fail
    refine (HK.out w1 A1.out.2.2.2).mono ?_
    rintro r w2 ⟨rfl, hb⟩
    have A2 : Hid (Arr w2 (W.heap.size + 1) 24 (noC da ma) ∧ Arr w2 (W.heap.size + 1 + 1) 24 (noC db mb) ∧ Below W.heap.size W w2) := ⟨A1.out.2.1.kept hb, A1.out.2.2.1.kept hb, A1.out.2.2.2.trans (hb.mono A1.out.2.2.2.size)⟩
    clear hb A1 HK
    have c1 := A2.out.1.cell 1
    have c2 := A2.out.2.1.cell 1
    simp only [List.getElem?_cons_zero, List.getElem?_cons_succ] at c1 c2
    go_wp2
    go_ret
    exact ⟨rfl, A2.out.2.2⟩

set_option maxHeartbeats 8000000 in
set_option maxRecDepth 100000 in
theorem walk_of (code mark : List Nat) (da : Bool) (ma : Nat) (db : Bool) (mb : Nat) (p : Option Addr) (c n X Y : Nat) (r : Bool) (PA PB : List Nat) (W : World) (hk : IsKey code mark) (hma : ma < 9223372036854775808) (hmb : mb < 9223372036854775808) (hn : n ≤ 300) (hPl : PA.length = n + 24) (hQl : PB.length = n + 24)
    (hXY : ((X : Int) == (Y : Int)) = r) (hPQ : ((strF PA).toList == (strF PB).toList) = r) (hr : decide (da = db ∧ ma = mb) = r)
    (hK : ∀ v, Below W.heap.size W v → Calls Tryd.prog 13 #[] v fun e w' => e = .returned (.bool true) ∧ Below v.heap.size v w')
    (hW1 : ∀ v : World, Calls Tryd.prog 9 #[noV da ma] v fun e w' => e = .returned (.tuple #[.int .u64 (X : Int), .int .i64 0]) ∧ Below v.heap.size v w')
    (hW2 : ∀ v : World, Calls Tryd.prog 9 #[noV db mb] v fun e w' => e = .returned (.tuple #[.int .u64 (Y : Int), .int .i64 0]) ∧ Below v.heap.size v w')
    (hS1 : ∀ v, Below W.heap.size W v → Calls Tryd.prog 14 #[keyV code mark, noV da ma, .slice p n c] v fun r w' => ∃ q cq, r = .returned (.tuple #[.slice q (n + 24) cq, .int .i64 0]) ∧ Piece w' q cq PA ∧ Below v.heap.size v w')
    (hS2 : ∀ v, Below W.heap.size W v → Calls Tryd.prog 14 #[keyV code mark, noV db mb, .slice p n c] v fun r w' => ∃ q cq, r = .returned (.tuple #[.slice q (n + 24) cq, .int .i64 0]) ∧ Piece w' q cq PB ∧ Below v.heap.size v w')
    (hO1 : ∀ v : World, Calls Tryd.prog 11 #[.int .u64 (X : Int)] v fun e w' => e = .returned (noV da ma) ∧ Below v.heap.size v w')
    (hO2 : ∀ v : World, Calls Tryd.prog 11 #[.int .u64 (Y : Int)] v fun e w' => e = .returned (noV db mb) ∧ Below v.heap.size v w') :
    Calls Tryd.prog 8 #[keyV code mark, noV da ma, noV db mb, .slice p n c] W fun r w' => r = .returned (.bool true) ∧ Below W.heap.size W w' := by
  have HK := hide hK
  have HW1 := hide hW1
  have HW2 := hide hW2
  have HS1 := hide hS1
  have HS2 := hide hS2
  have HO1 := hide hO1
  have HO2 := hide hO2
  have HPL := hide hPl
  have HQL := hide hQl
  have HXY := hide hXY
  have HPQ := hide hPQ
  have IK := hide hk.info
  have E0 : Hid (∀ v : World, (Op.equalIn 10000 24 (noV da ma) (noV db mb)).run Tryd.prog v = .ok r v) := fun v => (run_eq_no da db ma mb v).trans (by rw [hr])
  have E1 := hide (fun v : World => eq_no_true da ma v)
  have E2 := hide (fun v : World => eq_no_true db mb v)
  have d1 : decide ((9223372036854775808 : Int) ≤ (ma : Int)) = false := by simp; omega
  have d2 : decide ((9223372036854775808 : Int) ≤ (mb : Int)) = false := by simp; omega
  have d3 : ¬ (300 : Int) < (n : Int) := by omega
  have A1 := hide (boxes3 W (kCells code mark) (noC da ma) (noC db mb) 34 24 24)
  clear hK hW1 hW2 hS1 hS2 hO1 hO2 hPl hQl hXY hPQ hk hma hmb hn hr
  go_enter Tryd.func8, Tryd.ntmps8
  go_upto_region 1 with fail
  generalize ((W.alloc (Obj.cells (kCells code mark).toArray 34)).alloc (Obj.cells #[Value.bool da, Value.int IntKind.u64 ↑ma] 24)).alloc (Obj.cells #[Value.bool db, Value.int IntKind.u64 ↑mb] 24) = w1 at *
  go_wp2_with fail
  refine (HK.out w1 A1.out.2.2.2).mono ?_
  rintro t w2 ⟨rfl, hb⟩
  have A2 : Hid (Arr w2 W.heap.size 34 (kCells code mark) ∧ Arr w2 (W.heap.size + 1) 24 (noC da ma) ∧ Arr w2 (W.heap.size + 1 + 1) 24 (noC db mb) ∧ Below W.heap.size W w2) := ⟨A1.out.1.kept hb, A1.out.2.1.kept hb, A1.out.2.2.1.kept hb, A1.out.2.2.2.trans (hb.mono A1.out.2.2.2.size)⟩
  clear hb A1 HK
  have c1 := A2.out.2.1.cell 1
  have c2 := A2.out.2.2.1.cell 1
  simp only [List.getElem?_cons_zero, List.getElem?_cons_succ] at c1 c2
  go_wp2_with (refine wpList_load_row rfl 24 _ rfl (W.heap.size + 1) rfl 24 _ (0, 0) _ A2.out.2.1 Tryd.underlying24 rfl infoN ?_)
  refine (HW1.out w2).mono ?_
  rintro t w3 ⟨rfl, hb⟩
  have A3 : Hid (Arr w3 W.heap.size 34 (kCells code mark) ∧ Arr w3 (W.heap.size + 1) 24 (noC da ma) ∧ Arr w3 (W.heap.size + 1 + 1) 24 (noC db mb) ∧ Below W.heap.size W w3) := ⟨A2.out.1.kept hb, A2.out.2.1.kept hb, A2.out.2.2.1.kept hb, A2.out.2.2.2.trans (hb.mono A2.out.2.2.2.size)⟩
  clear hb A2 c1 c2 d1 d2 d3 HW1
  go_wp2_with (refine wpList_load_row rfl 24 _ rfl (W.heap.size + 1 + 1) rfl 24 _ (0, 0) _ A3.out.2.2.1 Tryd.underlying24 rfl infoN ?_)
  refine (HW2.out w3).mono ?_
  rintro t w4 ⟨rfl, hb⟩
  have A4 : Hid (Arr w4 W.heap.size 34 (kCells code mark) ∧ Arr w4 (W.heap.size + 1) 24 (noC da ma) ∧ Arr w4 (W.heap.size + 1 + 1) 24 (noC db mb) ∧ Below W.heap.size W w4) := ⟨A3.out.1.kept hb, A3.out.2.1.kept hb, A3.out.2.2.1.kept hb, A3.out.2.2.2.trans (hb.mono A3.out.2.2.2.size)⟩
  clear hb A3 HW2
  go_wp2_with (first
    | (refine wpList_load_row rfl 34 _ rfl W.heap.size rfl 34 _ (0, 0) _ A4.out.1 Tryd.underlying34 rfl IK.out ?_)
    | (refine wpList_load_row rfl 24 _ rfl (W.heap.size + 1) rfl 24 _ (0, 0) _ A4.out.2.1 Tryd.underlying24 rfl infoN ?_))
  refine (HS1.out w4 A4.out.2.2.2).mono ?_
  rintro t w5 ⟨q1, c1, rfl, hp, hb⟩
  have A5 : Hid (Arr w5 W.heap.size 34 (kCells code mark) ∧ Arr w5 (W.heap.size + 1) 24 (noC da ma) ∧ Arr w5 (W.heap.size + 1 + 1) 24 (noC db mb) ∧ Below W.heap.size W w5) := ⟨A4.out.1.kept hb, A4.out.2.1.kept hb, A4.out.2.2.1.kept hb, A4.out.2.2.2.trans (hb.mono A4.out.2.2.2.size)⟩
  have P5 := hide hp
  clear hb hp A4 HS1
  go_wp2_with (first
    | (refine wpList_load_row rfl 34 _ rfl W.heap.size rfl 34 _ (0, 0) _ A5.out.1 Tryd.underlying34 rfl IK.out ?_)
    | (refine wpList_load_row rfl 24 _ rfl (W.heap.size + 1 + 1) rfl 24 _ (0, 0) _ A5.out.2.2.1 Tryd.underlying24 rfl infoN ?_))
  refine (HS2.out w5 A5.out.2.2.2).mono ?_
  rintro t w6 ⟨q2, c2, rfl, hp, hb⟩
  have La : Hid (∀ v : World, Hid (Below w6.heap.size w6 v) → Arr v (W.heap.size + 1) 24 (noC da ma)) := fun v h => (A5.out.2.1.kept hb).kept h.out
  have Lb : Hid (∀ v : World, Hid (Below w6.heap.size w6 v) → Arr v (W.heap.size + 1 + 1) 24 (noC db mb)) := fun v h => (A5.out.2.2.1.kept hb).kept h.out
  have Cx : Hid (∀ v : World, Hid (Below w6.heap.size w6 v) → (convert 35 9 (.slice q1 (n + 24) c1)).run Tryd.prog v = .ok (.string (strF PA)) v) := fun v h => conv_any ((P5.out.kept hb).kept h.out).1 (n + 24) HPL.out
  have Cy : Hid (∀ v : World, Hid (Below w6.heap.size w6 v) → (convert 35 9 (.slice q2 (n + 24) c2)).run Tryd.prog v = .ok (.string (strF PB)) v) := fun v h => conv_any (hp.kept h.out).1 (n + 24) HQL.out
  have AB : Hid (Below W.heap.size W w6) := A5.out.2.2.2.trans (hb.mono A5.out.2.2.2.size)
  clear hb hp A5 P5 HS2
  go_upto_region 9 with fail
  have hXY := HXY.out
  have hPQ := HPQ.out
  have hrr : (r == r) = true := by simp
  refine wp_region_held_drew (S := fun v => Hid (Below w6.heap.size w6 v)) (by kernel_rfl) (hide (Below.refl w6.heap.size w6).drew) (fun hHeld => ?_)
  refine take_dstH (i := 0) (d := 56) (v := ?_) rfl rfl (by kernel_rfl) (by kernel_rfl) (by kernel_rfl) (fun _ _ _ h => h) (by rfl) hHeld ?_ ?_
  rotate_left
  · intro wZ hSw; clear hSw; go_simp; first | (with_reducible rfl) | (rw [if_pos (by omega)]; with_reducible rfl) | skip
  try simp only [Act.put, List.setIfInBounds_toArray, List.set_cons_zero, List.set_cons_succ]
  refine take_dstH (i := 1) (d := 57) (v := ?_) rfl rfl (by kernel_rfl) (by kernel_rfl) (by kernel_rfl) (fun _ _ _ h => h) (by rfl) hHeld ?_ ?_
  rotate_left
  · intro wZ hSw; clear hSw; go_simp; first | (with_reducible rfl) | (rw [if_pos (by omega)]; with_reducible rfl) | skip
  try simp only [Act.put, List.setIfInBounds_toArray, List.set_cons_zero, List.set_cons_succ]
  refine take_dstH (i := 2) (d := 58) (v := ?_) rfl rfl (by kernel_rfl) (by kernel_rfl) (by kernel_rfl) (fun _ _ _ h => h) (by rfl) hHeld ?_ ?_
  rotate_left
  · intro wZ hSw; clear hSw; go_simp; first | (with_reducible rfl) | (rw [if_pos (by omega)]; with_reducible rfl) | skip
  try simp only [Act.put, List.setIfInBounds_toArray, List.set_cons_zero, List.set_cons_succ]
  refine take_dstH (i := 3) (d := 59) (v := ?_) rfl rfl (by kernel_rfl) (by kernel_rfl) (by kernel_rfl) (fun _ _ _ h => h) (by rfl) hHeld ?_ ?_
  rotate_left
  · intro wZ hSw; clear hSw; go_simp; first | (with_reducible rfl) | (rw [if_pos (by omega)]; with_reducible rfl) | skip
  try simp only [Act.put, List.setIfInBounds_toArray, List.set_cons_zero, List.set_cons_succ]
  refine take_dstH (i := 4) (d := 60) (v := ?_) rfl rfl (by kernel_rfl) (by kernel_rfl) (by kernel_rfl) (fun _ _ _ h => h) (by rfl) hHeld ?_ ?_
  rotate_left
  · intro wZ hSw; clear hSw; go_simp; first | (with_reducible rfl) | (rw [if_pos (by omega)]; with_reducible rfl) | skip
  try simp only [Act.put, List.setIfInBounds_toArray, List.set_cons_zero, List.set_cons_succ]
  refine take_dstH (i := 5) (d := 61) (v := ?_) rfl rfl (by kernel_rfl) (by kernel_rfl) (by kernel_rfl) (fun _ _ _ h => h) (by rfl) hHeld ?_ ?_
  rotate_left
  · intro wZ hSw; clear hSw; go_simp; first | (with_reducible rfl) | (rw [if_pos (by omega)]; with_reducible rfl) | skip
  try simp only [Act.put, List.setIfInBounds_toArray, List.set_cons_zero, List.set_cons_succ]
  refine take_dstH (i := 6) (d := 62) (v := ?_) rfl rfl (by kernel_rfl) (by kernel_rfl) (by kernel_rfl) (fun _ _ _ h => h) (by rfl) hHeld ?_ ?_
  rotate_left
  · intro wZ hSw; clear hSw; go_simp; first | (with_reducible rfl) | (rw [if_pos (by omega)]; with_reducible rfl) | skip
  try simp only [Act.put, List.setIfInBounds_toArray, List.set_cons_zero, List.set_cons_succ]
  refine take_dstH (i := 7) (d := 63) (v := ?_) rfl rfl (by kernel_rfl) (by kernel_rfl) (by kernel_rfl) (fun _ _ _ h => h) (by rfl) hHeld ?_ ?_
  rotate_left
  · intro wZ hSw; clear hSw; go_simp; first | (with_reducible rfl) | (rw [if_pos (by omega)]; with_reducible rfl) | skip
  try simp only [Act.put, List.setIfInBounds_toArray, List.set_cons_zero, List.set_cons_succ]
  refine take_dstH (i := 8) (d := 64) (v := ?_) rfl rfl (by kernel_rfl) (by kernel_rfl) (by kernel_rfl) (fun _ _ _ h => h) (by rfl) hHeld ?_ ?_
  rotate_left
  · intro wZ hSw; clear hSw; go_simp; first | (with_reducible rfl) | (rw [if_pos (by omega)]; with_reducible rfl) | skip
  try simp only [Act.put, List.setIfInBounds_toArray, List.set_cons_zero, List.set_cons_succ]
  refine take_dstH (i := 9) (d := 65) (v := ?_) rfl rfl (by kernel_rfl) (by kernel_rfl) (by kernel_rfl) (fun _ _ _ h => h) (by rfl) hHeld ?_ ?_
  rotate_left
  · intro wZ hSw; clear hSw; go_simp; first | (with_reducible rfl) | (rw [if_pos (by omega)]; with_reducible rfl) | skip
  try simp only [Act.put, List.setIfInBounds_toArray, List.set_cons_zero, List.set_cons_succ]
  refine take_dstH (i := 10) (d := 66) (v := ?_) rfl rfl (by kernel_rfl) (by kernel_rfl) (by kernel_rfl) (fun _ _ _ h => h) (by rfl) hHeld ?_ ?_
  rotate_left
  · intro wZ hSw; clear hSw; go_simp; first | (with_reducible rfl) | (rw [if_pos (by omega)]; with_reducible rfl) | skip
  try simp only [Act.put, List.setIfInBounds_toArray, List.set_cons_zero, List.set_cons_succ]
  refine take_dstH (i := 11) (d := 67) (v := ?_) rfl rfl (by kernel_rfl) (by kernel_rfl) (by kernel_rfl) (fun _ _ _ h => h) (by rfl) hHeld ?_ ?_
  rotate_left
  · intro wZ hSw; clear hSw; go_simp; first | (with_reducible rfl) | (rw [if_pos (by omega)]; with_reducible rfl) | skip
  try simp only [Act.put, List.setIfInBounds_toArray, List.set_cons_zero, List.set_cons_succ]
  refine take_dstH (i := 12) (d := 68) (v := ?_) rfl rfl (by kernel_rfl) (by kernel_rfl) (by kernel_rfl) (fun _ _ _ h => h) (by rfl) hHeld ?_ ?_
  rotate_left
  · intro wZ hSw; clear hSw; go_simp; first | (with_reducible rfl) | (rw [if_pos (by omega)]; with_reducible rfl) | skip
  try simp only [Act.put, List.setIfInBounds_toArray, List.set_cons_zero, List.set_cons_succ]
  refine take_dstH (i := 13) (d := 69) (v := ?_) rfl rfl (by kernel_rfl) (by kernel_rfl) (by kernel_rfl) (fun _ _ _ h => h) (by rfl) hHeld ?_ ?_
  rotate_left
  · intro wZ hSw; clear hSw; go_simp; first | (with_reducible rfl) | (rw [if_pos (by omega)]; with_reducible rfl) | skip
  try simp only [Act.put, List.setIfInBounds_toArray, List.set_cons_zero, List.set_cons_succ]
  refine take_dstH (i := 14) (d := 70) (v := ?_) rfl rfl (by kernel_rfl) (by kernel_rfl) (by kernel_rfl) (fun _ _ _ h => h) (by rfl) hHeld ?_ ?_
  rotate_left
  · intro wZ hSw; clear hSw; go_simp; first | (with_reducible rfl) | (rw [if_pos (by omega)]; with_reducible rfl) | skip
  try simp only [Act.put, List.setIfInBounds_toArray, List.set_cons_zero, List.set_cons_succ]
  refine take_dstH (i := 15) (d := 71) (v := ?_) rfl rfl (by kernel_rfl) (by kernel_rfl) (by kernel_rfl) (fun _ _ _ h => h) (by rfl) hHeld ?_ ?_
  rotate_left
  · intro wZ hSw; clear hSw; go_simp; first | (with_reducible rfl) | (rw [if_pos (by omega)]; with_reducible rfl) | skip
  try simp only [Act.put, List.setIfInBounds_toArray, List.set_cons_zero, List.set_cons_succ]
  refine take_dstH (i := 16) (d := 72) (v := ?_) rfl rfl (by kernel_rfl) (by kernel_rfl) (by kernel_rfl) (fun _ _ _ h => h) (by rfl) hHeld ?_ ?_
  rotate_left
  · intro wZ hSw; clear hSw; go_simp; first | (with_reducible rfl) | (rw [if_pos (by omega)]; with_reducible rfl) | skip
  try simp only [Act.put, List.setIfInBounds_toArray, List.set_cons_zero, List.set_cons_succ]
  refine take_dstH (i := 17) (d := 73) (v := ?_) rfl rfl (by kernel_rfl) (by kernel_rfl) (by kernel_rfl) (fun _ _ _ h => h) (by rfl) hHeld ?_ ?_
  rotate_left
  · intro wZ hSw; clear hSw; go_simp; first | (with_reducible rfl) | (rw [if_pos (by omega)]; with_reducible rfl) | skip
  try simp only [Act.put, List.setIfInBounds_toArray, List.set_cons_zero, List.set_cons_succ]
  refine take_dstH (i := 18) (d := 74) (v := ?_) rfl rfl (by kernel_rfl) (by kernel_rfl) (by kernel_rfl) (fun _ _ _ h => h) (by rfl) hHeld ?_ ?_
  rotate_left
  · intro wZ hSw; refine exec_load_all 24 (.tmp 5) ?_ (W.heap.size + 1) ?_ 24 (noC da ma) _ (La.out wZ hSw) Tryd.underlying24 rfl infoN <;> rfl
  try simp only [Act.put, List.setIfInBounds_toArray, List.set_cons_zero, List.set_cons_succ]
  refine take_dstH (i := 19) (d := 75) (v := ?_) rfl rfl (by kernel_rfl) (by kernel_rfl) (by kernel_rfl) (fun _ _ _ h => h) (by rfl) hHeld ?_ ?_
  rotate_left
  · intro wZ hSw; refine exec_load_all 24 (.tmp 6) ?_ (W.heap.size + 1 + 1) ?_ 24 (noC db mb) _ (Lb.out wZ hSw) Tryd.underlying24 rfl infoN <;> rfl
  try simp only [Act.put, List.setIfInBounds_toArray, List.set_cons_zero, List.set_cons_succ]
  refine take_dstH (i := 20) (d := 76) (v := ?_) rfl rfl (by kernel_rfl) (by kernel_rfl) (by kernel_rfl) (fun _ _ _ h => h) (by rfl) hHeld ?_ ?_
  rotate_left
  · intro wZ hSw; refine exec_eql_agg 24 24 (.tmp 74) (.tmp 75) ?_ #[Value.bool da, Value.int .u64 (ma : Int)] #[Value.bool db, Value.int .u64 (mb : Int)] ?_ ?_ r (guardN _ _ _ _ _) (E0.out wZ) <;> rfl
  try simp only [Act.put, List.setIfInBounds_toArray, List.set_cons_zero, List.set_cons_succ]
  refine take_dstH (i := 21) (d := 77) (v := ?_) rfl rfl (by kernel_rfl) (by kernel_rfl) (by kernel_rfl) (fun _ _ _ h => h) (by rfl) hHeld ?_ ?_
  rotate_left
  · intro wZ hSw; clear hSw; go_simp; first | (with_reducible rfl) | (rw [if_pos (by omega)]; with_reducible rfl) | skip
  try simp only [Act.put, List.setIfInBounds_toArray, List.set_cons_zero, List.set_cons_succ]
  refine take_dstH (i := 22) (d := 78) (v := ?_) rfl rfl (by kernel_rfl) (by kernel_rfl) (by kernel_rfl) (fun _ _ _ h => h) (by rfl) hHeld ?_ ?_
  rotate_left
  · intro wZ hSw; clear hSw; go_simp; first | (with_reducible rfl) | (rw [if_pos (by omega)]; with_reducible rfl) | skip
  try simp only [Act.put, List.setIfInBounds_toArray, List.set_cons_zero, List.set_cons_succ]
  refine take_dstH (i := 23) (d := 79) (v := ?_) rfl rfl (by kernel_rfl) (by kernel_rfl) (by kernel_rfl) (fun _ _ _ h => h) (by rfl) hHeld ?_ ?_
  rotate_left
  · intro wZ hSw; clear hSw; go_simp; first | (with_reducible rfl) | (rw [if_pos (by omega)]; with_reducible rfl) | skip
  try simp only [Act.put, List.setIfInBounds_toArray, List.set_cons_zero, List.set_cons_succ]
  refine take_dstH (i := 24) (d := 80) (v := ?_) rfl rfl (by kernel_rfl) (by kernel_rfl) (by kernel_rfl) (fun _ _ _ h => h) (by rfl) hHeld ?_ ?_
  rotate_left
  · intro wZ hSw; clear hSw; go_simp; first | (with_reducible rfl) | (rw [if_pos (by omega)]; with_reducible rfl) | skip
  try simp only [Act.put, List.setIfInBounds_toArray, List.set_cons_zero, List.set_cons_succ]
  refine take_dstH (i := 25) (d := 81) (v := ?_) rfl rfl (by kernel_rfl) (by kernel_rfl) (by kernel_rfl) (fun _ _ _ h => h) (by rfl) hHeld ?_ ?_
  rotate_left
  · intro wZ hSw; have hfS := Cx.out wZ hSw; clear hSw; go_simp; first | (with_reducible rfl) | (rw [if_pos (by omega)]; with_reducible rfl) | skip
  try simp only [Act.put, List.setIfInBounds_toArray, List.set_cons_zero, List.set_cons_succ]
  refine take_dstH (i := 26) (d := 82) (v := ?_) rfl rfl (by kernel_rfl) (by kernel_rfl) (by kernel_rfl) (fun _ _ _ h => h) (by rfl) hHeld ?_ ?_
  rotate_left
  · intro wZ hSw; clear hSw; go_simp; first | (with_reducible rfl) | (rw [if_pos (by omega)]; with_reducible rfl) | skip
  try simp only [Act.put, List.setIfInBounds_toArray, List.set_cons_zero, List.set_cons_succ]
  refine take_dstH (i := 27) (d := 83) (v := ?_) rfl rfl (by kernel_rfl) (by kernel_rfl) (by kernel_rfl) (fun _ _ _ h => h) (by rfl) hHeld ?_ ?_
  rotate_left
  · intro wZ hSw; have hfS := Cy.out wZ hSw; clear hSw; go_simp; first | (with_reducible rfl) | (rw [if_pos (by omega)]; with_reducible rfl) | skip
  try simp only [Act.put, List.setIfInBounds_toArray, List.set_cons_zero, List.set_cons_succ]
  refine take_dstH (i := 28) (d := 84) (v := ?_) rfl rfl (by kernel_rfl) (by kernel_rfl) (by kernel_rfl) (fun _ _ _ h => h) (by rfl) hHeld ?_ ?_
  rotate_left
  · intro wZ hSw; clear hSw; go_simp; first | (with_reducible rfl) | (rw [if_pos (by omega)]; with_reducible rfl) | skip
  try simp only [Act.put, List.setIfInBounds_toArray, List.set_cons_zero, List.set_cons_succ]
  refine take_dstH (i := 29) (d := 85) (v := ?_) rfl rfl (by kernel_rfl) (by kernel_rfl) (by kernel_rfl) (fun _ _ _ h => h) (by rfl) hHeld ?_ ?_
  rotate_left
  · intro wZ hSw; refine exec_load_all 24 (.tmp 5) ?_ (W.heap.size + 1) ?_ 24 (noC da ma) _ (La.out wZ hSw) Tryd.underlying24 rfl infoN <;> rfl
  try simp only [Act.put, List.setIfInBounds_toArray, List.set_cons_zero, List.set_cons_succ]
  refine take_dstH (i := 30) (d := 86) (v := ?_) rfl rfl (by kernel_rfl) (by kernel_rfl) (by kernel_rfl) (fun _ _ _ h => h) (by rfl) hHeld ?_ ?_
  rotate_left
  · intro wZ hSw; refine exec_load_all 24 (.tmp 6) ?_ (W.heap.size + 1 + 1) ?_ 24 (noC db mb) _ (Lb.out wZ hSw) Tryd.underlying24 rfl infoN <;> rfl
  try simp only [Act.put, List.setIfInBounds_toArray, List.set_cons_zero, List.set_cons_succ]
  refine take_dstH (i := 31) (d := 87) (v := ?_) rfl rfl (by kernel_rfl) (by kernel_rfl) (by kernel_rfl) (fun _ _ _ h => h) (by rfl) hHeld ?_ ?_
  rotate_left
  · intro wZ hSw; refine exec_eql_agg 24 24 (.tmp 85) (.tmp 86) ?_ #[Value.bool da, Value.int .u64 (ma : Int)] #[Value.bool db, Value.int .u64 (mb : Int)] ?_ ?_ r (guardN _ _ _ _ _) (E0.out wZ) <;> rfl
  try simp only [Act.put, List.setIfInBounds_toArray, List.set_cons_zero, List.set_cons_succ]
  refine take_dstH (i := 32) (d := 88) (v := ?_) rfl rfl (by kernel_rfl) (by kernel_rfl) (by kernel_rfl) (fun _ _ _ h => h) (by rfl) hHeld ?_ ?_
  rotate_left
  · intro wZ hSw; clear hSw; go_simp; first | (with_reducible rfl) | (rw [if_pos (by omega)]; with_reducible rfl) | skip
  try simp only [Act.put, List.setIfInBounds_toArray, List.set_cons_zero, List.set_cons_succ]
  refine take_dstH (i := 33) (d := 89) (v := ?_) rfl rfl (by kernel_rfl) (by kernel_rfl) (by kernel_rfl) (fun _ _ _ h => h) (by rfl) hHeld ?_ ?_
  rotate_left
  · intro wZ hSw; clear hSw; go_simp; first | (with_reducible rfl) | (rw [if_pos (by omega)]; with_reducible rfl) | skip
  try simp only [Act.put, List.setIfInBounds_toArray, List.set_cons_zero, List.set_cons_succ]
  refine take_dstH (i := 34) (d := 90) (v := ?_) rfl rfl (by kernel_rfl) (by kernel_rfl) (by kernel_rfl) (fun _ _ _ h => h) (by rfl) hHeld ?_ ?_
  rotate_left
  · intro wZ hSw; clear hSw; go_simp; first | (with_reducible rfl) | (rw [if_pos (by omega)]; with_reducible rfl) | skip
  try simp only [Act.put, List.setIfInBounds_toArray, List.set_cons_zero, List.set_cons_succ]
  refine take_dstH (i := 35) (d := 91) (v := ?_) rfl rfl (by kernel_rfl) (by kernel_rfl) (by kernel_rfl) (fun _ _ _ h => h) (by rfl) hHeld ?_ ?_
  rotate_left
  · intro wZ hSw; clear hSw; go_simp; first | (with_reducible rfl) | (rw [if_pos (by omega)]; with_reducible rfl) | skip
  try simp only [Act.put, List.setIfInBounds_toArray, List.set_cons_zero, List.set_cons_succ]
  refine take_dstH (i := 37) (d := 93) (v := ?_) rfl rfl (by kernel_rfl) (by kernel_rfl) (by kernel_rfl) (fun _ _ _ h => h) (by rfl) hHeld ?_ ?_
  rotate_left
  · intro wZ hSw; refine exec_load_all 24 (.tmp 5) ?_ (W.heap.size + 1) ?_ 24 (noC da ma) _ (La.out wZ hSw) Tryd.underlying24 rfl infoN <;> rfl
  try simp only [Act.put, List.setIfInBounds_toArray, List.set_cons_zero, List.set_cons_succ]
  refine wpAnyH_ready (rs := [36]) (by kernel_rfl) (by simp) ?_
  refine (AllReadyH.cons rfl (fun K hK => ?_) AllReadyH.nil)
  go_simp
  refine (HO1.out _).mono ?_; rintro e wa ⟨rfl, hba⟩; have HBa : Hid (Below w6.heap.size w6 wa) := (Hid.out hHeld).trans (hba.mono (Hid.out hHeld).size); clear hba
  go_wp2_with fail
  refine hK.out _ _ ?_ (fun hHeld => ?_)
  · exact HBa
  clear hK K
  try simp only [Act.put, List.setIfInBounds_toArray, List.set_cons_zero, List.set_cons_succ]
  refine take_dstH (i := 38) (d := 94) (v := ?_) rfl rfl (by kernel_rfl) (by kernel_rfl) (by kernel_rfl) (fun _ _ _ h => h) (by rfl) hHeld ?_ ?_
  rotate_left
  · intro wZ hSw; refine exec_eql_agg 24 24 (.tmp 92) (.tmp 93) ?_ #[Value.bool da, Value.int .u64 (ma : Int)] #[Value.bool da, Value.int .u64 (ma : Int)] ?_ ?_ true (guardN _ _ _ _ _) (E1.out wZ) <;> rfl
  try simp only [Act.put, List.setIfInBounds_toArray, List.set_cons_zero, List.set_cons_succ]
  refine take_dstH (i := 39) (d := 95) (v := ?_) rfl rfl (by kernel_rfl) (by kernel_rfl) (by kernel_rfl) (fun _ _ _ h => h) (by rfl) hHeld ?_ ?_
  rotate_left
  · intro wZ hSw; clear hSw; go_simp; first | (with_reducible rfl) | (rw [if_pos (by omega)]; with_reducible rfl) | skip
  try simp only [Act.put, List.setIfInBounds_toArray, List.set_cons_zero, List.set_cons_succ]
  refine take_dstH (i := 40) (d := 96) (v := ?_) rfl rfl (by kernel_rfl) (by kernel_rfl) (by kernel_rfl) (fun _ _ _ h => h) (by rfl) hHeld ?_ ?_
  rotate_left
  · intro wZ hSw; clear hSw; go_simp; first | (with_reducible rfl) | (rw [if_pos (by omega)]; with_reducible rfl) | skip
  try simp only [Act.put, List.setIfInBounds_toArray, List.set_cons_zero, List.set_cons_succ]
  refine take_dstH (i := 41) (d := 97) (v := ?_) rfl rfl (by kernel_rfl) (by kernel_rfl) (by kernel_rfl) (fun _ _ _ h => h) (by rfl) hHeld ?_ ?_
  rotate_left
  · intro wZ hSw; clear hSw; go_simp; first | (with_reducible rfl) | (rw [if_pos (by omega)]; with_reducible rfl) | skip
  try simp only [Act.put, List.setIfInBounds_toArray, List.set_cons_zero, List.set_cons_succ]
  refine take_dstH (i := 43) (d := 99) (v := ?_) rfl rfl (by kernel_rfl) (by kernel_rfl) (by kernel_rfl) (fun _ _ _ h => h) (by rfl) hHeld ?_ ?_
  rotate_left
  · intro wZ hSw; refine exec_load_all 24 (.tmp 6) ?_ (W.heap.size + 1 + 1) ?_ 24 (noC db mb) _ (Lb.out wZ hSw) Tryd.underlying24 rfl infoN <;> rfl
  try simp only [Act.put, List.setIfInBounds_toArray, List.set_cons_zero, List.set_cons_succ]
  refine wpAnyH_ready (rs := [42]) (by kernel_rfl) (by simp) ?_
  refine (AllReadyH.cons rfl (fun K hK => ?_) AllReadyH.nil)
  go_simp
  refine (HO2.out _).mono ?_; rintro e wb ⟨rfl, hbb⟩; have HBb : Hid (Below w6.heap.size w6 wb) := (Hid.out hHeld).trans (hbb.mono (Hid.out hHeld).size); clear hbb
  go_wp2_with fail
  refine hK.out _ _ ?_ (fun hHeld => ?_)
  · exact HBb
  clear hK K
  try simp only [Act.put, List.setIfInBounds_toArray, List.set_cons_zero, List.set_cons_succ]
  refine take_dstH (i := 44) (d := 100) (v := ?_) rfl rfl (by kernel_rfl) (by kernel_rfl) (by kernel_rfl) (fun _ _ _ h => h) (by rfl) hHeld ?_ ?_
  rotate_left
  · intro wZ hSw; refine exec_eql_agg 24 24 (.tmp 98) (.tmp 99) ?_ #[Value.bool db, Value.int .u64 (mb : Int)] #[Value.bool db, Value.int .u64 (mb : Int)] ?_ ?_ true (guardN _ _ _ _ _) (E2.out wZ) <;> rfl
  try simp only [Act.put, List.setIfInBounds_toArray, List.set_cons_zero, List.set_cons_succ]
  refine take_dstH (i := 45) (d := 101) (v := ?_) rfl rfl (by kernel_rfl) (by kernel_rfl) (by kernel_rfl) (fun _ _ _ h => h) (by rfl) hHeld ?_ ?_
  rotate_left
  · intro wZ hSw; clear hSw; go_simp; first | (with_reducible rfl) | (rw [if_pos (by omega)]; with_reducible rfl) | skip
  try simp only [Act.put, List.setIfInBounds_toArray, List.set_cons_zero, List.set_cons_succ]
  refine take_dstH (i := 46) (d := 8) (v := ?_) rfl rfl (by kernel_rfl) (by kernel_rfl) (by kernel_rfl) (fun _ _ _ h => h) (by rfl) hHeld ?_ ?_
  rotate_left
  · intro wZ hSw; clear hSw; go_simp; first | (with_reducible rfl) | (rw [if_pos (by omega)]; with_reducible rfl) | skip
  try simp only [Act.put, List.setIfInBounds_toArray, List.set_cons_zero, List.set_cons_succ]
  refine wpAnyH_done (by kernel_rfl) ?_ _
  all_goals
    go_wp2
    go_ret
    exact ⟨rfl, AB.out.trans (HBb.out.mono AB.out.size)⟩

theorem walk (code mark : List Nat) (da : Bool) (ma : Nat) (db : Bool) (mb : Nat) (p : Option Addr) (c : Nat) (text : List Nat) (W : World) (hk : IsKey code mark) (ha64 : ma < 18446744073709551616) (hb64 : mb < 18446744073709551616) (hP : Piece W p c text) (hL : Laid W) :
    Calls Tryd.prog 8 #[keyV code mark, noV da ma, noV db mb, .slice p text.length c] W fun r w' => r = .returned (.bool true) ∧ Below W.heap.size W w' := by
  have hL2 := hL.size
  have hLB : ∀ v, Below W.heap.size W v → Laid v := fun v hb => hL.keptB (B := W.heap.size) hL2 hb
  have hK : ∀ v, Below W.heap.size W v → Calls Tryd.prog 13 #[] v fun e w' => e = .returned (.bool true) ∧ Below v.heap.size v w' := fun v hb => known_any v (hLB v hb)
  by_cases hma : ma < 9223372036854775808
  · by_cases hmb : mb < 9223372036854775808
    · by_cases hn : 300 < text.length
      · exact walk_out code mark da ma db mb p c text.length W (Or.inr (Or.inr hn)) hK
      · have hU1 := paF_length code mark (wdF da ma) text
        have hUb1 := paF_bytes hk.c mark (wdF da ma) hP.2.2.1
        have hU2 := paF_length code mark (wdF db mb) text
        have hUb2 := paF_bytes hk.c mark (wdF db mb) hP.2.2.1
        have i1 : wdF da ma = wdF db mb ↔ da = db ∧ ma = mb := ⟨fun h => wd_inj hma hmb h, fun ⟨h1, h2⟩ => by rw [h1, h2]⟩
        have i2 : paF code mark (wdF da ma) text = paF code mark (wdF db mb) text ↔ da = db ∧ ma = mb := by
          rw [← i1]
          refine ⟨fun h => ?_, fun h => by rw [h]⟩
          have h1 := rd8_pa code mark (wdF_lt (d := da) hma) text
          rw [h, rd8_pa code mark (wdF_lt (d := db) hmb) text] at h1
          exact h1.symm
        refine walk_of code mark da ma db mb p c text.length (wdF da ma) (wdF db mb) (decide (da = db ∧ ma = mb)) (paF code mark (wdF da ma) text) (paF code mark (wdF db mb) text) W hk hma hmb (by omega) hU1 hU2 ?_ ?_ rfl hK ?_ ?_ ?_ ?_ ?_ ?_
        · have hd : ∀ a b : Int, (a == b) = decide (a = b) := fun a b => rfl
          rw [hd]
          exact decide_eq_decide.2 (by rw [← i1]; omega)
        · rw [← beq_toListBytes, strF_eq hUb1 hUb2]
          exact decide_eq_decide.2 i2
        · intro v; have h := word_no da ma ha64 v; rw [if_pos hma] at h; exact h
        · intro v; have h := word_no db mb hb64 v; rw [if_pos hmb] at h; exact h
        · intro v hb
          exact (seal_ok code mark da ma p c text.length text v hk hma (hP.kept hb) rfl (by omega) (hLB v hb)).mono fun r w' ⟨u, h1, h2, h3⟩ => by
            obtain ⟨q', cq', rfl, hq', _⟩ := own_piece_n h2 hU1 hUb1
            exact ⟨q', cq', h1, hq', h3⟩
        · intro v hb
          exact (seal_ok code mark db mb p c text.length text v hk hmb (hP.kept hb) rfl (by omega) (hLB v hb)).mono fun r w' ⟨u, h1, h2, h3⟩ => by
            obtain ⟨q', cq', rfl, hq', _⟩ := own_piece_n h2 hU2 hUb2
            exact ⟨q', cq', h1, hq', h3⟩
        · intro v; have h := of_no (wdF da ma) v; rw [wD_wd hma, wN_wd hma] at h; exact h
        · intro v; have h := of_no (wdF db mb) v; rw [wD_wd hmb, wN_wd hmb] at h; exact h
    · exact walk_out code mark da ma db mb p c text.length W (Or.inr (Or.inl hmb)) hK
  · exact walk_out code mark da ma db mb p c text.length W (Or.inl hma) hK

set_option maxRecDepth 100000 in
theorem lifted (os : Os) (started : os.Started) (H : Type) (enc : TypeId × Value → H) :
    ReturnsInHanded {} Tryd.checked os 8 .any (fun w args => (Rows.sealApartSpec.pre enc Tryd.prog Tryd.f8 [] false w args ∧ laidMetH Tryd.prog laid2 w) ∧ sizedMet enc Tryd.prog Tryd.f8 (OpenSpec.ofChange Rows.sealApartSpec) false w args)
      (Rows.sealApartSpec.post enc Tryd.prog Tryd.f8 false true false false) := by
  refine returnsInHanded_of_change_and (C := Tryd.checked) (X := fun w _ => laidMetH Tryd.prog laid2 w) (fun _ _ _ hh h => h.of_heap hh) own started (by kernel_rfl) Tryd.func8
    (ChangeSpec.witness_shaped (enc := enc) (C := Tryd.checked) (os := os) (X := fun w _ => laidMetH Tryd.prog laid2 w) false (World.doorLaid Tryd.prog 400 os) #[.agg zeroK.toArray, .agg #[.bool false, .int .u64 0], .agg #[.bool false, .int .u64 0], .slice none 0 0] 8 rfl (World.shaped_of_RefB (by kernel_rfl) (by kernel_rfl)) (by kernel_rfl) (by kernel_rfl) (by kernel_rfl) (door_met os _)) ?_
  intro W base args ds gs before hval0 hW _ hsz hL _
  have hval : ∀ (j : Nat) t v, Tryd.f8.params[j]? = some t → args[j]? = some v → Value.okWide Tryd.prog W .any base t v := hval0
  have hW' := hW
  obtain ⟨p, q, hA0, hV, rfl, hfz, hnd⟩ := hW
  have hA : DataW.TrodAll enc Tryd.prog W 0 (fun _ => true) true Tryd.f8.params.toList args.toList ds p := hA0
  rw [Tryd.params8] at hA hval
  obtain ⟨v0, vs0, d0, ds0, p0, q0, hargs, rfl, rfl, h0, r0⟩ := trodAll_cons hA
  obtain ⟨v1, vs1, d1, ds1, p1, q1, rfl, rfl, rfl, h1, r1⟩ := trodAll_cons r0
  obtain ⟨v2, vs2, d2, ds2, p2, q2, rfl, rfl, rfl, h2, r2⟩ := trodAll_cons r1
  obtain ⟨v3, vs3, d3, ds3, p3, q3, rfl, rfl, rfl, h3, r3⟩ := trodAll_cons r2
  obtain ⟨rfl, rfl, rfl⟩ := trodAll_nil r3
  obtain rfl : args = #[v0, v1, v2, v3] := by cases args; simp_all
  obtain ⟨rfl, rfl⟩ := trodVars_none hV
  have k0 := h0
  obtain ⟨x0, y0, rfl, w0, z0⟩ := open_key (hval 0 34 v0 rfl rfl) h0
  have k1 := h1
  obtain ⟨x1, y1, rfl, w1, z1⟩ := open_nonce (hval 1 24 v1 rfl rfl) h1
  have k2 := h2
  obtain ⟨x2, y2, rfl, w2, z2⟩ := open_nonce (hval 2 24 v2 rfl rfl) h2
  obtain ⟨a3, len3, cap3, rfl⟩ := okWide_slice Tryd.underlying35 (hval 3 35 v3 rfl rfl)
  have k3 := h3
  have lt3 : ∀ x ∈ p3, x.block < W.heap.size := by obtain ⟨m, hm⟩ := k3; exact DataW.trod_lt m _ _ _ hm
  obtain ⟨fuel3, hf3⟩ := h3
  obtain ⟨a3', cap3', x3, hcs3, w3⟩ := piece_of hf3
  simp [Value.cells] at hcs3
  obtain ⟨rfl, rfl, rfl⟩ := hcs3
  clear hf3
  clear hA0 hval0
  refine (walk x0 y0 x1 y1 x2 y2 a3 cap3 x3 W w0 w1 w2 w3 (of_laid hL)).mono fun e W' ⟨he, bel⟩ => ?_
  subst he
  exact ⟨_, rfl, _, _, _, [], _, [], hW', trodAll_mk1 (shut_bool Tryd.underlying4 _), (trodAll_cons_mk (Below.trod laidOut (by kernel_rfl) (of_decide_eq_true (by kernel_rfl)) k0 bel (fun x hx => (z0 x hx).elim)) (trodAll_cons_mk (Below.trod laidOut (by kernel_rfl) (of_decide_eq_true (by kernel_rfl)) k1 bel (fun x hx => (z1 x hx).elim)) (trodAll_cons_mk (Below.trod laidOut (by kernel_rfl) (of_decide_eq_true (by kernel_rfl)) k2 bel (fun x hx => (z2 x hx).elim)) (trodAll_cons_mk (Below.trod laidOut (by kernel_rfl) (of_decide_eq_true (by kernel_rfl)) k3 bel lt3) trodAll_mk0)))), rfl, bel.frame _, fun h => by cases h⟩

theorem row : Rows.SealApartSaid :=
  OpenClaim.holds_of_wide 8 Tryd.f8 rfl rfl rfl rfl rfl rfl rfl ⟨rfl, rfl, rfl, rfl, rfl⟩ rfl rfl rfl rfl rfl (by kernel_rfl) Tryd.func8 (by kernel_rfl)
    (of_decide_eq_true (by kernel_rfl)) (by unfold Func.isWrapper; first | (rw [if_pos (by decide +kernel)]; kernel_rfl) | (rw [if_neg (by decide +kernel)]; exact ⟨rfl, rfl⟩))
    (fun os started H enc _ => lifted os started H enc)

theorem card : Rows.SealApartCardSaid :=
  Claim7.holds_tied_plain_at .later [] [.data, .data] true (true, Rows.sealApartCard.stood.harness.2) false
    row (fun _ h => by cases h) (by kernel_rfl) (fun _ h => by cases h) sealApart_row_tie rfl ⟨rfl, rfl⟩ (by kernel_rfl) rfl
    (fun f fn hf hfn => by
      obtain rfl : f = 8 := Option.some.inj ((show Tryd.prog.funcNamed "oriel/oriellaw06.SealApart" = some 8 by kernel_rfl).symm.trans hf) |>.symm
      obtain rfl : fn = Tryd.f8 := (Option.some.inj (Tryd.func8.symm.trans hfn)).symm
      exact ⟨by kernel_rfl, fun j t ht => by
        rw [Tryd.params8] at ht
        have hm : t ∈ [34, 24, 24, 35] := by simpa using Array.mem_of_getElem? ht
        have hall : ([34, 24, 24, 35].all fun u => !Tryd.prog.wantsStandIn u) = true := by kernel_rfl
        exact (show Tryd.prog.wantsStandIn t = false by simpa using List.all_eq_true.1 hall t hm)⟩)
    (by kernel_rfl)

end SealApartProof

/-- Unlike nonces have unlike words and unlike packets, also of one text under one key. -/
theorem sealApart_holds : Rows.SealApartCardSaid := SealApartProof.card

#print axioms sealApart_holds
end Go.Proofs.YtjiipiolckddnaaDoor
