/-
  CtrTwice: whatever the key, the nonce, the text and the cut, a text that is turned twice is the text; cut in two, a flow turns it to the same; and Stream is noughts turned: the law returns true. No condition.
-/
import Derived.Test.YtflakgigekfgcaaEO
import Derived.Test.YtflakgigekfgcaaCI
namespace Go.Proofs.Ytflakgigekfgcaa
namespace CtrTwiceProof
open Go.ChangeShapes Go.WideShapes Go.ChangeAt Go.WideMaps Go.WideElems Go.RowKit
set_option linter.unusedVariables false
set_option linter.unusedSimpArgs false

def Out (n k : Int) : Bool := decide (1000 < n ∨ k < 0 ∨ n < k)

theorem strF_append (a b : List Nat) : strF a ++ strF b = strF (a ++ b) := by
  apply toList_inj
  rw [ByteArray.toList_eq, ByteArray.toList_eq]
  simp [strF, strOfNums_data]

theorem strF_size (a : List Nat) : (strF a).size = a.length := by
  rw [← ByteArray.size_data, ← Array.length_toList, strF, strOfNums_data]
  simp

theorem tr_split (B : Nat → List Nat) (xs : List Nat) (k : Nat) (hk : k ≤ xs.length) : trF B 0 (xs.take k) ++ trF B k (xs.drop k) = trF B 0 xs := by
  apply List.ext_getElem
  · simp [trF_length]; omega
  · intro i h1 h2
    have hi : i < xs.length := by simpa [trF_length] using h2
    have e0 : (trF B 0 xs)[i] = xs.getD i 0 ^^^ (B ((0 + i) / 16)).getD ((0 + i) % 16) 0 := by
      have := trF_at B 0 xs hi
      simpa [List.getD, h2] using this
    rw [e0]
    by_cases hlt : i < k
    · have h3 : i < (trF B 0 (xs.take k)).length := by rw [trF_length, List.length_take]; omega
      rw [List.getElem_append_left h3]
      have := trF_at B 0 (xs.take k) (j := i) (by rw [List.length_take]; omega)
      have e1 : (xs.take k).getD i 0 = xs.getD i 0 := by simp [List.getD, hlt]
      rw [e1] at this
      simpa [List.getD, h3] using this
    · have h3 : (trF B 0 (xs.take k)).length ≤ i := by rw [trF_length, List.length_take]; omega
      have hl : (trF B 0 (xs.take k)).length = k := by rw [trF_length, List.length_take]; omega
      rw [List.getElem_append_right h3]
      have h4 : i - (trF B 0 (xs.take k)).length < (trF B k (xs.drop k)).length := by simp only [trF_length, List.length_drop, List.length_take]; omega
      have := trF_at B k (xs.drop k) (j := i - k) (by rw [List.length_drop]; omega)
      have e1 : (xs.drop k).getD (i - k) 0 = xs.getD i 0 := by simp [List.getD, show k + (i - k) = i by omega]
      rw [e1, show k + (i - k) = 0 + i by omega] at this
      have e2 : (trF B k (xs.drop k)).getD (i - k) 0 = (trF B k (xs.drop k))[i - (trF B 0 (xs.take k)).length] := by
        simp only [hl]
        have h5 : i - k < (trF B k (xs.drop k)).length := by rw [trF_length, List.length_drop]; omega
        simp [List.getD, h5]
      rw [← e2, this]

theorem tr_st (B : Nat → List Nat) (xs : List Nat) (k i : Nat) (h : k + i < xs.length) : (trF B 0 xs).getD (k + i) 0 ^^^ xs.getD (k + i) 0 = (stF B k (xs.length - k)).getD i 0 := by
  rw [trF_at B 0 xs h, stF_at, if_pos (by omega), Nat.zero_add, Nat.xor_comm (xs.getD (k + i) 0), Nat.xor_assoc, Nat.xor_self, Nat.xor_zero]

theorem run_from (w : World) (p : Option Addr) (n cap l k : Nat) (h : n = l + k) :
    (Instr.slice 25 (.slice p n cap) (some (.int .i64 (l : Int))) none none).run Try.prog w = .ok (.slice (cutP p l cap) k (cap - l)) w := by
  have ht' : Try.prog.underlying 25 = some (.slice (Try.prog.elem 25)) := by simp [Program.elem, Try.underlying25]
  have he : Try.prog.elem 25 = 5 := by simp [Program.elem, Try.underlying25]
  rw [run_slice_l w 25 _ _ _ ht' .i64 _ (by omega) (by omega), he, size5]
  have e1 : n - l = k := by omega
  simp [Result.andThen, sliced, cutP, e1]

theorem Piece.grown {w w' : World} {g : Nat} {p : Option Addr} {c : Nat} {xs : List Nat} (h : Piece w p c xs) (hg : w.grownBy w' (some g)) (hne : ∀ a, p = some a → xs ≠ [] → a.block ≠ g) : Piece w' p c xs := ⟨bi_grown h.1 hg hne, h.2⟩

/-- what lies in memory behind both parts -/
structure StT (w wr : World) (g : Nat) (key xs A : List Nat) (p pa : Option Addr) (c ca : Nat) : Prop where
  k : Arr wr w.heap.size 22 (u8s key)
  x : Piece wr p c xs
  a : Piece wr pa ca A
  bl : Below w.heap.size w wr
  hg : w.heap.size < g
  hx : ∀ b, p = some b → xs ≠ [] → b.block < g
  ha : ∀ b, pa = some b → A ≠ [] → b.block < g
theorem StT.grown {w wr w' : World} {g : Nat} {key xs A : List Nat} {p pa : Option Addr} {c ca : Nat} (r : StT w wr g key xs A p pa c ca) (h : wr.grownBy w' (some g)) : StT w w' g key xs A p pa c ca := by
  have e := r.hg
  exact ⟨r.k.keptR h (by simp; omega), Piece.grown r.x h (fun b hb hn => by have := r.hx b hb hn; omega), Piece.grown r.a h (fun b hb hn => by have := r.ha b hb hn; omega), r.bl.grown h r.bl.size (fun j ej => by cases ej; omega), r.hg, r.hx, r.ha⟩
theorem StT.kept {w wr w' : World} {g : Nat} {key xs A : List Nat} {p pa : Option Addr} {c ca : Nat} (r : StT w wr g key xs A p pa c ca) (h : Below wr.heap.size wr w') : StT w w' g key xs A p pa c ca :=
  ⟨r.k.kept h, r.x.kept h, r.a.kept h, r.bl.trans (h.mono r.bl.size), r.hg, r.hx, r.ha⟩

set_option maxHeartbeats 8000000 in
set_option maxRecDepth 100000 in
theorem walk_in (key xs A X Y S : List Nat) (nn n km mm : Nat) (k : Int) (p : Option Addr) (c : Nat) (w : World) (hk : Blk key) (hx : Piece w p c xs) (hn : xs.length = n) (hk1 : -9223372036854775808 ≤ k) (hk2 : k ≤ 9223372036854775807)
    (hm : Out n k = false → k = (km : Int) ∧ km + mm = n ∧ n ≤ 1000) (hAl : A.length = n) (hAb : BytesN A) (hXl : Out n k = false → X.length = km) (hXb : BytesN X) (hYl : Out n k = false → Y.length = mm) (hYb : BytesN Y) (hXY : Out n k = false → X ++ Y = A)
    (hSl : Out n k = false → S.length = mm) (hSb : BytesN S) (hS : Out n k = false → ∀ i, i < mm → A.getD (km + i) 0 ^^^ xs.getD (km + i) 0 = S.getD i 0)
    (h1 : ∀ v (p : Option Addr) (c : Nat), n ≤ 1000 → Piece v p c xs → Calls Try.prog 12 #[.agg (u8s key).toArray, .int .u64 (nn : Int), .slice p n c] v fun r w' => ∃ u, r = .returned u ∧ w'.ownsRow v.heap.size 5 1 u n (u8s A) ∧ Below v.heap.size v w')
    (h2 : ∀ v (p : Option Addr) (c : Nat), n ≤ 1000 → Piece v p c A → Calls Try.prog 12 #[.agg (u8s key).toArray, .int .u64 (nn : Int), .slice p n c] v fun r w' => ∃ u, r = .returned u ∧ w'.ownsRow v.heap.size 5 1 u n (u8s xs) ∧ Below v.heap.size v w')
    (h3 : ∀ v, Calls Try.prog 13 #[.agg (u8s key).toArray, .int .u64 (nn : Int)] v fun r w' => ∃ g, r = .returned (.pointer (some ⟨g, 0, none⟩)) ∧ v.heap.size ≤ g ∧ Arr w' g 41 (flC key nn 0 true) ∧ Below v.heap.size v w')
    (h4 : ∀ v g (p : Option Addr) (c : Nat), Out n k = false → Arr v g 41 (flC key nn 0 true) → Piece v p c (xs.take km) → Calls Try.prog 14 #[.pointer (some ⟨g, 0, none⟩), .slice p km c] v fun r w' => ∃ u, r = .returned (.tuple #[u, .int .i64 0]) ∧ w'.ownsRow v.heap.size 5 1 u km (u8s X) ∧ Arr w' g 41 (flC key nn (0 + km) true) ∧ v.grownBy w' (some g))
    (h5 : ∀ v g (p : Option Addr) (c : Nat), Out n k = false → Arr v g 41 (flC key nn (0 + km) true) → Piece v p c (xs.drop km) → Calls Try.prog 14 #[.pointer (some ⟨g, 0, none⟩), .slice p mm c] v fun r w' => ∃ u, r = .returned (.tuple #[u, .int .i64 0]) ∧ w'.ownsRow v.heap.size 5 1 u mm (u8s Y) ∧ v.grownBy w' (some g))
    (h6 : ∀ v, Out n k = false → Calls Try.prog 10 #[.agg (u8s key).toArray, .int .u64 (nn : Int), .int .i64 (km : Int), .int .i64 (mm : Int)] v fun r w' => ∃ u, r = .returned u ∧ w'.ownsRow v.heap.size 5 1 u mm (u8s S) ∧ Below v.heap.size v w') :
    Calls Try.prog 7 #[.agg (u8s key).toArray, .int .u64 (nn : Int), .slice p n c, .int .i64 k] w fun e w' => e = .returned (.bool true) ∧ Below w.heap.size w w' := by
  have H1 := hide h1
  have H2 := hide h2
  have H3 := hide h3
  have H4 := hide h4
  have H5 := hide h5
  have H6 := hide h6
  have HM := hide hm
  have HAL := hide hAl
  have HAB := hide hAb
  have HXL := hide hXl
  have HXB := hide hXb
  have HYL := hide hYl
  have HYB := hide hYb
  have HXY := hide hXY
  have HSL := hide hSl
  have HSB := hide hSb
  have HS := hide hS
  have HX := hide hx
  have HN := hide hn
  have IK := hide (szb hk)
  have IKl := hide (szl hk)
  have hnm : n ≤ maxLen := by have := hx.2.2.2.1; have := hx.2.2.2.2; omega
  have A0 : Hid (Arr (w.alloc (Obj.cells (u8s key).toArray 22)) w.heap.size 22 (u8s key) ∧ Below w.heap.size w (w.alloc (Obj.cells (u8s key).toArray 22))) := ⟨Arr.new w _ _, (Below.refl _ _).alloc (Nat.le_refl _) _⟩
  have HPL := hide (piece_lt hx)
  clear hk hm hAl hAb hXl hXb hYl hYb hXY hSl hSb hS hx hn h1 h2 h3 h4 h5 h6
  go_enter Try.func7, Try.ntmps7
  go_wp2_with fail
  generalize w.alloc (Obj.cells (u8s key).toArray 22) = w1 at *
  refine (known_any w1).mono ?_
  rintro e w2 ⟨rfl, hb⟩
  have A2 : Hid (Arr w2 w.heap.size 22 (u8s key) ∧ Below w.heap.size w w2) := ⟨A0.out.1.kept hb, A0.out.2.trans (hb.mono A0.out.2.size)⟩
  clear hb A0
  go_upto_region 3 with fail
  go_cut [31] (fun s31 wc => s31 = .bool (Out n k) ∧ wc = w2)
  case first =>
    clear H1 H2 H3 H4 H5 H6 HM A2 HXL HYL HXY HSL HS
    by_cases g1 : (1000 : Int) < (n : Int)
    · have d1 : decide ((1000 : Int) < (n : Int)) = true := decide_eq_true g1
      have e : Out n k = true := by simp [Out, g1]
      go_wp2
      go_meet
      case rel => exact ⟨by rw [e], rfl⟩
    have d1 : decide ((1000 : Int) < (n : Int)) = false := decide_eq_false g1
    by_cases g2 : k < 0
    · have d2 : decide (k < 0) = true := decide_eq_true g2
      have e : Out n k = true := by simp [Out, g2]
      go_wp2
      go_meet
      case rel => exact ⟨by rw [e], rfl⟩
    have d2 : decide (k < 0) = false := decide_eq_false g2
    have e : Out n k = decide ((n : Int) < k) := by unfold Out; exact decide_eq_decide.2 ⟨fun h => by omega, fun h => by omega⟩
    go_wp2
    go_meet
    case rel => exact ⟨by rw [e], rfl⟩
  case rest =>
    obtain ⟨rfl, rfl⟩ := hcut
    cases hF : Out n k
    · obtain ⟨e1, e2, b1⟩ := HM.out hF
      subst e1
      have HFF := hide hF
      clear hk1 hk2 HM hF
      go_wp2_with (refine wpList_load_row rfl 22 _ rfl w.heap.size rfl 22 _ (0, 0) _ A2.out.1 Try.underlying22 rfl IK.out ?_)
      refine (H1.out wc p c b1 (HX.out.kept A2.out.2)).mono ?_
      rintro r w3 ⟨u, rfl, ho, hb⟩
      obtain ⟨pa, ca, rfl, hPa, hla⟩ := own_piece_n ho HAL.out HAB.out
      have A3 : Hid (Arr w3 w.heap.size 22 (u8s key) ∧ Below w.heap.size w w3 ∧ Piece w3 pa ca A) := ⟨A2.out.1.kept hb, A2.out.2.trans (hb.mono A2.out.2.size), hPa⟩
      have HLA := hide hla
      clear ho hb hPa A2 hla H1
      go_wp2_with (refine wpList_load_row rfl 22 _ rfl w.heap.size rfl 22 _ (0, 0) _ A3.out.1 Try.underlying22 rfl IK.out ?_)
      refine (H3.out w3).mono ?_
      rintro r w4 ⟨g, rfl, hg, hAg, hb⟩
      have hs3 := A3.out.2.1.size
      have hk3 := A3.out.1.lt
      have A4 : Hid (StT w w4 g key xs A p pa c ca) := ⟨A3.out.1.kept hb, (HX.out.kept A3.out.2.1).kept hb, A3.out.2.2.kept hb, A3.out.2.1.trans (hb.mono A3.out.2.1.size), by omega, fun b hb hn => by have := HPL.out b hb hn; omega, fun b hb hn => by have := (HLA.out b hb).2; omega⟩
      have HG := hide hAg
      clear hb hAg A3 H3 HLA
      have sl1 : ∀ v : World, (Instr.slice 25 (.slice p n c) none (some (.int .i64 (km : Int))) none).run Try.prog v = .ok (.slice p km c) v := fun v => run_to v p n c km (by have := HX.out.2.2.2.1; rw [HN.out] at this; omega)
      go_wp2_with fail
      refine (H4.out w4 g p c HFF.out HG.out (A4.out.x.take km)).mono ?_
      rintro r w5 ⟨u, rfl, ho, hA5, hg5⟩
      obtain ⟨px, cx, rfl, hPx, hlx⟩ := own_piece_n ho (HXL.out HFF.out) HXB.out
      have A5 := hide (A4.out.grown hg5)
      have HG5 := hide hA5
      have glt : g < w4.heap.size := HG.out.lt
      have HPx : Hid (Piece w5 px cx X ∧ ∀ b, px = some b → g < b.block) := ⟨hPx, fun b hb => by have := (hlx b hb).1; omega⟩
      clear ho hA5 hg5 hPx hlx HG A4 H4 sl1
      have sl2 : ∀ v : World, (Instr.slice 25 (.slice p n c) (some (.int .i64 (km : Int))) none none).run Try.prog v = .ok (.slice (cutP p km c) mm (c - km)) v := fun v => run_from v p n c km mm (by omega)
      go_wp2_with fail
      refine (H5.out w5 g _ _ HFF.out HG5.out (A5.out.x.from km (by rw [HN.out]; omega))).mono ?_
      rintro r w6 ⟨u, rfl, ho, hg6⟩
      obtain ⟨py, cy, rfl, hPy, _⟩ := own_piece_n ho (HYL.out HFF.out) HYB.out
      have A6 := hide (A5.out.grown hg6)
      have HP6 : Hid (Piece w6 px cx X ∧ Piece w6 py cy Y) := ⟨Piece.grown HPx.out.1 hg6 (fun b hb _ => by have := HPx.out.2 b hb; omega), hPy⟩
      clear ho hg6 hPy HPx A5 HG5 H5 sl2
      have sub1 : (n : Int) - (km : Int) = (mm : Int) := by omega
      go_wp2_with (refine wpList_load_row rfl 22 _ rfl w.heap.size rfl 22 _ (0, 0) _ A6.out.k Try.underlying22 rfl IK.out ?_)
      refine (H6.out w6 HFF.out).mono ?_
      rintro r w7 ⟨u, rfl, ho, hb⟩
      obtain ⟨ps, cs, rfl, hPs, _⟩ := own_piece_n ho (HSL.out HFF.out) HSB.out
      have A7 : Hid (StT w w7 g key xs A p pa c ca ∧ Piece w7 px cx X ∧ Piece w7 py cy Y ∧ Piece w7 ps cs S) := ⟨A6.out.kept hb, HP6.out.1.kept hb, HP6.out.2.kept hb, hPs⟩
      clear ho hb hPs A6 HP6 H6
      have Lk : Hid (∀ v : World, Hid (Below w7.heap.size w7 v) → Arr v w.heap.size 22 (u8s key)) := fun v h => A7.out.1.k.kept h.out
      have La : Hid (∀ v : World, Hid (Below w7.heap.size w7 v) → Piece v pa ca A) := fun v h => A7.out.1.a.kept h.out
      have Cx : Hid (∀ v : World, Hid (Below w7.heap.size w7 v) → (convert 25 9 (.slice px km cx)).run Try.prog v = .ok (.string (strF X)) v) := fun v h => conv_any (A7.out.2.1.kept h.out).1 km (HXL.out HFF.out)
      have Cy : Hid (∀ v : World, Hid (Below w7.heap.size w7 v) → (convert 25 9 (.slice py mm cy)).run Try.prog v = .ok (.string (strF Y)) v) := fun v h => conv_any (A7.out.2.2.1.kept h.out).1 mm (HYL.out HFF.out)
      have Ca : Hid (∀ v : World, Hid (Below w7.heap.size w7 v) → (convert 25 9 (.slice pa n ca)).run Try.prog v = .ok (.string (strF A)) v) := fun v h => conv_any (A7.out.1.a.kept h.out).1 n HAL.out
      have Ct : Hid (∀ v : World, Hid (Below w7.heap.size w7 v) → (convert 25 9 (.slice p n c)).run Try.prog v = .ok (.string (strF xs)) v) := fun v h => conv_any (A7.out.1.x.kept h.out).1 n HN.out
      have hap : strF X ++ strF Y = strF A := by rw [strF_append, HXY.out HFF.out]
      have hsz : ¬ 9223372036854775807 < (strF X).size + (strF Y).size := by rw [strF_size, strF_size, HXL.out HFF.out, HYL.out HFF.out]; omega
      have wm : IntKind.i64.wrap (mm : Int) = (mm : Int) := by rw [IntKind.wrap_i64]; omega
      go_upto_region 12 with fail
      refine wp_region_held_drew (S := fun v => Hid (Below w7.heap.size w7 v)) (by kernel_rfl) (hide (Below.refl w7.heap.size w7).drew) (fun hHeld => ?_)
      refine take_dstH (i := 0) (d := 65) (v := ?_) rfl rfl (by kernel_rfl) (by kernel_rfl) (by kernel_rfl) (fun _ _ _ h => h) (by rfl) hHeld ?_ ?_
      rotate_left
      · intro wZ hSw; clear hSw; go_simp; first | (with_reducible rfl) | (rw [if_pos (by omega)]; with_reducible rfl) | skip
      try simp only [Act.put, List.setIfInBounds_toArray, List.set_cons_zero, List.set_cons_succ]
      refine take_dstH (i := 1) (d := 66) (v := ?_) rfl rfl (by kernel_rfl) (by kernel_rfl) (by kernel_rfl) (fun _ _ _ h => h) (by rfl) hHeld ?_ ?_
      rotate_left
      · intro wZ hSw; clear hSw; go_simp; first | (with_reducible rfl) | (rw [if_pos (by omega)]; with_reducible rfl) | skip
      try simp only [Act.put, List.setIfInBounds_toArray, List.set_cons_zero, List.set_cons_succ]
      refine take_dstH (i := 2) (d := 67) (v := ?_) rfl rfl (by kernel_rfl) (by kernel_rfl) (by kernel_rfl) (fun _ _ _ h => h) (by rfl) hHeld ?_ ?_
      rotate_left
      · intro wZ hSw; clear hSw; go_simp; first | (with_reducible rfl) | (rw [if_pos (by omega)]; with_reducible rfl) | skip
      try simp only [Act.put, List.setIfInBounds_toArray, List.set_cons_zero, List.set_cons_succ]
      refine take_dstH (i := 3) (d := 68) (v := ?_) rfl rfl (by kernel_rfl) (by kernel_rfl) (by kernel_rfl) (fun _ _ _ h => h) (by rfl) hHeld ?_ ?_
      rotate_left
      · intro wZ hSw; clear hSw; go_simp; first | (with_reducible rfl) | (rw [if_pos (by omega)]; with_reducible rfl) | skip
      try simp only [Act.put, List.setIfInBounds_toArray, List.set_cons_zero, List.set_cons_succ]
      refine take_dstH (i := 4) (d := 69) (v := ?_) rfl rfl (by kernel_rfl) (by kernel_rfl) (by kernel_rfl) (fun _ _ _ h => h) (by rfl) hHeld ?_ ?_
      rotate_left
      · intro wZ hSw; clear hSw; go_simp; first | (with_reducible rfl) | (rw [if_pos (by omega)]; with_reducible rfl) | skip
      try simp only [Act.put, List.setIfInBounds_toArray, List.set_cons_zero, List.set_cons_succ]
      refine take_dstH (i := 5) (d := 70) (v := ?_) rfl rfl (by kernel_rfl) (by kernel_rfl) (by kernel_rfl) (fun _ _ _ h => h) (by rfl) hHeld ?_ ?_
      rotate_left
      · intro wZ hSw; clear hSw; go_simp; first | (with_reducible rfl) | (rw [if_pos (by omega)]; with_reducible rfl) | skip
      try simp only [Act.put, List.setIfInBounds_toArray, List.set_cons_zero, List.set_cons_succ]
      refine take_dstH (i := 6) (d := 71) (v := ?_) rfl rfl (by kernel_rfl) (by kernel_rfl) (by kernel_rfl) (fun _ _ _ h => h) (by rfl) hHeld ?_ ?_
      rotate_left
      · intro wZ hSw; clear hSw; go_simp; first | (with_reducible rfl) | (rw [if_pos (by omega)]; with_reducible rfl) | skip
      try simp only [Act.put, List.setIfInBounds_toArray, List.set_cons_zero, List.set_cons_succ]
      refine take_dstH (i := 7) (d := 72) (v := ?_) rfl rfl (by kernel_rfl) (by kernel_rfl) (by kernel_rfl) (fun _ _ _ h => h) (by rfl) hHeld ?_ ?_
      rotate_left
      · intro wZ hSw; clear hSw; go_simp; first | (with_reducible rfl) | (rw [if_pos (by omega)]; with_reducible rfl) | skip
      try simp only [Act.put, List.setIfInBounds_toArray, List.set_cons_zero, List.set_cons_succ]
      refine take_dstH (i := 8) (d := 73) (v := ?_) rfl rfl (by kernel_rfl) (by kernel_rfl) (by kernel_rfl) (fun _ _ _ h => h) (by rfl) hHeld ?_ ?_
      rotate_left
      · intro wZ hSw; have hfS := Cx.out wZ hSw; clear hSw; go_simp; first | (with_reducible rfl) | (rw [if_pos (by omega)]; with_reducible rfl) | skip
      try simp only [Act.put, List.setIfInBounds_toArray, List.set_cons_zero, List.set_cons_succ]
      refine take_dstH (i := 9) (d := 74) (v := ?_) rfl rfl (by kernel_rfl) (by kernel_rfl) (by kernel_rfl) (fun _ _ _ h => h) (by rfl) hHeld ?_ ?_
      rotate_left
      · intro wZ hSw; clear hSw; go_simp; first | (with_reducible rfl) | (rw [if_pos (by omega)]; with_reducible rfl) | skip
      try simp only [Act.put, List.setIfInBounds_toArray, List.set_cons_zero, List.set_cons_succ]
      refine take_dstH (i := 10) (d := 75) (v := ?_) rfl rfl (by kernel_rfl) (by kernel_rfl) (by kernel_rfl) (fun _ _ _ h => h) (by rfl) hHeld ?_ ?_
      rotate_left
      · intro wZ hSw; have hfS := Cy.out wZ hSw; clear hSw; go_simp; first | (with_reducible rfl) | (rw [if_pos (by omega)]; with_reducible rfl) | skip
      try simp only [Act.put, List.setIfInBounds_toArray, List.set_cons_zero, List.set_cons_succ]
      refine take_dstH (i := 11) (d := 76) (v := ?_) rfl rfl (by kernel_rfl) (by kernel_rfl) (by kernel_rfl) (fun _ _ _ h => h) (by rfl) hHeld ?_ ?_
      rotate_left
      · intro wZ hSw; clear hSw; go_simp; first | (with_reducible rfl) | (rw [if_pos (by omega)]; with_reducible rfl) | skip
      try simp only [Act.put, List.setIfInBounds_toArray, List.set_cons_zero, List.set_cons_succ]
      refine take_dstH (i := 12) (d := 77) (v := ?_) rfl rfl (by kernel_rfl) (by kernel_rfl) (by kernel_rfl) (fun _ _ _ h => h) (by rfl) hHeld ?_ ?_
      rotate_left
      · intro wZ hSw; clear hSw; go_simp; first | (with_reducible rfl) | (rw [if_pos (by omega)]; with_reducible rfl) | skip
      try simp only [Act.put, List.setIfInBounds_toArray, List.set_cons_zero, List.set_cons_succ]
      refine take_dstH (i := 13) (d := 78) (v := ?_) rfl rfl (by kernel_rfl) (by kernel_rfl) (by kernel_rfl) (fun _ _ _ h => h) (by rfl) hHeld ?_ ?_
      rotate_left
      · intro wZ hSw; have hfS := Ca.out wZ hSw; clear hSw; go_simp; first | (with_reducible rfl) | (rw [if_pos (by omega)]; with_reducible rfl) | skip
      try simp only [Act.put, List.setIfInBounds_toArray, List.set_cons_zero, List.set_cons_succ]
      refine take_dstH (i := 14) (d := 79) (v := ?_) rfl rfl (by kernel_rfl) (by kernel_rfl) (by kernel_rfl) (fun _ _ _ h => h) (by rfl) hHeld ?_ ?_
      rotate_left
      · intro wZ hSw; clear hSw; go_simp; first | (with_reducible rfl) | (rw [if_pos (by omega)]; with_reducible rfl) | skip
      try simp only [Act.put, List.setIfInBounds_toArray, List.set_cons_zero, List.set_cons_succ]
      refine take_dstH (i := 15) (d := 80) (v := ?_) rfl rfl (by kernel_rfl) (by kernel_rfl) (by kernel_rfl) (fun _ _ _ h => h) (by rfl) hHeld ?_ ?_
      rotate_left
      · intro wZ hSw; clear hSw; go_simp; first | (with_reducible rfl) | (rw [if_pos (by omega)]; with_reducible rfl) | skip
      try simp only [Act.put, List.setIfInBounds_toArray, List.set_cons_zero, List.set_cons_succ]
      refine take_dstH (i := 16) (d := 81) (v := ?_) rfl rfl (by kernel_rfl) (by kernel_rfl) (by kernel_rfl) (fun _ _ _ h => h) (by rfl) hHeld ?_ ?_
      rotate_left
      · intro wZ hSw; clear hSw; go_simp; first | (with_reducible rfl) | (rw [if_pos (by omega)]; with_reducible rfl) | skip
      try simp only [Act.put, List.setIfInBounds_toArray, List.set_cons_zero, List.set_cons_succ]
      refine take_dstH (i := 17) (d := 82) (v := ?_) rfl rfl (by kernel_rfl) (by kernel_rfl) (by kernel_rfl) (fun _ _ _ h => h) (by rfl) hHeld ?_ ?_
      rotate_left
      · intro wZ hSw; refine exec_load_all 22 (.tmp 4) ?_ w.heap.size ?_ 22 (u8s key) _ (Lk.out wZ hSw) Try.underlying22 rfl IKl.out <;> rfl
      try simp only [Act.put, List.setIfInBounds_toArray, List.set_cons_zero, List.set_cons_succ]
      refine take_dstH (i := 18) (d := 83) (v := ?_) rfl rfl (by kernel_rfl) (by kernel_rfl) (by kernel_rfl) (fun _ _ _ h => h) (by rfl) hHeld ?_ ?_
      rotate_left
      · intro wZ hSw; clear hSw; go_simp; first | (with_reducible rfl) | (rw [if_pos (by omega)]; with_reducible rfl) | skip
      try simp only [Act.put, List.setIfInBounds_toArray, List.set_cons_zero, List.set_cons_succ]
      refine take_dstH (i := 19) (d := 84) (v := ?_) rfl rfl (by kernel_rfl) (by kernel_rfl) (by kernel_rfl) (fun _ _ _ h => h) (by rfl) hHeld ?_ ?_
      rotate_left
      · intro wZ hSw; clear hSw; go_simp; first | (with_reducible rfl) | (rw [if_pos (by omega)]; with_reducible rfl) | skip
      try simp only [Act.put, List.setIfInBounds_toArray, List.set_cons_zero, List.set_cons_succ]
      refine take_dstH (i := 22) (d := 87) (v := ?_) rfl rfl (by kernel_rfl) (by kernel_rfl) (by kernel_rfl) (fun _ _ _ h => h) (by rfl) hHeld ?_ ?_
      rotate_left
      · intro wZ hSw; clear hSw; go_simp; first | (with_reducible rfl) | (rw [if_pos (by omega)]; with_reducible rfl) | skip
      try simp only [Act.put, List.setIfInBounds_toArray, List.set_cons_zero, List.set_cons_succ]
      refine take_dstH (i := 23) (d := 88) (v := ?_) rfl rfl (by kernel_rfl) (by kernel_rfl) (by kernel_rfl) (fun _ _ _ h => h) (by rfl) hHeld ?_ ?_
      rotate_left
      · intro wZ hSw; have hfS := Ct.out wZ hSw; clear hSw; go_simp; first | (with_reducible rfl) | (rw [if_pos (by omega)]; with_reducible rfl) | skip
      try simp only [Act.put, List.setIfInBounds_toArray, List.set_cons_zero, List.set_cons_succ]
      refine wpAnyH_ready (rs := [20]) (by kernel_rfl) (by simp) ?_
      refine (AllReadyH.cons rfl (fun K hK => ?_) AllReadyH.nil)
      go_simp
      refine (H2.out _ _ _ b1 (La.out _ hHeld)).mono ?_; rintro r w8 ⟨u, rfl, ho, hb⟩; obtain ⟨pt, ct, rfl, hPt, _⟩ := own_piece_n ho HN.out (Hid.out A7).1.x.2.2.1; have HBe : Hid (Below w7.heap.size w7 w8) := (Hid.out hHeld).trans (hb.mono (Hid.out hHeld).size); have Cr : Hid (∀ v : World, Hid (Below w7.heap.size w7 v) → True) := (fun _ _ => trivial); have cvt := conv_any hPt.1 (c := ct) n HN.out; clear ho hb
      go_wp2_with fail
      refine hK.out _ _ ?_ (fun hHeld => ?_)
      · exact HBe
      clear hK K
      try simp only [Act.put, List.setIfInBounds_toArray, List.set_cons_zero, List.set_cons_succ]
      refine wpAnyH_ready (rs := [21]) (by kernel_rfl) (by simp) ?_
      refine (AllReadyH.cons rfl (fun K hK => ?_) AllReadyH.nil)
      go_simp
      refine hK.out _ _ ?_ (fun hHeld => ?_)
      · exact hHeld
      clear hK K
      try simp only [Act.put, List.setIfInBounds_toArray, List.set_cons_zero, List.set_cons_succ]
      refine take_dstH (i := 24) (d := 89) (v := ?_) rfl rfl (by kernel_rfl) (by kernel_rfl) (by kernel_rfl) (fun _ _ _ h => h) (by rfl) hHeld ?_ ?_
      rotate_left
      · intro wZ hSw; clear hSw; go_simp; first | (with_reducible rfl) | (rw [if_pos (by omega)]; with_reducible rfl) | skip
      try simp only [Act.put, List.setIfInBounds_toArray, List.set_cons_zero, List.set_cons_succ]
      refine take_dstH (i := 25) (d := 90) (v := ?_) rfl rfl (by kernel_rfl) (by kernel_rfl) (by kernel_rfl) (fun _ _ _ h => h) (by rfl) hHeld ?_ ?_
      rotate_left
      · intro wZ hSw; clear hSw; go_simp; first | (with_reducible rfl) | (rw [if_pos (by omega)]; with_reducible rfl) | skip
      try simp only [Act.put, List.setIfInBounds_toArray, List.set_cons_zero, List.set_cons_succ]
      refine take_dstH (i := 26) (d := 91) (v := ?_) rfl rfl (by kernel_rfl) (by kernel_rfl) (by kernel_rfl) (fun _ _ _ h => h) (by rfl) hHeld ?_ ?_
      rotate_left
      · intro wZ hSw; clear hSw; go_simp; first | (with_reducible rfl) | (rw [if_pos (by omega)]; with_reducible rfl) | skip
      try simp only [Act.put, List.setIfInBounds_toArray, List.set_cons_zero, List.set_cons_succ]
      refine take_dstH (i := 27) (d := 92) (v := ?_) rfl rfl (by kernel_rfl) (by kernel_rfl) (by kernel_rfl) (fun _ _ _ h => h) (by rfl) hHeld ?_ ?_
      rotate_left
      · intro wZ hSw; clear hSw; go_simp; first | (with_reducible rfl) | (rw [if_pos (by omega)]; with_reducible rfl) | skip
      try simp only [Act.put, List.setIfInBounds_toArray, List.set_cons_zero, List.set_cons_succ]
      refine take_dstH (i := 28) (d := 93) (v := ?_) rfl rfl (by kernel_rfl) (by kernel_rfl) (by kernel_rfl) (fun _ _ _ h => h) (by rfl) hHeld ?_ ?_
      rotate_left
      · intro wZ hSw; clear hSw; go_simp; first | (with_reducible rfl) | (rw [if_pos (by omega)]; with_reducible rfl) | skip
      try simp only [Act.put, List.setIfInBounds_toArray, List.set_cons_zero, List.set_cons_succ]
      refine take_dstH (i := 29) (d := 94) (v := ?_) rfl rfl (by kernel_rfl) (by kernel_rfl) (by kernel_rfl) (fun _ _ _ h => h) (by rfl) hHeld ?_ ?_
      rotate_left
      · intro wZ hSw; clear hSw; go_simp; first | (with_reducible rfl) | (rw [if_pos (by omega)]; with_reducible rfl) | skip
      try simp only [Act.put, List.setIfInBounds_toArray, List.set_cons_zero, List.set_cons_succ]
      refine take_dstH (i := 30) (d := 95) (v := ?_) rfl rfl (by kernel_rfl) (by kernel_rfl) (by kernel_rfl) (fun _ _ _ h => h) (by rfl) hHeld ?_ ?_
      rotate_left
      · intro wZ hSw; clear hSw; go_simp; first | (with_reducible rfl) | (rw [if_pos (by omega)]; with_reducible rfl) | skip
      try simp only [Act.put, List.setIfInBounds_toArray, List.set_cons_zero, List.set_cons_succ]
      refine take_dstH (i := 31) (d := 96) (v := ?_) rfl rfl (by kernel_rfl) (by kernel_rfl) (by kernel_rfl) (fun _ _ _ h => h) (by rfl) hHeld ?_ ?_
      rotate_left
      · intro wZ hSw; clear hSw; go_simp; first | (with_reducible rfl) | (rw [if_pos (by omega)]; with_reducible rfl) | skip
      try simp only [Act.put, List.setIfInBounds_toArray, List.set_cons_zero, List.set_cons_succ]
      refine take_dstH (i := 32) (d := 97) (v := ?_) rfl rfl (by kernel_rfl) (by kernel_rfl) (by kernel_rfl) (fun _ _ _ h => h) (by rfl) hHeld ?_ ?_
      rotate_left
      · intro wZ hSw; clear hSw; go_simp; first | (with_reducible rfl) | (rw [if_pos (by omega)]; with_reducible rfl) | skip
      try simp only [Act.put, List.setIfInBounds_toArray, List.set_cons_zero, List.set_cons_succ]
      refine take_dstH (i := 33) (d := 98) (v := ?_) rfl rfl (by kernel_rfl) (by kernel_rfl) (by kernel_rfl) (fun _ _ _ h => h) (by rfl) hHeld ?_ ?_
      rotate_left
      · intro wZ hSw; clear hSw; go_simp; first | (with_reducible rfl) | (rw [if_pos (by omega)]; with_reducible rfl) | skip
      try simp only [Act.put, List.setIfInBounds_toArray, List.set_cons_zero, List.set_cons_succ]
      refine take_dstH (i := 34) (d := 99) (v := ?_) rfl rfl (by kernel_rfl) (by kernel_rfl) (by kernel_rfl) (fun _ _ _ h => h) (by rfl) hHeld ?_ ?_
      rotate_left
      · intro wZ hSw; clear hSw; go_simp; first | (with_reducible rfl) | (rw [if_pos (by omega)]; with_reducible rfl) | skip
      try simp only [Act.put, List.setIfInBounds_toArray, List.set_cons_zero, List.set_cons_succ]
      refine wpAnyH_done (by kernel_rfl) ?_ _
      have AB := hide A7.out.1.bl
      have A8 : Hid (StT w w8 g key xs A p pa c ca ∧ Piece w8 ps cs S) := ⟨A7.out.1.kept (Hid.out hHeld), A7.out.2.2.2.kept (Hid.out hHeld)⟩
      clear hHeld A7 Lk La Cx Cy Ca Ct Cr cvt hap hsz wm H2
      go_wp2
      go_loopg [16] (mm + 1) (fun fu s16 wr => ∃ (i : Nat), s16 = .int .i64 (i : Int) ∧ i ≤ mm ∧ mm - i < fu ∧ Hid (Below w8.heap.size w8 wr))
      case atStart => exact ⟨0, rfl, by omega, by omega, Below.refl _ _⟩
      case round =>
        obtain ⟨i, rfl, hi, hfu, HR⟩ := hrel
        by_cases hlt : i < mm
        · have hlti : (i : Int) < (mm : Int) := by omega
          obtain ⟨gs, os, hps, hcs⟩ : ∃ b o, ps = some ⟨b, o, none⟩ ∧ Bts w8 b o S := by
            rcases A8.out.2.1 with h0 | h
            · have := HSL.out HFF.out; rw [h0] at this; simp at this; omega
            · exact h
          obtain ⟨ga, oa, hpa, hca⟩ : ∃ b o, pa = some ⟨b, o, none⟩ ∧ Bts w8 b o A := by
            rcases A8.out.1.a.1 with h0 | h
            · have := HAL.out; rw [h0] at this; simp at this; omega
            · exact h
          obtain ⟨gx, ox, hpx, hcx⟩ : ∃ b o, p = some ⟨b, o, none⟩ ∧ Bts w8 b o xs := by
            rcases A8.out.1.x.1 with h0 | h
            · have := HN.out; rw [h0] at this; simp at this; omega
            · exact h
          subst hps
          subst hpa
          subst hpx
          have c1 := hide (hcs i (by rw [HSL.out HFF.out]; exact hlt))
          have c2 := hide (hca (km + i) (by rw [HAL.out]; omega))
          have c3 := hide (hcx (km + i) (by rw [HN.out]; omega))
          have ba := getD_byte HAB.out (km + i)
          have bx := getD_byte A8.out.1.x.2.2.1 (km + i)
          have eu := u8_xor_nat (A.getD (km + i) 0) (xs.getD (km + i) 0) ba bx
          rw [HS.out HFF.out i hlt] at eu
          clear hcs hca hcx
          generalize S.getD i 0 = s at *
          generalize A.getD (km + i) 0 = y at *
          generalize xs.getD (km + i) 0 = x at *
          obtain ⟨j, hj⟩ : ∃ j, j = km + i := ⟨_, rfl⟩
          rw [← hj] at c2 c3
          have jn : (j : Int) < (n : Int) := by omega
          have wj : IntKind.i64.wrap (j : Int) = (j : Int) := by rw [IntKind.wrap_i64]; omega
          have ej : (km : Int) + (i : Int) = (j : Int) := by omega
          clear hj
          have L1 : Hid (∀ v : World, Hid (Below wr.heap.size wr v) → v.cell? ⟨gs, os + i, none⟩ = some (.int .u8 (s : Int))) := fun v h => ((HR.out.trans (h.out.mono HR.out.size)).cell (p := ⟨gs, os + i, none⟩) (block_lt_of_cell c1.out)).trans c1.out
          have L2 : Hid (∀ v : World, Hid (Below wr.heap.size wr v) → v.cell? ⟨ga, oa + j, none⟩ = some (.int .u8 (y : Int))) := fun v h => ((HR.out.trans (h.out.mono HR.out.size)).cell (p := ⟨ga, oa + j, none⟩) (block_lt_of_cell c2.out)).trans c2.out
          have L3 : Hid (∀ v : World, Hid (Below wr.heap.size wr v) → v.cell? ⟨gx, ox + j, none⟩ = some (.int .u8 (x : Int))) := fun v h => ((HR.out.trans (h.out.mono HR.out.size)).cell (p := ⟨gx, ox + j, none⟩) (block_lt_of_cell c3.out)).trans c3.out
          go_upto_region 17 with fail
          refine wp_region_held_drew (S := fun v => Hid (Below wr.heap.size wr v)) (by kernel_rfl) (hide (Below.refl wr.heap.size wr).drew) (fun hHeld => ?_)
          refine take_dstH (i := 0) (d := 106) (v := ?_) rfl rfl (by kernel_rfl) (by kernel_rfl) (by kernel_rfl) (fun _ _ _ h => h) (by rfl) hHeld ?_ ?_
          rotate_left
          · intro wZ hSw; clear hSw; go_simp; first | (with_reducible rfl) | (rw [if_pos (by omega)]; with_reducible rfl) | skip
          try simp only [Act.put, List.setIfInBounds_toArray, List.set_cons_zero, List.set_cons_succ]
          refine take_dstH (i := 1) (d := 107) (v := ?_) rfl rfl (by kernel_rfl) (by kernel_rfl) (by kernel_rfl) (fun _ _ _ h => h) (by rfl) hHeld ?_ ?_
          rotate_left
          · intro wZ hSw; clear hSw; go_simp; first | (with_reducible rfl) | (rw [if_pos (by omega)]; with_reducible rfl) | skip
          try simp only [Act.put, List.setIfInBounds_toArray, List.set_cons_zero, List.set_cons_succ]
          refine take_dstH (i := 2) (d := 108) (v := ?_) rfl rfl (by kernel_rfl) (by kernel_rfl) (by kernel_rfl) (fun _ _ _ h => h) (by rfl) hHeld ?_ ?_
          rotate_left
          · intro wZ hSw; clear hSw; go_simp; first | (with_reducible rfl) | (rw [if_pos (by omega)]; with_reducible rfl) | skip
          try simp only [Act.put, List.setIfInBounds_toArray, List.set_cons_zero, List.set_cons_succ]
          refine take_dstH (i := 3) (d := 109) (v := ?_) rfl rfl (by kernel_rfl) (by kernel_rfl) (by kernel_rfl) (fun _ _ _ h => h) (by rfl) hHeld ?_ ?_
          rotate_left
          · intro wZ hSw; have hfS := L1.out wZ hSw; clear hSw; go_simp; first | (with_reducible rfl) | (rw [if_pos (by omega)]; with_reducible rfl) | skip
          try simp only [Act.put, List.setIfInBounds_toArray, List.set_cons_zero, List.set_cons_succ]
          refine take_dstH (i := 4) (d := 110) (v := ?_) rfl rfl (by kernel_rfl) (by kernel_rfl) (by kernel_rfl) (fun _ _ _ h => h) (by rfl) hHeld ?_ ?_
          rotate_left
          · intro wZ hSw; clear hSw; go_simp; first | (with_reducible rfl) | (rw [if_pos (by omega)]; with_reducible rfl) | skip
          try simp only [Act.put, List.setIfInBounds_toArray, List.set_cons_zero, List.set_cons_succ]
          refine take_dstH (i := 5) (d := 111) (v := ?_) rfl rfl (by kernel_rfl) (by kernel_rfl) (by kernel_rfl) (fun _ _ _ h => h) (by rfl) hHeld ?_ ?_
          rotate_left
          · intro wZ hSw; clear hSw; go_simp; first | (with_reducible rfl) | (rw [if_pos (by omega)]; with_reducible rfl) | skip
          try simp only [Act.put, List.setIfInBounds_toArray, List.set_cons_zero, List.set_cons_succ]
          refine take_dstH (i := 6) (d := 112) (v := ?_) rfl rfl (by kernel_rfl) (by kernel_rfl) (by kernel_rfl) (fun _ _ _ h => h) (by rfl) hHeld ?_ ?_
          rotate_left
          · intro wZ hSw; clear hSw; go_simp; first | (with_reducible rfl) | (rw [if_pos (by omega)]; with_reducible rfl) | skip
          try simp only [Act.put, List.setIfInBounds_toArray, List.set_cons_zero, List.set_cons_succ]
          refine take_dstH (i := 7) (d := 113) (v := ?_) rfl rfl (by kernel_rfl) (by kernel_rfl) (by kernel_rfl) (fun _ _ _ h => h) (by rfl) hHeld ?_ ?_
          rotate_left
          · intro wZ hSw; clear hSw; go_simp; first | (with_reducible rfl) | (rw [if_pos (by omega)]; with_reducible rfl) | skip
          try simp only [Act.put, List.setIfInBounds_toArray, List.set_cons_zero, List.set_cons_succ]
          refine take_dstH (i := 8) (d := 114) (v := ?_) rfl rfl (by kernel_rfl) (by kernel_rfl) (by kernel_rfl) (fun _ _ _ h => h) (by rfl) hHeld ?_ ?_
          rotate_left
          · intro wZ hSw; clear hSw; go_simp; first | (with_reducible rfl) | (rw [if_pos (by omega)]; with_reducible rfl) | skip
          try simp only [Act.put, List.setIfInBounds_toArray, List.set_cons_zero, List.set_cons_succ]
          refine take_dstH (i := 9) (d := 115) (v := ?_) rfl rfl (by kernel_rfl) (by kernel_rfl) (by kernel_rfl) (fun _ _ _ h => h) (by rfl) hHeld ?_ ?_
          rotate_left
          · intro wZ hSw; have hfS := L2.out wZ hSw; clear hSw; go_simp; first | (with_reducible rfl) | (rw [if_pos (by omega)]; with_reducible rfl) | skip
          try simp only [Act.put, List.setIfInBounds_toArray, List.set_cons_zero, List.set_cons_succ]
          refine take_dstH (i := 10) (d := 116) (v := ?_) rfl rfl (by kernel_rfl) (by kernel_rfl) (by kernel_rfl) (fun _ _ _ h => h) (by rfl) hHeld ?_ ?_
          rotate_left
          · intro wZ hSw; clear hSw; go_simp; first | (with_reducible rfl) | (rw [if_pos (by omega)]; with_reducible rfl) | skip
          try simp only [Act.put, List.setIfInBounds_toArray, List.set_cons_zero, List.set_cons_succ]
          refine take_dstH (i := 11) (d := 117) (v := ?_) rfl rfl (by kernel_rfl) (by kernel_rfl) (by kernel_rfl) (fun _ _ _ h => h) (by rfl) hHeld ?_ ?_
          rotate_left
          · intro wZ hSw; clear hSw; go_simp; first | (with_reducible rfl) | (rw [if_pos (by omega)]; with_reducible rfl) | skip
          try simp only [Act.put, List.setIfInBounds_toArray, List.set_cons_zero, List.set_cons_succ]
          refine take_dstH (i := 12) (d := 118) (v := ?_) rfl rfl (by kernel_rfl) (by kernel_rfl) (by kernel_rfl) (fun _ _ _ h => h) (by rfl) hHeld ?_ ?_
          rotate_left
          · intro wZ hSw; clear hSw; go_simp; first | (with_reducible rfl) | (rw [if_pos (by omega)]; with_reducible rfl) | skip
          try simp only [Act.put, List.setIfInBounds_toArray, List.set_cons_zero, List.set_cons_succ]
          refine take_dstH (i := 13) (d := 119) (v := ?_) rfl rfl (by kernel_rfl) (by kernel_rfl) (by kernel_rfl) (fun _ _ _ h => h) (by rfl) hHeld ?_ ?_
          rotate_left
          · intro wZ hSw; clear hSw; go_simp; first | (with_reducible rfl) | (rw [if_pos (by omega)]; with_reducible rfl) | skip
          try simp only [Act.put, List.setIfInBounds_toArray, List.set_cons_zero, List.set_cons_succ]
          refine take_dstH (i := 14) (d := 120) (v := ?_) rfl rfl (by kernel_rfl) (by kernel_rfl) (by kernel_rfl) (fun _ _ _ h => h) (by rfl) hHeld ?_ ?_
          rotate_left
          · intro wZ hSw; clear hSw; go_simp; first | (with_reducible rfl) | (rw [if_pos (by omega)]; with_reducible rfl) | skip
          try simp only [Act.put, List.setIfInBounds_toArray, List.set_cons_zero, List.set_cons_succ]
          refine take_dstH (i := 15) (d := 121) (v := ?_) rfl rfl (by kernel_rfl) (by kernel_rfl) (by kernel_rfl) (fun _ _ _ h => h) (by rfl) hHeld ?_ ?_
          rotate_left
          · intro wZ hSw; have hfS := L3.out wZ hSw; clear hSw; go_simp; first | (with_reducible rfl) | (rw [if_pos (by omega)]; with_reducible rfl) | skip
          try simp only [Act.put, List.setIfInBounds_toArray, List.set_cons_zero, List.set_cons_succ]
          refine take_dstH (i := 16) (d := 122) (v := ?_) rfl rfl (by kernel_rfl) (by kernel_rfl) (by kernel_rfl) (fun _ _ _ h => h) (by rfl) hHeld ?_ ?_
          rotate_left
          · intro wZ hSw; clear hSw; go_simp; first | (with_reducible rfl) | (rw [if_pos (by omega)]; with_reducible rfl) | skip
          try simp only [Act.put, List.setIfInBounds_toArray, List.set_cons_zero, List.set_cons_succ]
          refine take_dstH (i := 17) (d := 123) (v := ?_) rfl rfl (by kernel_rfl) (by kernel_rfl) (by kernel_rfl) (fun _ _ _ h => h) (by rfl) hHeld ?_ ?_
          rotate_left
          · intro wZ hSw; clear hSw; go_simp; first | (with_reducible rfl) | (rw [if_pos (by omega)]; with_reducible rfl) | skip
          try simp only [Act.put, List.setIfInBounds_toArray, List.set_cons_zero, List.set_cons_succ]
          refine wpAnyH_done (by kernel_rfl) ?_ _
          have HR2 := hide (HR.out.trans ((Hid.out hHeld).mono HR.out.size))
          clear hHeld HR L1 L2 L3 c1 c2 c3 wj ej jn eu
          go_wp2
          go_roundg (mm - i)
          case measure => omega
          case rel => exact ⟨i + 1, by go_num, by omega, by omega, HR2⟩
        · have e : i = mm := by omega
          subst e
          have HB := hide (A8.out.1.bl.trans (HR.out.mono A8.out.1.bl.size))
          clear HR A8
          go_wp2
          go_ret
          exact ⟨rfl, HB.out⟩
    · go_wp2
      go_ret
      exact ⟨rfl, A2.out.2⟩

theorem walk (key : List Nat) (b : Int) (p : Option Addr) (c : Nat) (xs : List Nat) (k : Int) (w : World) (hk : Blk key) (hb : (Lit.int .u64 b).wf = true) (hx : Piece w p c xs) (hkk : (Lit.int .i64 k).wf = true) :
    Calls Try.prog 7 #[.agg (u8s key).toArray, .int .u64 b, .slice p xs.length c, .int .i64 k] w fun e w' => e = .returned (.bool true) ∧ Below w.heap.size w w' := by
  obtain ⟨nn, rfl, hnn⟩ := wf_u64 hb
  have bk := bounds_i64 hkk
  have hff : Out xs.length k = false → k = (k.toNat : Int) ∧ k.toNat + (xs.length - k.toNat) = xs.length ∧ xs.length ≤ 1000 := fun h1 => by
    have h1' := of_decide_eq_false h1
    omega
  have BB := fun i => hbF_blk hk nn i
  have bt : BytesN (xs.take k.toNat) := fun x hx' => hx.2.2.1 x (List.mem_of_mem_take hx')
  have bd : BytesN (xs.drop k.toNat) := fun x hx' => hx.2.2.1 x (List.mem_of_mem_drop hx')
  refine walk_in key xs (trF (hbF key nn) 0 xs) (trF (hbF key nn) 0 (xs.take k.toNat)) (trF (hbF key nn) k.toNat (xs.drop k.toNat)) (stF (hbF key nn) k.toNat (xs.length - k.toNat)) nn xs.length k.toNat (xs.length - k.toNat) k p c w hk hx rfl (by omega) (by omega) hff
    (trF_length _ _ _) (trF_bytes BB _ hx.2.2.1) (fun h => by have := hff h; rw [trF_length, List.length_take]; omega) (trF_bytes BB _ bt) (fun h => by rw [trF_length, List.length_drop]) (trF_bytes BB _ bd)
    (fun h => tr_split _ _ _ (by have := hff h; omega)) (fun h => stF_length _ _ _) (stF_bytes BB _ _) (fun h i hi => tr_st _ _ _ _ (by have := hff h; omega))
    (fun v p c hl hp => turn_any key nn _ p c xs v hk hnn hp rfl (by omega)) ?_ (fun v => new_any key nn v hk) ?_ ?_ ?_
  · intro v p c hl hp
    have := turn_any key nn xs.length p c (trF (hbF key nn) 0 xs) v hk hnn hp (trF_length _ _ _) (by omega)
    rwa [trF_twice] at this
  · intro v g p c h hA hp
    obtain ⟨e1, e2, e3⟩ := hff h
    exact fturn_any key nn 0 g p k.toNat c (xs.take k.toNat) v hk hnn hA hp (by rw [List.length_take]; omega) (by omega)
  · intro v g p c h hA hp
    obtain ⟨e1, e2, e3⟩ := hff h
    rw [Nat.zero_add] at hA
    exact (fturn_any key nn k.toNat g p (xs.length - k.toNat) c (xs.drop k.toNat) v hk hnn hA hp (by rw [List.length_drop]) (by omega)).mono fun r w' ⟨u, h1, h2, _, h4⟩ => ⟨u, h1, h2, h4⟩
  · intro v h
    obtain ⟨e1, e2, e3⟩ := hff h
    exact strm_any key nn k.toNat (xs.length - k.toNat) v hk hnn (by omega)

theorem own : ownKnob Try.prog.godebug = none := by kernel_rfl
theorem laidOut : laidOutB Try.prog = true := by kernel_rfl
set_option maxRecDepth 100000 in
theorem lifted (os : Os) (started : os.Started) (H : Type) (enc : TypeId × Value → H) :
    ReturnsInHanded {} Try.checked os 7 .any (Rows.ctrTwiceSpec.pre6 enc Try.prog Try.f7 Rows.ctrTwiceRow.domain false) (Rows.ctrTwiceSpec.post enc Try.prog Try.f7 false true false false) := by
  refine returnsInHanded_of_change (C := Try.checked) own started (by kernel_rfl) Try.func7
    (ChangeSpec.witness6 (enc := enc) (C := Try.checked) false ⟨#[], #[.agg (u8s z16).toArray, .int .u64 0, .slice none 0 0, .int .i64 0], []⟩ 8 (by kernel_rfl) (by kernel_rfl) (by kernel_rfl) (by kernel_rfl)) ?_
  intro W base args ds gs before hval0 hW hcnd _
  have hval : ∀ (j : Nat) t v, Try.f7.params[j]? = some t → args[j]? = some v → Value.okWide Try.prog W .any base t v := hval0
  have hW' := hW
  obtain ⟨p, q, hA0, hV, rfl, hfz, hnd⟩ := hW
  have hA : DataW.TrodAll enc Try.prog W 0 (fun _ => true) true Try.f7.params.toList args.toList ds p := hA0
  rw [Try.params7] at hA hval
  obtain ⟨v0, vs0, d0, ds0, p0, q0, hargs, rfl, rfl, h0, r0⟩ := trodAll_cons hA
  obtain ⟨v1, vs1, d1, ds1, p1, q1, rfl, rfl, rfl, h1, r1⟩ := trodAll_cons r0
  obtain ⟨v2, vs2, d2, ds2, p2, q2, rfl, rfl, rfl, h2, r2⟩ := trodAll_cons r1
  obtain ⟨v3, vs3, d3, ds3, p3, q3, rfl, rfl, rfl, h3, r3⟩ := trodAll_cons r2
  obtain ⟨rfl, rfl, rfl⟩ := trodAll_nil r3
  obtain rfl : args = #[v0, v1, v2, v3] := by cases args; simp_all
  obtain ⟨rfl, rfl⟩ := trodVars_none hV
  have k0 := h0
  obtain ⟨x0, rfl, w0, z0⟩ := open_blk (hval 0 22 v0 rfl rfl) h0
  obtain ⟨a1, rfl, rfl, rfl, w1⟩ := open_int Try.underlying23 (hval 1 23 v1 rfl rfl) h1
  obtain ⟨a2, len2, cap2, rfl⟩ := okWide_slice Try.underlying25 (hval 2 25 v2 rfl rfl)
  have k2 := h2
  have lt2 : ∀ x ∈ p2, x.block < W.heap.size := by obtain ⟨m, hm⟩ := k2; exact DataW.trod_lt m _ _ _ hm
  obtain ⟨fuel2, hf2⟩ := h2
  obtain ⟨a2', cap2', x2, hcs2, w2⟩ := piece_of hf2
  simp [Value.cells] at hcs2
  obtain ⟨rfl, rfl, rfl⟩ := hcs2
  clear hf2
  obtain ⟨a3, rfl, rfl, rfl, w3⟩ := open_int Try.underlying3 (hval 3 3 v3 rfl rfl) h3
  clear hA0 hval0
  refine (walk x0 a1 a2 cap2 x2 a3 W w0 w1 w2 w3).mono fun e W' ⟨he, bel⟩ => ?_
  subst he
  exact ⟨_, rfl, _, _, _, [], _, [], hW', trodAll_mk1 (shut_bool Try.underlying4 _), (trodAll_cons_mk (Below.trod laidOut (by kernel_rfl) (of_decide_eq_true (by kernel_rfl)) k0 bel (fun x hx => (z0 x hx).elim)) (trodAll_cons_mk (shut_int Try.underlying23 w1) (trodAll_cons_mk (Below.trod laidOut (by kernel_rfl) (of_decide_eq_true (by kernel_rfl)) k2 bel lt2) (trodAll_cons_mk (shut_int Try.underlying3 w3) trodAll_mk0)))), rfl, bel.frame _, fun h => by cases h⟩

theorem over : Rows.ctrTwiceRow.holds Try.pinned (OpenSpec.ofChange Rows.ctrTwiceSpec) :=
  OpenClaim.holds_of_wide 7 Try.f7 rfl rfl rfl rfl rfl rfl rfl ⟨rfl, rfl, rfl, rfl, rfl⟩ rfl rfl rfl rfl rfl (by kernel_rfl) Try.func7 (by kernel_rfl)
    (of_decide_eq_true (by kernel_rfl)) (by unfold Func.isWrapper; first | (rw [if_pos (by decide +kernel)]; kernel_rfl) | (rw [if_neg (by decide +kernel)]; exact ⟨rfl, rfl⟩))
    (fun os started H enc _ => lifted os started H enc)

end CtrTwiceProof

/-- A text that is turned twice is the text; however it is cut, a flow turns it to the same, and Stream is noughts turned. -/
theorem ctrTwice_holds : Rows.CtrTwiceSaid := CtrTwiceProof.over

#print axioms ctrTwice_holds
end Go.Proofs.Ytflakgigekfgcaa
