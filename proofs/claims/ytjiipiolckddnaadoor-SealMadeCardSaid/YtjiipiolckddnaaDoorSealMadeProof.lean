/-
  SealMade, the tied card: bytes with the tag that is theirs are opened: any nonce, any hidden text (of a hidden text of more than 1200 bytes nothing is asked but the known rows); no condition but the two tables, which the card ties to the program's text.
-/
import Derived.Test.YtjiipiolckddnaaDoorJU
import Derived.Test.YtjiipiolckddnaaDoorJS
import Derived.Test.YtjiipiolckddnaaDoorJR
import Derived.Test.YtjiipiolckddnaaDoorJP
import Derived.Test.YtjiipiolckddnaaDoorJV
namespace Go.Proofs.YtjiipiolckddnaaDoor
namespace SealMadeProof
open Go.ChangeShapes Go.WideShapes Go.ChangeAt Go.WideMaps Go.WideElems Go.RowKit

/-- what lies in memory while the packet is made and opened: the key, the bytes ahead of the tag; all else as it lay in w0 -/
structure MkS (W w0 : World) (code mark : List Nat) (gb nb cb : Nat) (A : List Nat) (v : World) : Prop where
  k : Arr v W.heap.size 34 (kCells code mark)
  b : v.ownsRow W.heap.size 5 1 (.slice (some ⟨gb, 0, none⟩) nb cb) nb (u8s A)
  l : Below W.heap.size W v
  g : w0.grownBy v (some gb)
  i : W.heap.size ≤ w0.heap.size
theorem MkS.kept {W w0 : World} {code mark : List Nat} {gb nb cb : Nat} {A : List Nat} {v v' : World} (h : MkS W w0 code mark gb nb cb A v) (hb : Below v.heap.size v v') : MkS W w0 code mark gb nb cb A v' :=
  ⟨h.k.kept hb, own_below h.b hb, h.l.trans (hb.mono h.l.size), grown_trans h.g (below_grown hb _), h.i⟩
theorem MkS.drew {W w0 : World} {code mark : List Nat} {gb nb cb : Nat} {A : List Nat} {v : World} (h : MkS W w0 code mark gb nb cb A v) : MkS W w0 code mark gb nb cb A v.drew :=
  ⟨h.k, h.b, h.l.drew, grown_drew h.g, h.i⟩
theorem MkS.app {W w0 : World} {code mark : List Nat} {gb nb cb : Nat} {A : List Nat} {v v' : World} (h : MkS W w0 code mark gb nb cb A v) (hg : v.grownBy v' (some gb)) (hb : v'.ownsRow W.heap.size 5 1 (.slice (some ⟨gb, 0, none⟩) nb cb) nb (u8s A)) : MkS W w0 code mark gb nb cb A v' :=
  ⟨h.k.keptR hg (own_ne_arr h.b h.k (by decide)), hb, h.l.grown hg h.l.size (by intro k hk; cases hk; exact (own_at_lt h.b).1), grown_trans h.g hg, h.i⟩
theorem MkS.sto {W w0 : World} {code mark : List Nat} {gb nb cb : Nat} {A : List Nat} {v : World} (h : MkS W w0 code mark gb nb cb A v) {g : Nat} {cs : List Value} (d : Bool) (m : Nat) (hA : Arr v g 24 cs) (hg : w0.heap.size ≤ g) : MkS W w0 code mark gb nb cb A (v.setRow g (noC d m).toArray) :=
  ⟨h.k.rowOther _ _ (arr_ne h.k hA (by decide)), h.b.kept (grown_row v g _) (.inr (own_ne_arr h.b hA (by decide))), below_setRow h.l (Nat.le_trans h.i hg) hA.lt _, grown_store h.g hg _, h.i⟩

set_option maxHeartbeats 8000000 in
set_option maxRecDepth 100000 in
theorem walk_long (code mark : List Nat) (x : Nat) (p : Option Addr) (c n : Nat) (W : World) (hn : 1200 < n)
    (hK : ∀ v, Below W.heap.size W v → Calls Tryd.prog 13 #[] v fun e w' => e = .returned (.bool true) ∧ Below v.heap.size v w') :
    Calls Tryd.prog 6 #[keyV code mark, .int .u64 (x : Int), .slice p n c] W fun r w' => r = .returned (.bool true) ∧ Below W.heap.size W w' := by
  have HK := hide hK
  have hn' : (1200 : Int) < (n : Int) := by omega
  have A1 : Hid (Below W.heap.size W (W.alloc (Obj.cells (kCells code mark).toArray 34))) := (Below.refl _ _).alloc (Nat.le_refl _) _
  clear hK hn
  go_enter Tryd.func6, Tryd.ntmps6
  go_upto_region 1 with fail
  generalize W.alloc (Obj.cells (kCells code mark).toArray 34) = w1 at *
  go_wp2_with fail
  refine (HK.out w1 A1.out).mono ?_
  rintro r w2 ⟨rfl, hb⟩
  have A2 : Hid (Below W.heap.size W w2) := A1.out.trans (hb.mono A1.out.size)
  clear hb A1 HK
  go_wp2
  go_ret
  exact ⟨rfl, A2.out⟩

set_option maxHeartbeats 8000000 in
set_option maxRecDepth 100000 in
theorem walk_of (code mark : List Nat) (x : Nat) (p : Option Addr) (c n : Nat) (hid A G U : List Nat) (xd : Bool) (xn : Nat) (W : World) (hk : IsKey code mark) (hP : Piece W p c hid) (hn : hid.length = n) (hn2 : n ≤ 1200) (hx : x < 18446744073709551616) (hA : A = fx8 x ++ hid) (hAb : BytesN A) (hGl : G.length = 16) (hGb : BytesN G) (hUl : U.length = n) (hUb : BytesN U)
    (hK : ∀ v, Below W.heap.size W v → Calls Tryd.prog 13 #[] v fun e w' => e = .returned (.bool true) ∧ Below v.heap.size v w')
    (hT : ∀ v q cq, Piece v q cq A → Calls Tryd.prog 20 #[keyV code mark, .slice q (n + 8) cq] v fun r w' => ∃ u, r = .returned u ∧ w'.ownsRow v.heap.size 5 1 u 16 (u8s G) ∧ Below v.heap.size v w')
    (hO1 : ∀ v q cq, Below W.heap.size W v → Piece v q cq (A ++ G) → Calls Tryd.prog 16 #[keyV code mark, .slice q (n + 8 + 16) cq] v fun r w' => ∃ u, r = .returned (.tuple #[noV xd xn, u, .int .i64 0]) ∧ w'.ownsRow v.heap.size 5 1 u n (u8s U) ∧ Below v.heap.size v w')
    (hO2 : ∀ v q cq, Below W.heap.size W v → Piece v q cq (A ++ G) → Calls Tryd.prog 17 #[keyV code mark, .slice q (n + 8 + 16) cq] v fun r w' => ∃ u, r = .returned (.tuple #[noV xd xn, u, .int .i64 0]) ∧ w'.ownsRow v.heap.size 5 1 u n (u8s U) ∧ Below v.heap.size v w') :
    Calls Tryd.prog 6 #[keyV code mark, .int .u64 (x : Int), .slice p n c] W fun r w' => r = .returned (.bool true) ∧ Below W.heap.size W w' := by
  have HK := hide hK
  have HTG := hide hT
  have HO1 := hide hO1
  have HO2 := hide hO2
  have HP := hide hP
  have HN := hide hn
  have HGL := hide hGl
  have HGB := hide hGb
  have HUL := hide hUl
  have HUB := hide hUb
  have HAB := hide hAb
  have HAE := hide hA
  have IK := hide hk.info
  have E1 := hide (fun v : World => eq_no_true xd xn v)
  have HAL : Hid (A.length = n + 8) := by show _ = _; rw [hA, List.length_append, fx8_length, hn]; omega
  have HAGL : Hid ((A ++ G).length = n + 8 + 16) := by show _ = _; rw [List.length_append, HAL.out, hGl]
  have HAGB := hide (bytes_append hAb hGb)
  have hn' : ¬ (1200 : Int) < (n : Int) := by omega
  have hx' := hide hx
  have A1 : Hid (Arr (W.alloc (Obj.cells (kCells code mark).toArray 34)) W.heap.size 34 (kCells code mark) ∧ Below W.heap.size W (W.alloc (Obj.cells (kCells code mark).toArray 34))) := ⟨Arr.new W _ _, (Below.refl _ _).alloc (Nat.le_refl _) _⟩
  clear hK hT hO1 hO2 hP hn hGl hGb hUl hUb hAb hA hk
  go_enter Tryd.func6, Tryd.ntmps6
  go_upto_region 1 with fail
  generalize W.alloc (Obj.cells (kCells code mark).toArray 34) = w1 at *
  go_wp2_with fail
  refine (HK.out w1 A1.out.2).mono ?_
  rintro r w2 ⟨rfl, hb⟩
  have A2 : Hid (Arr w2 W.heap.size 34 (kCells code mark) ∧ Below W.heap.size W w2) := ⟨A1.out.1.kept hb, A1.out.2.trans (hb.mono A1.out.2.size)⟩
  clear hb A1 HK
  have HLIT : Hid ((w2.alloc (Obj.cells #[Value.int IntKind.u8 (↑x / 72057594037927936), Value.int IntKind.u8 (↑x / 281474976710656 % 256), Value.int IntKind.u8 (↑x / 1099511627776 % 256), Value.int IntKind.u8 (↑x / 4294967296 % 256), Value.int IntKind.u8 (↑x / 16777216 % 256), Value.int IntKind.u8 (↑x / 65536 % 256), Value.int IntKind.u8 (↑x / 256 % 256), Value.int IntKind.u8 (↑x % 256)] 5)).ownsRow w2.heap.size 5 1 (.slice (some ⟨w2.heap.size, 0, none⟩) 8 8) 8 (u8s (fx8 x))) := by
    have h := World.ownsRow_lit (e := 5) (size := 1) w2 #[Value.int IntKind.u8 (↑x / 72057594037927936), Value.int IntKind.u8 (↑x / 281474976710656 % 256), Value.int IntKind.u8 (↑x / 1099511627776 % 256), Value.int IntKind.u8 (↑x / 4294967296 % 256), Value.int IntKind.u8 (↑x / 16777216 % 256), Value.int IntKind.u8 (↑x / 65536 % 256), Value.int IntKind.u8 (↑x / 256 % 256), Value.int IntKind.u8 (↑x % 256)] 8 (Nat.le_refl _) (by decide) rfl
    have e : u8s (fx8 x) = [Value.int IntKind.u8 (↑x / 72057594037927936), Value.int IntKind.u8 (↑x / 281474976710656 % 256), Value.int IntKind.u8 (↑x / 1099511627776 % 256), Value.int IntKind.u8 (↑x / 4294967296 % 256), Value.int IntKind.u8 (↑x / 16777216 % 256), Value.int IntKind.u8 (↑x / 65536 % 256), Value.int IntKind.u8 (↑x / 256 % 256), Value.int IntKind.u8 (↑x % 256)] := by
      simp [u8s, fx8]
      omega
    show World.ownsRow _ _ _ _ _ _ _
    rw [e]
    exact h
  go_upto_region 6 with (at_builtin; refine wpList_append_bytes rfl (.tmp 42) (.tmp 43) rfl w2.heap.size _ (fx8 x) rfl 8 rfl HLIT.out p n c hid HN.out rfl ((HP.out.kept A2.out.2).1.kept ((Below.refl _ _).alloc (Nat.le_refl _) _)) HP.out.2.1 (by omega) (by simp) ?_; intro v3 w3 hown hgrow; have B3 : Hid (Below w2.heap.size w2 w3) := ((Below.refl _ w2).alloc (Nat.le_refl _) _).trans (grown_below hgrow (by simp) (by intro k hk; have h : some w2.heap.size = some k := hk; cases h; exact Nat.le_refl _)); have O3 : Hid (w3.ownsRow w2.heap.size 5 1 v3 (n + 8) (u8s A)) := (show World.ownsRow _ _ _ _ _ _ _ by rw [HAE.out, Nat.add_comm]; exact hown); obtain ⟨gb, cb, rfl, hgb, _, _, _⟩ := own_shape O3.out (by omega); clear hown hgrow)
  have M4 : Hid (MkS W w3 code mark gb (n + 8) cb A w3) := ⟨A2.out.1.kept B3.out, own_base O3.out A2.out.2.size, A2.out.2.trans (B3.out.mono A2.out.2.size), grown_refl _ _, Nat.le_trans A2.out.2.size B3.out.size⟩
  clear O3 B3 A2 HLIT hgb hx hx'
  go_upto_region 6 with fail
  go_cut [8, 9, 10] (fun s8 s9 s10 wx => ∃ g8 qu cu, s8 = .pointer (some ⟨g8, 0, none⟩) ∧ s9 = .slice qu n cu ∧ s10 = .int .i64 0 ∧ Hid (MkS W w3 code mark gb (n + 8) cb A wx ∧ Arr wx g8 24 (noC xd xn) ∧ Piece wx qu cu U ∧ ∀ a, qu = some a → gb + 1 ≤ a.block))
  case first =>
    refine wp_region_held_drew (S := fun v => Hid (MkS W w3 code mark gb (n + 8) cb A v)) (by kernel_rfl) (hide M4.out.drew) (fun hHeld => ?_)
    refine take_dstH (i := 0) (d := 46) (v := ?_) rfl rfl (by kernel_rfl) (by kernel_rfl) (by kernel_rfl) (fun _ _ _ h => h) (by rfl) hHeld ?_ ?_
    rotate_left
    · intro wZ hSw; refine exec_load_all 34 (.tmp 3) ?_ W.heap.size ?_ 34 (kCells code mark) _ (Hid.out hSw).k Tryd.underlying34 rfl IK.out <;> rfl
    try simp only [Act.put, List.setIfInBounds_toArray, List.set_cons_zero, List.set_cons_succ]
    refine take_dstH (i := 1) (d := 47) (v := ?_) rfl rfl (by kernel_rfl) (by kernel_rfl) (by kernel_rfl) (fun _ _ _ h => h) (by rfl) hHeld ?_ ?_
    rotate_left
    · intro wZ hSw; clear hSw; go_simp; first | (with_reducible rfl) | (rw [if_pos (by omega)]; with_reducible rfl) | skip
    try simp only [Act.put, List.setIfInBounds_toArray, List.set_cons_zero, List.set_cons_succ]
    refine take_dstH (i := 2) (d := 48) (v := ?_) rfl rfl (by kernel_rfl) (by kernel_rfl) (by kernel_rfl) (fun _ _ _ h => h) (by rfl) hHeld ?_ ?_
    rotate_left
    · intro wZ hSw; refine exec_load_all 34 (.tmp 3) ?_ W.heap.size ?_ 34 (kCells code mark) _ (Hid.out hSw).k Tryd.underlying34 rfl IK.out <;> rfl
    try simp only [Act.put, List.setIfInBounds_toArray, List.set_cons_zero, List.set_cons_succ]
    refine take_dstH (i := 3) (d := 49) (v := ?_) rfl rfl (by kernel_rfl) (by kernel_rfl) (by kernel_rfl) (fun _ _ _ h => h) (by rfl) hHeld ?_ ?_
    rotate_left
    · intro wZ hSw; clear hSw; go_simp; first | (with_reducible rfl) | (rw [if_pos (by omega)]; with_reducible rfl) | skip
    try simp only [Act.put, List.setIfInBounds_toArray, List.set_cons_zero, List.set_cons_succ]
    refine wpAnyH_ready (rs := [4, 11]) (by kernel_rfl) (by simp) ?_
    refine (AllReadyH.cons rfl (fun K hK => ?_) (AllReadyH.cons rfl (fun K hK => ?_) AllReadyH.nil))
    focus
      go_simp
      refine (HTG.out _ _ _ (own_at (Hid.out hHeld).b HAL.out HAB.out)).mono ?_; rintro e wa ⟨u, rfl, hou, hba⟩; obtain ⟨qt, ct, rfl, hqt, _⟩ := own_piece_n hou HGL.out HGB.out; have PT := hide hqt; have HSa : Hid (MkS W w3 code mark gb (n + 8) cb A wa) := (Hid.out hHeld).kept hba; (try (replace AN := hide (AN.out.kept hba))); clear hou hba hqt
      go_wp2_with fail
      refine hK.out _ _ ?_ (fun hHeld => ?_)
      · exact HSa
      clear hK K
      try simp only [Act.put, List.setIfInBounds_toArray, List.set_cons_zero, List.set_cons_succ]
      refine wpAnyH_ready (rs := [5, 11]) (by kernel_rfl) (by simp) ?_
      refine (AllReadyH.cons rfl (fun K hK => ?_) (AllReadyH.cons rfl (fun K hK => ?_) AllReadyH.nil))
      focus
        refine wp_append_keeps (dd := 51) rfl (.tmp 47) (.tmp 50) rfl W.heap.size gb (n + 8) cb A rfl (Hid.out hHeld).b qt 16 ct G HGL.out (by omega) rfl PT.out.1 (by omega) (Hid.out hHeld).l.size (fun v5 w5 hown hgrow hkp => ?_); have HS5 : Hid (MkS W w3 code mark gb (n + 8) cb A w5) := (Hid.out hHeld).app hgrow hkp; obtain ⟨q5, c5, rfl, hq5, _⟩ := own_piece_n hown HAGL.out HAGB.out; have P5 := hide hq5; (try (replace AN := hide (AN.out.keptR hgrow (own_ne_arr (Hid.out hHeld).b AN.out (by decide))))); clear hown hgrow hkp hq5
        refine hK.out _ _ ?_ (fun hHeld => ?_)
        · exact HS5
        clear hK K
        try simp only [Act.put, List.setIfInBounds_toArray, List.set_cons_zero, List.set_cons_succ]
        refine wpAnyH_ready (rs := [6, 11]) (by kernel_rfl) (by simp) ?_
        refine (AllReadyH.cons rfl (fun K hK => ?_) (AllReadyH.cons rfl (fun K hK => ?_) AllReadyH.nil))
        focus
          go_simp
          refine (HO1.out _ _ _ (Hid.out hHeld).l P5.out).mono ?_; rintro e wb ⟨u, rfl, hou, hbb⟩; have OU : Hid (wb.ownsRow (gb + 1) 5 1 u n (u8s U)) := own_base hou (Nat.succ_le_of_lt (own_at_lt (Hid.out hHeld).b).2); have HSb : Hid (MkS W w3 code mark gb (n + 8) cb A wb) := (Hid.out hHeld).kept hbb; (try (replace AN := hide (AN.out.kept hbb))); clear hou hbb
          go_wp2_with fail
          refine hK.out _ _ ?_ (fun hHeld => ?_)
          · exact HSb
          clear hK K
          try simp only [Act.put, List.setIfInBounds_toArray, List.set_cons_zero, List.set_cons_succ]
          refine take_dstH (i := 7) (d := 45) (v := ?_) rfl rfl (by kernel_rfl) (by kernel_rfl) (by kernel_rfl) (fun _ _ _ h => h) (by rfl) hHeld ?_ ?_
          rotate_left
          · intro wZ hSw; clear hSw; go_simp; first | (with_reducible rfl) | (rw [if_pos (by omega)]; with_reducible rfl) | skip
          try simp only [Act.put, List.setIfInBounds_toArray, List.set_cons_zero, List.set_cons_succ]
          refine take_dstH (i := 8) (d := 53) (v := ?_) rfl rfl (by kernel_rfl) (by kernel_rfl) (by kernel_rfl) (fun _ _ _ h => h) (by rfl) hHeld ?_ ?_
          rotate_left
          · intro wZ hSw; clear hSw; go_simp; first | (with_reducible rfl) | (rw [if_pos (by omega)]; with_reducible rfl) | skip
          try simp only [Act.put, List.setIfInBounds_toArray, List.set_cons_zero, List.set_cons_succ]
          refine take_dstH (i := 9) (d := 54) (v := ?_) rfl rfl (by kernel_rfl) (by kernel_rfl) (by kernel_rfl) (fun _ _ _ h => h) (by rfl) hHeld ?_ ?_
          rotate_left
          · intro wZ hSw; clear hSw; go_simp; first | (with_reducible rfl) | (rw [if_pos (by omega)]; with_reducible rfl) | skip
          try simp only [Act.put, List.setIfInBounds_toArray, List.set_cons_zero, List.set_cons_succ]
          refine take_dstH (i := 10) (d := 55) (v := ?_) rfl rfl (by kernel_rfl) (by kernel_rfl) (by kernel_rfl) (fun _ _ _ h => h) (by rfl) hHeld ?_ ?_
          rotate_left
          · intro wZ hSw; clear hSw; go_simp; first | (with_reducible rfl) | (rw [if_pos (by omega)]; with_reducible rfl) | skip
          try simp only [Act.put, List.setIfInBounds_toArray, List.set_cons_zero, List.set_cons_succ]
          refine wpAnyH_ready (rs := [11]) (by kernel_rfl) (by simp) ?_
          refine (AllReadyH.cons rfl (fun K hK => ?_) AllReadyH.nil)
          refine wp_alloc_no rfl rfl (fun g8 w8 hA8 hB8 hg8 => ?_); have AN := hide hA8; have HG8 : Hid (w3.heap.size ≤ g8) := Nat.le_trans (Hid.out hHeld).g.size hg8; have HSn : Hid (MkS W w3 code mark gb (n + 8) cb A w8) := (Hid.out hHeld).kept hB8; (try (replace PT := hide (PT.out.kept hB8))); (try (replace P5 := hide (P5.out.kept hB8))); (try (replace OU := hide (own_below OU.out hB8))); clear hA8 hB8 hg8
          refine hK.out _ _ ?_ (fun hHeld => ?_)
          · exact HSn
          clear hK K
          try simp only [Act.put, List.setIfInBounds_toArray, List.set_cons_zero, List.set_cons_succ]
          refine wpAnyH_ready (rs := [12]) (by kernel_rfl) (by simp) ?_
          refine (AllReadyH.cons rfl (fun K hK => ?_) AllReadyH.nil)
          refine wp_store_dst rfl 24 (.tmp 8) (.tmp 53) rfl g8 (noC xd xn).toArray rfl rfl 24 _ AN.out infoN rfl (one_noC _ _) ?_
          refine hK.out _ _ ?_ (fun hHeld => ?_)
          · exact (Hid.out hHeld).sto xd xn AN.out HG8.out
          clear hK K
          have AN2 := hide (AN.out.row (noC xd xn).toArray); have OU2 := hide (OU.out.kept (grown_row _ g8 (noC xd xn).toArray) (.inr (own_ne_arr OU.out AN.out (by decide)))); obtain ⟨qu, cu, rfl, hqu, hqb⟩ := own_piece_n OU2.out HUL.out HUB.out; have PU := hide hqu; have HQB := hide hqb; clear hqu hqb
          try simp only [Act.put, List.setIfInBounds_toArray, List.set_cons_zero, List.set_cons_succ]
          refine take_dstH (i := 13) (d := 9) (v := ?_) rfl rfl (by kernel_rfl) (by kernel_rfl) (by kernel_rfl) (fun _ _ _ h => h) (by rfl) hHeld ?_ ?_
          rotate_left
          · intro wZ hSw; clear hSw; go_simp; first | (with_reducible rfl) | (rw [if_pos (by omega)]; with_reducible rfl) | skip
          try simp only [Act.put, List.setIfInBounds_toArray, List.set_cons_zero, List.set_cons_succ]
          refine take_dstH (i := 14) (d := 10) (v := ?_) rfl rfl (by kernel_rfl) (by kernel_rfl) (by kernel_rfl) (fun _ _ _ h => h) (by rfl) hHeld ?_ ?_
          rotate_left
          · intro wZ hSw; clear hSw; go_simp; first | (with_reducible rfl) | (rw [if_pos (by omega)]; with_reducible rfl) | skip
          try simp only [Act.put, List.setIfInBounds_toArray, List.set_cons_zero, List.set_cons_succ]
          refine wpAnyH_done (by kernel_rfl) ?_ _
        rotate_left 1
        focus
          refine wp_alloc_no rfl rfl (fun g8 w8 hA8 hB8 hg8 => ?_); have AN := hide hA8; have HG8 : Hid (w3.heap.size ≤ g8) := Nat.le_trans (Hid.out hHeld).g.size hg8; have HSn : Hid (MkS W w3 code mark gb (n + 8) cb A w8) := (Hid.out hHeld).kept hB8; (try (replace PT := hide (PT.out.kept hB8))); (try (replace P5 := hide (P5.out.kept hB8))); (try (replace OU := hide (own_below OU.out hB8))); clear hA8 hB8 hg8
          refine hK.out _ _ ?_ (fun hHeld => ?_)
          · exact HSn
          clear hK K
          try simp only [Act.put, List.setIfInBounds_toArray, List.set_cons_zero, List.set_cons_succ]
          refine wpAnyH_ready (rs := [6]) (by kernel_rfl) (by simp) ?_
          refine (AllReadyH.cons rfl (fun K hK => ?_) AllReadyH.nil)
          go_simp
          refine (HO1.out _ _ _ (Hid.out hHeld).l P5.out).mono ?_; rintro e wb ⟨u, rfl, hou, hbb⟩; have OU : Hid (wb.ownsRow (gb + 1) 5 1 u n (u8s U)) := own_base hou (Nat.succ_le_of_lt (own_at_lt (Hid.out hHeld).b).2); have HSb : Hid (MkS W w3 code mark gb (n + 8) cb A wb) := (Hid.out hHeld).kept hbb; (try (replace AN := hide (AN.out.kept hbb))); clear hou hbb
          go_wp2_with fail
          refine hK.out _ _ ?_ (fun hHeld => ?_)
          · exact HSb
          clear hK K
          try simp only [Act.put, List.setIfInBounds_toArray, List.set_cons_zero, List.set_cons_succ]
          refine take_dstH (i := 7) (d := 45) (v := ?_) rfl rfl (by kernel_rfl) (by kernel_rfl) (by kernel_rfl) (fun _ _ _ h => h) (by rfl) hHeld ?_ ?_
          rotate_left
          · intro wZ hSw; clear hSw; go_simp; first | (with_reducible rfl) | (rw [if_pos (by omega)]; with_reducible rfl) | skip
          try simp only [Act.put, List.setIfInBounds_toArray, List.set_cons_zero, List.set_cons_succ]
          refine take_dstH (i := 8) (d := 53) (v := ?_) rfl rfl (by kernel_rfl) (by kernel_rfl) (by kernel_rfl) (fun _ _ _ h => h) (by rfl) hHeld ?_ ?_
          rotate_left
          · intro wZ hSw; clear hSw; go_simp; first | (with_reducible rfl) | (rw [if_pos (by omega)]; with_reducible rfl) | skip
          try simp only [Act.put, List.setIfInBounds_toArray, List.set_cons_zero, List.set_cons_succ]
          refine take_dstH (i := 9) (d := 54) (v := ?_) rfl rfl (by kernel_rfl) (by kernel_rfl) (by kernel_rfl) (fun _ _ _ h => h) (by rfl) hHeld ?_ ?_
          rotate_left
          · intro wZ hSw; clear hSw; go_simp; first | (with_reducible rfl) | (rw [if_pos (by omega)]; with_reducible rfl) | skip
          try simp only [Act.put, List.setIfInBounds_toArray, List.set_cons_zero, List.set_cons_succ]
          refine take_dstH (i := 10) (d := 55) (v := ?_) rfl rfl (by kernel_rfl) (by kernel_rfl) (by kernel_rfl) (fun _ _ _ h => h) (by rfl) hHeld ?_ ?_
          rotate_left
          · intro wZ hSw; clear hSw; go_simp; first | (with_reducible rfl) | (rw [if_pos (by omega)]; with_reducible rfl) | skip
          try simp only [Act.put, List.setIfInBounds_toArray, List.set_cons_zero, List.set_cons_succ]
          refine wpAnyH_ready (rs := [12]) (by kernel_rfl) (by simp) ?_
          refine (AllReadyH.cons rfl (fun K hK => ?_) AllReadyH.nil)
          refine wp_store_dst rfl 24 (.tmp 8) (.tmp 53) rfl g8 (noC xd xn).toArray rfl rfl 24 _ AN.out infoN rfl (one_noC _ _) ?_
          refine hK.out _ _ ?_ (fun hHeld => ?_)
          · exact (Hid.out hHeld).sto xd xn AN.out HG8.out
          clear hK K
          have AN2 := hide (AN.out.row (noC xd xn).toArray); have OU2 := hide (OU.out.kept (grown_row _ g8 (noC xd xn).toArray) (.inr (own_ne_arr OU.out AN.out (by decide)))); obtain ⟨qu, cu, rfl, hqu, hqb⟩ := own_piece_n OU2.out HUL.out HUB.out; have PU := hide hqu; have HQB := hide hqb; clear hqu hqb
          try simp only [Act.put, List.setIfInBounds_toArray, List.set_cons_zero, List.set_cons_succ]
          refine take_dstH (i := 13) (d := 9) (v := ?_) rfl rfl (by kernel_rfl) (by kernel_rfl) (by kernel_rfl) (fun _ _ _ h => h) (by rfl) hHeld ?_ ?_
          rotate_left
          · intro wZ hSw; clear hSw; go_simp; first | (with_reducible rfl) | (rw [if_pos (by omega)]; with_reducible rfl) | skip
          try simp only [Act.put, List.setIfInBounds_toArray, List.set_cons_zero, List.set_cons_succ]
          refine take_dstH (i := 14) (d := 10) (v := ?_) rfl rfl (by kernel_rfl) (by kernel_rfl) (by kernel_rfl) (fun _ _ _ h => h) (by rfl) hHeld ?_ ?_
          rotate_left
          · intro wZ hSw; clear hSw; go_simp; first | (with_reducible rfl) | (rw [if_pos (by omega)]; with_reducible rfl) | skip
          try simp only [Act.put, List.setIfInBounds_toArray, List.set_cons_zero, List.set_cons_succ]
          refine wpAnyH_done (by kernel_rfl) ?_ _
      rotate_left 2
      focus
        refine wp_alloc_no rfl rfl (fun g8 w8 hA8 hB8 hg8 => ?_); have AN := hide hA8; have HG8 : Hid (w3.heap.size ≤ g8) := Nat.le_trans (Hid.out hHeld).g.size hg8; have HSn : Hid (MkS W w3 code mark gb (n + 8) cb A w8) := (Hid.out hHeld).kept hB8; (try (replace PT := hide (PT.out.kept hB8))); (try (replace P5 := hide (P5.out.kept hB8))); (try (replace OU := hide (own_below OU.out hB8))); clear hA8 hB8 hg8
        refine hK.out _ _ ?_ (fun hHeld => ?_)
        · exact HSn
        clear hK K
        try simp only [Act.put, List.setIfInBounds_toArray, List.set_cons_zero, List.set_cons_succ]
        refine wpAnyH_ready (rs := [5]) (by kernel_rfl) (by simp) ?_
        refine (AllReadyH.cons rfl (fun K hK => ?_) AllReadyH.nil)
        refine wp_append_keeps (dd := 51) rfl (.tmp 47) (.tmp 50) rfl W.heap.size gb (n + 8) cb A rfl (Hid.out hHeld).b qt 16 ct G HGL.out (by omega) rfl PT.out.1 (by omega) (Hid.out hHeld).l.size (fun v5 w5 hown hgrow hkp => ?_); have HS5 : Hid (MkS W w3 code mark gb (n + 8) cb A w5) := (Hid.out hHeld).app hgrow hkp; obtain ⟨q5, c5, rfl, hq5, _⟩ := own_piece_n hown HAGL.out HAGB.out; have P5 := hide hq5; (try (replace AN := hide (AN.out.keptR hgrow (own_ne_arr (Hid.out hHeld).b AN.out (by decide))))); clear hown hgrow hkp hq5
        refine hK.out _ _ ?_ (fun hHeld => ?_)
        · exact HS5
        clear hK K
        try simp only [Act.put, List.setIfInBounds_toArray, List.set_cons_zero, List.set_cons_succ]
        refine wpAnyH_ready (rs := [6]) (by kernel_rfl) (by simp) ?_
        refine (AllReadyH.cons rfl (fun K hK => ?_) AllReadyH.nil)
        go_simp
        refine (HO1.out _ _ _ (Hid.out hHeld).l P5.out).mono ?_; rintro e wb ⟨u, rfl, hou, hbb⟩; have OU : Hid (wb.ownsRow (gb + 1) 5 1 u n (u8s U)) := own_base hou (Nat.succ_le_of_lt (own_at_lt (Hid.out hHeld).b).2); have HSb : Hid (MkS W w3 code mark gb (n + 8) cb A wb) := (Hid.out hHeld).kept hbb; (try (replace AN := hide (AN.out.kept hbb))); clear hou hbb
        go_wp2_with fail
        refine hK.out _ _ ?_ (fun hHeld => ?_)
        · exact HSb
        clear hK K
        try simp only [Act.put, List.setIfInBounds_toArray, List.set_cons_zero, List.set_cons_succ]
        refine take_dstH (i := 7) (d := 45) (v := ?_) rfl rfl (by kernel_rfl) (by kernel_rfl) (by kernel_rfl) (fun _ _ _ h => h) (by rfl) hHeld ?_ ?_
        rotate_left
        · intro wZ hSw; clear hSw; go_simp; first | (with_reducible rfl) | (rw [if_pos (by omega)]; with_reducible rfl) | skip
        try simp only [Act.put, List.setIfInBounds_toArray, List.set_cons_zero, List.set_cons_succ]
        refine take_dstH (i := 8) (d := 53) (v := ?_) rfl rfl (by kernel_rfl) (by kernel_rfl) (by kernel_rfl) (fun _ _ _ h => h) (by rfl) hHeld ?_ ?_
        rotate_left
        · intro wZ hSw; clear hSw; go_simp; first | (with_reducible rfl) | (rw [if_pos (by omega)]; with_reducible rfl) | skip
        try simp only [Act.put, List.setIfInBounds_toArray, List.set_cons_zero, List.set_cons_succ]
        refine take_dstH (i := 9) (d := 54) (v := ?_) rfl rfl (by kernel_rfl) (by kernel_rfl) (by kernel_rfl) (fun _ _ _ h => h) (by rfl) hHeld ?_ ?_
        rotate_left
        · intro wZ hSw; clear hSw; go_simp; first | (with_reducible rfl) | (rw [if_pos (by omega)]; with_reducible rfl) | skip
        try simp only [Act.put, List.setIfInBounds_toArray, List.set_cons_zero, List.set_cons_succ]
        refine take_dstH (i := 10) (d := 55) (v := ?_) rfl rfl (by kernel_rfl) (by kernel_rfl) (by kernel_rfl) (fun _ _ _ h => h) (by rfl) hHeld ?_ ?_
        rotate_left
        · intro wZ hSw; clear hSw; go_simp; first | (with_reducible rfl) | (rw [if_pos (by omega)]; with_reducible rfl) | skip
        try simp only [Act.put, List.setIfInBounds_toArray, List.set_cons_zero, List.set_cons_succ]
        refine wpAnyH_ready (rs := [12]) (by kernel_rfl) (by simp) ?_
        refine (AllReadyH.cons rfl (fun K hK => ?_) AllReadyH.nil)
        refine wp_store_dst rfl 24 (.tmp 8) (.tmp 53) rfl g8 (noC xd xn).toArray rfl rfl 24 _ AN.out infoN rfl (one_noC _ _) ?_
        refine hK.out _ _ ?_ (fun hHeld => ?_)
        · exact (Hid.out hHeld).sto xd xn AN.out HG8.out
        clear hK K
        have AN2 := hide (AN.out.row (noC xd xn).toArray); have OU2 := hide (OU.out.kept (grown_row _ g8 (noC xd xn).toArray) (.inr (own_ne_arr OU.out AN.out (by decide)))); obtain ⟨qu, cu, rfl, hqu, hqb⟩ := own_piece_n OU2.out HUL.out HUB.out; have PU := hide hqu; have HQB := hide hqb; clear hqu hqb
        try simp only [Act.put, List.setIfInBounds_toArray, List.set_cons_zero, List.set_cons_succ]
        refine take_dstH (i := 13) (d := 9) (v := ?_) rfl rfl (by kernel_rfl) (by kernel_rfl) (by kernel_rfl) (fun _ _ _ h => h) (by rfl) hHeld ?_ ?_
        rotate_left
        · intro wZ hSw; clear hSw; go_simp; first | (with_reducible rfl) | (rw [if_pos (by omega)]; with_reducible rfl) | skip
        try simp only [Act.put, List.setIfInBounds_toArray, List.set_cons_zero, List.set_cons_succ]
        refine take_dstH (i := 14) (d := 10) (v := ?_) rfl rfl (by kernel_rfl) (by kernel_rfl) (by kernel_rfl) (fun _ _ _ h => h) (by rfl) hHeld ?_ ?_
        rotate_left
        · intro wZ hSw; clear hSw; go_simp; first | (with_reducible rfl) | (rw [if_pos (by omega)]; with_reducible rfl) | skip
        try simp only [Act.put, List.setIfInBounds_toArray, List.set_cons_zero, List.set_cons_succ]
        refine wpAnyH_done (by kernel_rfl) ?_ _
    rotate_left 3
    focus
      refine wp_alloc_no rfl rfl (fun g8 w8 hA8 hB8 hg8 => ?_); have AN := hide hA8; have HG8 : Hid (w3.heap.size ≤ g8) := Nat.le_trans (Hid.out hHeld).g.size hg8; have HSn : Hid (MkS W w3 code mark gb (n + 8) cb A w8) := (Hid.out hHeld).kept hB8; (try (replace PT := hide (PT.out.kept hB8))); (try (replace P5 := hide (P5.out.kept hB8))); (try (replace OU := hide (own_below OU.out hB8))); clear hA8 hB8 hg8
      refine hK.out _ _ ?_ (fun hHeld => ?_)
      · exact HSn
      clear hK K
      try simp only [Act.put, List.setIfInBounds_toArray, List.set_cons_zero, List.set_cons_succ]
      refine wpAnyH_ready (rs := [4]) (by kernel_rfl) (by simp) ?_
      refine (AllReadyH.cons rfl (fun K hK => ?_) AllReadyH.nil)
      go_simp
      refine (HTG.out _ _ _ (own_at (Hid.out hHeld).b HAL.out HAB.out)).mono ?_; rintro e wa ⟨u, rfl, hou, hba⟩; obtain ⟨qt, ct, rfl, hqt, _⟩ := own_piece_n hou HGL.out HGB.out; have PT := hide hqt; have HSa : Hid (MkS W w3 code mark gb (n + 8) cb A wa) := (Hid.out hHeld).kept hba; (try (replace AN := hide (AN.out.kept hba))); clear hou hba hqt
      go_wp2_with fail
      refine hK.out _ _ ?_ (fun hHeld => ?_)
      · exact HSa
      clear hK K
      try simp only [Act.put, List.setIfInBounds_toArray, List.set_cons_zero, List.set_cons_succ]
      refine wpAnyH_ready (rs := [5]) (by kernel_rfl) (by simp) ?_
      refine (AllReadyH.cons rfl (fun K hK => ?_) AllReadyH.nil)
      refine wp_append_keeps (dd := 51) rfl (.tmp 47) (.tmp 50) rfl W.heap.size gb (n + 8) cb A rfl (Hid.out hHeld).b qt 16 ct G HGL.out (by omega) rfl PT.out.1 (by omega) (Hid.out hHeld).l.size (fun v5 w5 hown hgrow hkp => ?_); have HS5 : Hid (MkS W w3 code mark gb (n + 8) cb A w5) := (Hid.out hHeld).app hgrow hkp; obtain ⟨q5, c5, rfl, hq5, _⟩ := own_piece_n hown HAGL.out HAGB.out; have P5 := hide hq5; (try (replace AN := hide (AN.out.keptR hgrow (own_ne_arr (Hid.out hHeld).b AN.out (by decide))))); clear hown hgrow hkp hq5
      refine hK.out _ _ ?_ (fun hHeld => ?_)
      · exact HS5
      clear hK K
      try simp only [Act.put, List.setIfInBounds_toArray, List.set_cons_zero, List.set_cons_succ]
      refine wpAnyH_ready (rs := [6]) (by kernel_rfl) (by simp) ?_
      refine (AllReadyH.cons rfl (fun K hK => ?_) AllReadyH.nil)
      go_simp
      refine (HO1.out _ _ _ (Hid.out hHeld).l P5.out).mono ?_; rintro e wb ⟨u, rfl, hou, hbb⟩; have OU : Hid (wb.ownsRow (gb + 1) 5 1 u n (u8s U)) := own_base hou (Nat.succ_le_of_lt (own_at_lt (Hid.out hHeld).b).2); have HSb : Hid (MkS W w3 code mark gb (n + 8) cb A wb) := (Hid.out hHeld).kept hbb; (try (replace AN := hide (AN.out.kept hbb))); clear hou hbb
      go_wp2_with fail
      refine hK.out _ _ ?_ (fun hHeld => ?_)
      · exact HSb
      clear hK K
      try simp only [Act.put, List.setIfInBounds_toArray, List.set_cons_zero, List.set_cons_succ]
      refine take_dstH (i := 7) (d := 45) (v := ?_) rfl rfl (by kernel_rfl) (by kernel_rfl) (by kernel_rfl) (fun _ _ _ h => h) (by rfl) hHeld ?_ ?_
      rotate_left
      · intro wZ hSw; clear hSw; go_simp; first | (with_reducible rfl) | (rw [if_pos (by omega)]; with_reducible rfl) | skip
      try simp only [Act.put, List.setIfInBounds_toArray, List.set_cons_zero, List.set_cons_succ]
      refine take_dstH (i := 8) (d := 53) (v := ?_) rfl rfl (by kernel_rfl) (by kernel_rfl) (by kernel_rfl) (fun _ _ _ h => h) (by rfl) hHeld ?_ ?_
      rotate_left
      · intro wZ hSw; clear hSw; go_simp; first | (with_reducible rfl) | (rw [if_pos (by omega)]; with_reducible rfl) | skip
      try simp only [Act.put, List.setIfInBounds_toArray, List.set_cons_zero, List.set_cons_succ]
      refine take_dstH (i := 9) (d := 54) (v := ?_) rfl rfl (by kernel_rfl) (by kernel_rfl) (by kernel_rfl) (fun _ _ _ h => h) (by rfl) hHeld ?_ ?_
      rotate_left
      · intro wZ hSw; clear hSw; go_simp; first | (with_reducible rfl) | (rw [if_pos (by omega)]; with_reducible rfl) | skip
      try simp only [Act.put, List.setIfInBounds_toArray, List.set_cons_zero, List.set_cons_succ]
      refine take_dstH (i := 10) (d := 55) (v := ?_) rfl rfl (by kernel_rfl) (by kernel_rfl) (by kernel_rfl) (fun _ _ _ h => h) (by rfl) hHeld ?_ ?_
      rotate_left
      · intro wZ hSw; clear hSw; go_simp; first | (with_reducible rfl) | (rw [if_pos (by omega)]; with_reducible rfl) | skip
      try simp only [Act.put, List.setIfInBounds_toArray, List.set_cons_zero, List.set_cons_succ]
      refine wpAnyH_ready (rs := [12]) (by kernel_rfl) (by simp) ?_
      refine (AllReadyH.cons rfl (fun K hK => ?_) AllReadyH.nil)
      refine wp_store_dst rfl 24 (.tmp 8) (.tmp 53) rfl g8 (noC xd xn).toArray rfl rfl 24 _ AN.out infoN rfl (one_noC _ _) ?_
      refine hK.out _ _ ?_ (fun hHeld => ?_)
      · exact (Hid.out hHeld).sto xd xn AN.out HG8.out
      clear hK K
      have AN2 := hide (AN.out.row (noC xd xn).toArray); have OU2 := hide (OU.out.kept (grown_row _ g8 (noC xd xn).toArray) (.inr (own_ne_arr OU.out AN.out (by decide)))); obtain ⟨qu, cu, rfl, hqu, hqb⟩ := own_piece_n OU2.out HUL.out HUB.out; have PU := hide hqu; have HQB := hide hqb; clear hqu hqb
      try simp only [Act.put, List.setIfInBounds_toArray, List.set_cons_zero, List.set_cons_succ]
      refine take_dstH (i := 13) (d := 9) (v := ?_) rfl rfl (by kernel_rfl) (by kernel_rfl) (by kernel_rfl) (fun _ _ _ h => h) (by rfl) hHeld ?_ ?_
      rotate_left
      · intro wZ hSw; clear hSw; go_simp; first | (with_reducible rfl) | (rw [if_pos (by omega)]; with_reducible rfl) | skip
      try simp only [Act.put, List.setIfInBounds_toArray, List.set_cons_zero, List.set_cons_succ]
      refine take_dstH (i := 14) (d := 10) (v := ?_) rfl rfl (by kernel_rfl) (by kernel_rfl) (by kernel_rfl) (fun _ _ _ h => h) (by rfl) hHeld ?_ ?_
      rotate_left
      · intro wZ hSw; clear hSw; go_simp; first | (with_reducible rfl) | (rw [if_pos (by omega)]; with_reducible rfl) | skip
      try simp only [Act.put, List.setIfInBounds_toArray, List.set_cons_zero, List.set_cons_succ]
      refine wpAnyH_done (by kernel_rfl) ?_ _
    all_goals
      go_wp2_with fail
      go_meet
      case rel => exact ⟨g8, qu, cu, rfl, rfl, rfl, Hid.out hHeld, AN2.out, PU.out, fun a ha => (HQB.out a ha).1⟩
  case rest =>
    obtain ⟨g8, qu, cu, rfl, rfl, rfl, H6⟩ := hcut
    clear M4
    obtain ⟨wS, hwS⟩ : ∃ wS, wS = wc := ⟨_, rfl⟩
    subst hwS
    have M5 : Hid (MkS W wS code mark gb (n + 8) cb A wS) := ⟨H6.out.1.k, H6.out.1.b, H6.out.1.l, grown_refl _ _, H6.out.1.l.size⟩
    go_upto_region 7 with fail
    go_cut [11, 12, 13] (fun s8 s9 s10 wx => ∃ g8 qu cu, s8 = .pointer (some ⟨g8, 0, none⟩) ∧ s9 = .slice qu n cu ∧ s10 = .int .i64 0 ∧ Hid (MkS W wS code mark gb (n + 8) cb A wx ∧ Arr wx g8 24 (noC xd xn) ∧ Piece wx qu cu U ∧ ∀ a, qu = some a → gb + 1 ≤ a.block))
    case first =>
      refine wp_region_held_drew (S := fun v => Hid (MkS W wS code mark gb (n + 8) cb A v)) (by kernel_rfl) (hide M5.out.drew) (fun hHeld => ?_)
      refine take_dstH (i := 0) (d := 57) (v := ?_) rfl rfl (by kernel_rfl) (by kernel_rfl) (by kernel_rfl) (fun _ _ _ h => h) (by rfl) hHeld ?_ ?_
      rotate_left
      · intro wZ hSw; refine exec_load_all 34 (.tmp 3) ?_ W.heap.size ?_ 34 (kCells code mark) _ (Hid.out hSw).k Tryd.underlying34 rfl IK.out <;> rfl
      try simp only [Act.put, List.setIfInBounds_toArray, List.set_cons_zero, List.set_cons_succ]
      refine take_dstH (i := 1) (d := 58) (v := ?_) rfl rfl (by kernel_rfl) (by kernel_rfl) (by kernel_rfl) (fun _ _ _ h => h) (by rfl) hHeld ?_ ?_
      rotate_left
      · intro wZ hSw; clear hSw; go_simp; first | (with_reducible rfl) | (rw [if_pos (by omega)]; with_reducible rfl) | skip
      try simp only [Act.put, List.setIfInBounds_toArray, List.set_cons_zero, List.set_cons_succ]
      refine take_dstH (i := 2) (d := 59) (v := ?_) rfl rfl (by kernel_rfl) (by kernel_rfl) (by kernel_rfl) (fun _ _ _ h => h) (by rfl) hHeld ?_ ?_
      rotate_left
      · intro wZ hSw; refine exec_load_all 34 (.tmp 3) ?_ W.heap.size ?_ 34 (kCells code mark) _ (Hid.out hSw).k Tryd.underlying34 rfl IK.out <;> rfl
      try simp only [Act.put, List.setIfInBounds_toArray, List.set_cons_zero, List.set_cons_succ]
      refine take_dstH (i := 3) (d := 60) (v := ?_) rfl rfl (by kernel_rfl) (by kernel_rfl) (by kernel_rfl) (fun _ _ _ h => h) (by rfl) hHeld ?_ ?_
      rotate_left
      · intro wZ hSw; clear hSw; go_simp; first | (with_reducible rfl) | (rw [if_pos (by omega)]; with_reducible rfl) | skip
      try simp only [Act.put, List.setIfInBounds_toArray, List.set_cons_zero, List.set_cons_succ]
      refine wpAnyH_ready (rs := [4, 11]) (by kernel_rfl) (by simp) ?_
      refine (AllReadyH.cons rfl (fun K hK => ?_) (AllReadyH.cons rfl (fun K hK => ?_) AllReadyH.nil))
      focus
        go_simp
        refine (HTG.out _ _ _ (own_at (Hid.out hHeld).b HAL.out HAB.out)).mono ?_; rintro e wa ⟨u, rfl, hou, hba⟩; obtain ⟨qt, ct, rfl, hqt, _⟩ := own_piece_n hou HGL.out HGB.out; have PT := hide hqt; have HSa : Hid (MkS W wS code mark gb (n + 8) cb A wa) := (Hid.out hHeld).kept hba; (try (replace AN := hide (AN.out.kept hba))); clear hou hba hqt
        go_wp2_with fail
        refine hK.out _ _ ?_ (fun hHeld => ?_)
        · exact HSa
        clear hK K
        try simp only [Act.put, List.setIfInBounds_toArray, List.set_cons_zero, List.set_cons_succ]
        refine wpAnyH_ready (rs := [5, 11]) (by kernel_rfl) (by simp) ?_
        refine (AllReadyH.cons rfl (fun K hK => ?_) (AllReadyH.cons rfl (fun K hK => ?_) AllReadyH.nil))
        focus
          refine wp_append_keeps (dd := 62) rfl (.tmp 58) (.tmp 61) rfl W.heap.size gb (n + 8) cb A rfl (Hid.out hHeld).b qt 16 ct G HGL.out (by omega) rfl PT.out.1 (by omega) (Hid.out hHeld).l.size (fun v5 w5 hown hgrow hkp => ?_); have HS5 : Hid (MkS W wS code mark gb (n + 8) cb A w5) := (Hid.out hHeld).app hgrow hkp; obtain ⟨q5, c5, rfl, hq5, _⟩ := own_piece_n hown HAGL.out HAGB.out; have P5 := hide hq5; (try (replace AN := hide (AN.out.keptR hgrow (own_ne_arr (Hid.out hHeld).b AN.out (by decide))))); clear hown hgrow hkp hq5
          refine hK.out _ _ ?_ (fun hHeld => ?_)
          · exact HS5
          clear hK K
          try simp only [Act.put, List.setIfInBounds_toArray, List.set_cons_zero, List.set_cons_succ]
          refine wpAnyH_ready (rs := [6, 11]) (by kernel_rfl) (by simp) ?_
          refine (AllReadyH.cons rfl (fun K hK => ?_) (AllReadyH.cons rfl (fun K hK => ?_) AllReadyH.nil))
          focus
            go_simp
            refine (HO2.out _ _ _ (Hid.out hHeld).l P5.out).mono ?_; rintro e wb ⟨u, rfl, hou, hbb⟩; have OU : Hid (wb.ownsRow (gb + 1) 5 1 u n (u8s U)) := own_base hou (Nat.succ_le_of_lt (own_at_lt (Hid.out hHeld).b).2); have HSb : Hid (MkS W wS code mark gb (n + 8) cb A wb) := (Hid.out hHeld).kept hbb; (try (replace AN := hide (AN.out.kept hbb))); clear hou hbb
            go_wp2_with fail
            refine hK.out _ _ ?_ (fun hHeld => ?_)
            · exact HSb
            clear hK K
            try simp only [Act.put, List.setIfInBounds_toArray, List.set_cons_zero, List.set_cons_succ]
            refine take_dstH (i := 7) (d := 56) (v := ?_) rfl rfl (by kernel_rfl) (by kernel_rfl) (by kernel_rfl) (fun _ _ _ h => h) (by rfl) hHeld ?_ ?_
            rotate_left
            · intro wZ hSw; clear hSw; go_simp; first | (with_reducible rfl) | (rw [if_pos (by omega)]; with_reducible rfl) | skip
            try simp only [Act.put, List.setIfInBounds_toArray, List.set_cons_zero, List.set_cons_succ]
            refine take_dstH (i := 8) (d := 64) (v := ?_) rfl rfl (by kernel_rfl) (by kernel_rfl) (by kernel_rfl) (fun _ _ _ h => h) (by rfl) hHeld ?_ ?_
            rotate_left
            · intro wZ hSw; clear hSw; go_simp; first | (with_reducible rfl) | (rw [if_pos (by omega)]; with_reducible rfl) | skip
            try simp only [Act.put, List.setIfInBounds_toArray, List.set_cons_zero, List.set_cons_succ]
            refine take_dstH (i := 9) (d := 65) (v := ?_) rfl rfl (by kernel_rfl) (by kernel_rfl) (by kernel_rfl) (fun _ _ _ h => h) (by rfl) hHeld ?_ ?_
            rotate_left
            · intro wZ hSw; clear hSw; go_simp; first | (with_reducible rfl) | (rw [if_pos (by omega)]; with_reducible rfl) | skip
            try simp only [Act.put, List.setIfInBounds_toArray, List.set_cons_zero, List.set_cons_succ]
            refine take_dstH (i := 10) (d := 66) (v := ?_) rfl rfl (by kernel_rfl) (by kernel_rfl) (by kernel_rfl) (fun _ _ _ h => h) (by rfl) hHeld ?_ ?_
            rotate_left
            · intro wZ hSw; clear hSw; go_simp; first | (with_reducible rfl) | (rw [if_pos (by omega)]; with_reducible rfl) | skip
            try simp only [Act.put, List.setIfInBounds_toArray, List.set_cons_zero, List.set_cons_succ]
            refine wpAnyH_ready (rs := [11]) (by kernel_rfl) (by simp) ?_
            refine (AllReadyH.cons rfl (fun K hK => ?_) AllReadyH.nil)
            refine wp_alloc_no rfl rfl (fun g8 w8 hA8 hB8 hg8 => ?_); have AN := hide hA8; have HG8 : Hid (wS.heap.size ≤ g8) := Nat.le_trans (Hid.out hHeld).g.size hg8; have HSn : Hid (MkS W wS code mark gb (n + 8) cb A w8) := (Hid.out hHeld).kept hB8; (try (replace PT := hide (PT.out.kept hB8))); (try (replace P5 := hide (P5.out.kept hB8))); (try (replace OU := hide (own_below OU.out hB8))); clear hA8 hB8 hg8
            refine hK.out _ _ ?_ (fun hHeld => ?_)
            · exact HSn
            clear hK K
            try simp only [Act.put, List.setIfInBounds_toArray, List.set_cons_zero, List.set_cons_succ]
            refine wpAnyH_ready (rs := [12]) (by kernel_rfl) (by simp) ?_
            refine (AllReadyH.cons rfl (fun K hK => ?_) AllReadyH.nil)
            refine wp_store_dst rfl 24 (.tmp 11) (.tmp 64) rfl g8 (noC xd xn).toArray rfl rfl 24 _ AN.out infoN rfl (one_noC _ _) ?_
            refine hK.out _ _ ?_ (fun hHeld => ?_)
            · exact (Hid.out hHeld).sto xd xn AN.out HG8.out
            clear hK K
            have AN2 := hide (AN.out.row (noC xd xn).toArray); have OU2 := hide (OU.out.kept (grown_row _ g8 (noC xd xn).toArray) (.inr (own_ne_arr OU.out AN.out (by decide)))); obtain ⟨qu, cu, rfl, hqu, hqb⟩ := own_piece_n OU2.out HUL.out HUB.out; have PU := hide hqu; have HQB := hide hqb; clear hqu hqb
            try simp only [Act.put, List.setIfInBounds_toArray, List.set_cons_zero, List.set_cons_succ]
            refine take_dstH (i := 13) (d := 12) (v := ?_) rfl rfl (by kernel_rfl) (by kernel_rfl) (by kernel_rfl) (fun _ _ _ h => h) (by rfl) hHeld ?_ ?_
            rotate_left
            · intro wZ hSw; clear hSw; go_simp; first | (with_reducible rfl) | (rw [if_pos (by omega)]; with_reducible rfl) | skip
            try simp only [Act.put, List.setIfInBounds_toArray, List.set_cons_zero, List.set_cons_succ]
            refine take_dstH (i := 14) (d := 13) (v := ?_) rfl rfl (by kernel_rfl) (by kernel_rfl) (by kernel_rfl) (fun _ _ _ h => h) (by rfl) hHeld ?_ ?_
            rotate_left
            · intro wZ hSw; clear hSw; go_simp; first | (with_reducible rfl) | (rw [if_pos (by omega)]; with_reducible rfl) | skip
            try simp only [Act.put, List.setIfInBounds_toArray, List.set_cons_zero, List.set_cons_succ]
            refine wpAnyH_done (by kernel_rfl) ?_ _
          rotate_left 1
          focus
            refine wp_alloc_no rfl rfl (fun g8 w8 hA8 hB8 hg8 => ?_); have AN := hide hA8; have HG8 : Hid (wS.heap.size ≤ g8) := Nat.le_trans (Hid.out hHeld).g.size hg8; have HSn : Hid (MkS W wS code mark gb (n + 8) cb A w8) := (Hid.out hHeld).kept hB8; (try (replace PT := hide (PT.out.kept hB8))); (try (replace P5 := hide (P5.out.kept hB8))); (try (replace OU := hide (own_below OU.out hB8))); clear hA8 hB8 hg8
            refine hK.out _ _ ?_ (fun hHeld => ?_)
            · exact HSn
            clear hK K
            try simp only [Act.put, List.setIfInBounds_toArray, List.set_cons_zero, List.set_cons_succ]
            refine wpAnyH_ready (rs := [6]) (by kernel_rfl) (by simp) ?_
            refine (AllReadyH.cons rfl (fun K hK => ?_) AllReadyH.nil)
            go_simp
            refine (HO2.out _ _ _ (Hid.out hHeld).l P5.out).mono ?_; rintro e wb ⟨u, rfl, hou, hbb⟩; have OU : Hid (wb.ownsRow (gb + 1) 5 1 u n (u8s U)) := own_base hou (Nat.succ_le_of_lt (own_at_lt (Hid.out hHeld).b).2); have HSb : Hid (MkS W wS code mark gb (n + 8) cb A wb) := (Hid.out hHeld).kept hbb; (try (replace AN := hide (AN.out.kept hbb))); clear hou hbb
            go_wp2_with fail
            refine hK.out _ _ ?_ (fun hHeld => ?_)
            · exact HSb
            clear hK K
            try simp only [Act.put, List.setIfInBounds_toArray, List.set_cons_zero, List.set_cons_succ]
            refine take_dstH (i := 7) (d := 56) (v := ?_) rfl rfl (by kernel_rfl) (by kernel_rfl) (by kernel_rfl) (fun _ _ _ h => h) (by rfl) hHeld ?_ ?_
            rotate_left
            · intro wZ hSw; clear hSw; go_simp; first | (with_reducible rfl) | (rw [if_pos (by omega)]; with_reducible rfl) | skip
            try simp only [Act.put, List.setIfInBounds_toArray, List.set_cons_zero, List.set_cons_succ]
            refine take_dstH (i := 8) (d := 64) (v := ?_) rfl rfl (by kernel_rfl) (by kernel_rfl) (by kernel_rfl) (fun _ _ _ h => h) (by rfl) hHeld ?_ ?_
            rotate_left
            · intro wZ hSw; clear hSw; go_simp; first | (with_reducible rfl) | (rw [if_pos (by omega)]; with_reducible rfl) | skip
            try simp only [Act.put, List.setIfInBounds_toArray, List.set_cons_zero, List.set_cons_succ]
            refine take_dstH (i := 9) (d := 65) (v := ?_) rfl rfl (by kernel_rfl) (by kernel_rfl) (by kernel_rfl) (fun _ _ _ h => h) (by rfl) hHeld ?_ ?_
            rotate_left
            · intro wZ hSw; clear hSw; go_simp; first | (with_reducible rfl) | (rw [if_pos (by omega)]; with_reducible rfl) | skip
            try simp only [Act.put, List.setIfInBounds_toArray, List.set_cons_zero, List.set_cons_succ]
            refine take_dstH (i := 10) (d := 66) (v := ?_) rfl rfl (by kernel_rfl) (by kernel_rfl) (by kernel_rfl) (fun _ _ _ h => h) (by rfl) hHeld ?_ ?_
            rotate_left
            · intro wZ hSw; clear hSw; go_simp; first | (with_reducible rfl) | (rw [if_pos (by omega)]; with_reducible rfl) | skip
            try simp only [Act.put, List.setIfInBounds_toArray, List.set_cons_zero, List.set_cons_succ]
            refine wpAnyH_ready (rs := [12]) (by kernel_rfl) (by simp) ?_
            refine (AllReadyH.cons rfl (fun K hK => ?_) AllReadyH.nil)
            refine wp_store_dst rfl 24 (.tmp 11) (.tmp 64) rfl g8 (noC xd xn).toArray rfl rfl 24 _ AN.out infoN rfl (one_noC _ _) ?_
            refine hK.out _ _ ?_ (fun hHeld => ?_)
            · exact (Hid.out hHeld).sto xd xn AN.out HG8.out
            clear hK K
            have AN2 := hide (AN.out.row (noC xd xn).toArray); have OU2 := hide (OU.out.kept (grown_row _ g8 (noC xd xn).toArray) (.inr (own_ne_arr OU.out AN.out (by decide)))); obtain ⟨qu, cu, rfl, hqu, hqb⟩ := own_piece_n OU2.out HUL.out HUB.out; have PU := hide hqu; have HQB := hide hqb; clear hqu hqb
            try simp only [Act.put, List.setIfInBounds_toArray, List.set_cons_zero, List.set_cons_succ]
            refine take_dstH (i := 13) (d := 12) (v := ?_) rfl rfl (by kernel_rfl) (by kernel_rfl) (by kernel_rfl) (fun _ _ _ h => h) (by rfl) hHeld ?_ ?_
            rotate_left
            · intro wZ hSw; clear hSw; go_simp; first | (with_reducible rfl) | (rw [if_pos (by omega)]; with_reducible rfl) | skip
            try simp only [Act.put, List.setIfInBounds_toArray, List.set_cons_zero, List.set_cons_succ]
            refine take_dstH (i := 14) (d := 13) (v := ?_) rfl rfl (by kernel_rfl) (by kernel_rfl) (by kernel_rfl) (fun _ _ _ h => h) (by rfl) hHeld ?_ ?_
            rotate_left
            · intro wZ hSw; clear hSw; go_simp; first | (with_reducible rfl) | (rw [if_pos (by omega)]; with_reducible rfl) | skip
            try simp only [Act.put, List.setIfInBounds_toArray, List.set_cons_zero, List.set_cons_succ]
            refine wpAnyH_done (by kernel_rfl) ?_ _
        rotate_left 2
        focus
          refine wp_alloc_no rfl rfl (fun g8 w8 hA8 hB8 hg8 => ?_); have AN := hide hA8; have HG8 : Hid (wS.heap.size ≤ g8) := Nat.le_trans (Hid.out hHeld).g.size hg8; have HSn : Hid (MkS W wS code mark gb (n + 8) cb A w8) := (Hid.out hHeld).kept hB8; (try (replace PT := hide (PT.out.kept hB8))); (try (replace P5 := hide (P5.out.kept hB8))); (try (replace OU := hide (own_below OU.out hB8))); clear hA8 hB8 hg8
          refine hK.out _ _ ?_ (fun hHeld => ?_)
          · exact HSn
          clear hK K
          try simp only [Act.put, List.setIfInBounds_toArray, List.set_cons_zero, List.set_cons_succ]
          refine wpAnyH_ready (rs := [5]) (by kernel_rfl) (by simp) ?_
          refine (AllReadyH.cons rfl (fun K hK => ?_) AllReadyH.nil)
          refine wp_append_keeps (dd := 62) rfl (.tmp 58) (.tmp 61) rfl W.heap.size gb (n + 8) cb A rfl (Hid.out hHeld).b qt 16 ct G HGL.out (by omega) rfl PT.out.1 (by omega) (Hid.out hHeld).l.size (fun v5 w5 hown hgrow hkp => ?_); have HS5 : Hid (MkS W wS code mark gb (n + 8) cb A w5) := (Hid.out hHeld).app hgrow hkp; obtain ⟨q5, c5, rfl, hq5, _⟩ := own_piece_n hown HAGL.out HAGB.out; have P5 := hide hq5; (try (replace AN := hide (AN.out.keptR hgrow (own_ne_arr (Hid.out hHeld).b AN.out (by decide))))); clear hown hgrow hkp hq5
          refine hK.out _ _ ?_ (fun hHeld => ?_)
          · exact HS5
          clear hK K
          try simp only [Act.put, List.setIfInBounds_toArray, List.set_cons_zero, List.set_cons_succ]
          refine wpAnyH_ready (rs := [6]) (by kernel_rfl) (by simp) ?_
          refine (AllReadyH.cons rfl (fun K hK => ?_) AllReadyH.nil)
          go_simp
          refine (HO2.out _ _ _ (Hid.out hHeld).l P5.out).mono ?_; rintro e wb ⟨u, rfl, hou, hbb⟩; have OU : Hid (wb.ownsRow (gb + 1) 5 1 u n (u8s U)) := own_base hou (Nat.succ_le_of_lt (own_at_lt (Hid.out hHeld).b).2); have HSb : Hid (MkS W wS code mark gb (n + 8) cb A wb) := (Hid.out hHeld).kept hbb; (try (replace AN := hide (AN.out.kept hbb))); clear hou hbb
          go_wp2_with fail
          refine hK.out _ _ ?_ (fun hHeld => ?_)
          · exact HSb
          clear hK K
          try simp only [Act.put, List.setIfInBounds_toArray, List.set_cons_zero, List.set_cons_succ]
          refine take_dstH (i := 7) (d := 56) (v := ?_) rfl rfl (by kernel_rfl) (by kernel_rfl) (by kernel_rfl) (fun _ _ _ h => h) (by rfl) hHeld ?_ ?_
          rotate_left
          · intro wZ hSw; clear hSw; go_simp; first | (with_reducible rfl) | (rw [if_pos (by omega)]; with_reducible rfl) | skip
          try simp only [Act.put, List.setIfInBounds_toArray, List.set_cons_zero, List.set_cons_succ]
          refine take_dstH (i := 8) (d := 64) (v := ?_) rfl rfl (by kernel_rfl) (by kernel_rfl) (by kernel_rfl) (fun _ _ _ h => h) (by rfl) hHeld ?_ ?_
          rotate_left
          · intro wZ hSw; clear hSw; go_simp; first | (with_reducible rfl) | (rw [if_pos (by omega)]; with_reducible rfl) | skip
          try simp only [Act.put, List.setIfInBounds_toArray, List.set_cons_zero, List.set_cons_succ]
          refine take_dstH (i := 9) (d := 65) (v := ?_) rfl rfl (by kernel_rfl) (by kernel_rfl) (by kernel_rfl) (fun _ _ _ h => h) (by rfl) hHeld ?_ ?_
          rotate_left
          · intro wZ hSw; clear hSw; go_simp; first | (with_reducible rfl) | (rw [if_pos (by omega)]; with_reducible rfl) | skip
          try simp only [Act.put, List.setIfInBounds_toArray, List.set_cons_zero, List.set_cons_succ]
          refine take_dstH (i := 10) (d := 66) (v := ?_) rfl rfl (by kernel_rfl) (by kernel_rfl) (by kernel_rfl) (fun _ _ _ h => h) (by rfl) hHeld ?_ ?_
          rotate_left
          · intro wZ hSw; clear hSw; go_simp; first | (with_reducible rfl) | (rw [if_pos (by omega)]; with_reducible rfl) | skip
          try simp only [Act.put, List.setIfInBounds_toArray, List.set_cons_zero, List.set_cons_succ]
          refine wpAnyH_ready (rs := [12]) (by kernel_rfl) (by simp) ?_
          refine (AllReadyH.cons rfl (fun K hK => ?_) AllReadyH.nil)
          refine wp_store_dst rfl 24 (.tmp 11) (.tmp 64) rfl g8 (noC xd xn).toArray rfl rfl 24 _ AN.out infoN rfl (one_noC _ _) ?_
          refine hK.out _ _ ?_ (fun hHeld => ?_)
          · exact (Hid.out hHeld).sto xd xn AN.out HG8.out
          clear hK K
          have AN2 := hide (AN.out.row (noC xd xn).toArray); have OU2 := hide (OU.out.kept (grown_row _ g8 (noC xd xn).toArray) (.inr (own_ne_arr OU.out AN.out (by decide)))); obtain ⟨qu, cu, rfl, hqu, hqb⟩ := own_piece_n OU2.out HUL.out HUB.out; have PU := hide hqu; have HQB := hide hqb; clear hqu hqb
          try simp only [Act.put, List.setIfInBounds_toArray, List.set_cons_zero, List.set_cons_succ]
          refine take_dstH (i := 13) (d := 12) (v := ?_) rfl rfl (by kernel_rfl) (by kernel_rfl) (by kernel_rfl) (fun _ _ _ h => h) (by rfl) hHeld ?_ ?_
          rotate_left
          · intro wZ hSw; clear hSw; go_simp; first | (with_reducible rfl) | (rw [if_pos (by omega)]; with_reducible rfl) | skip
          try simp only [Act.put, List.setIfInBounds_toArray, List.set_cons_zero, List.set_cons_succ]
          refine take_dstH (i := 14) (d := 13) (v := ?_) rfl rfl (by kernel_rfl) (by kernel_rfl) (by kernel_rfl) (fun _ _ _ h => h) (by rfl) hHeld ?_ ?_
          rotate_left
          · intro wZ hSw; clear hSw; go_simp; first | (with_reducible rfl) | (rw [if_pos (by omega)]; with_reducible rfl) | skip
          try simp only [Act.put, List.setIfInBounds_toArray, List.set_cons_zero, List.set_cons_succ]
          refine wpAnyH_done (by kernel_rfl) ?_ _
      rotate_left 3
      focus
        refine wp_alloc_no rfl rfl (fun g8 w8 hA8 hB8 hg8 => ?_); have AN := hide hA8; have HG8 : Hid (wS.heap.size ≤ g8) := Nat.le_trans (Hid.out hHeld).g.size hg8; have HSn : Hid (MkS W wS code mark gb (n + 8) cb A w8) := (Hid.out hHeld).kept hB8; (try (replace PT := hide (PT.out.kept hB8))); (try (replace P5 := hide (P5.out.kept hB8))); (try (replace OU := hide (own_below OU.out hB8))); clear hA8 hB8 hg8
        refine hK.out _ _ ?_ (fun hHeld => ?_)
        · exact HSn
        clear hK K
        try simp only [Act.put, List.setIfInBounds_toArray, List.set_cons_zero, List.set_cons_succ]
        refine wpAnyH_ready (rs := [4]) (by kernel_rfl) (by simp) ?_
        refine (AllReadyH.cons rfl (fun K hK => ?_) AllReadyH.nil)
        go_simp
        refine (HTG.out _ _ _ (own_at (Hid.out hHeld).b HAL.out HAB.out)).mono ?_; rintro e wa ⟨u, rfl, hou, hba⟩; obtain ⟨qt, ct, rfl, hqt, _⟩ := own_piece_n hou HGL.out HGB.out; have PT := hide hqt; have HSa : Hid (MkS W wS code mark gb (n + 8) cb A wa) := (Hid.out hHeld).kept hba; (try (replace AN := hide (AN.out.kept hba))); clear hou hba hqt
        go_wp2_with fail
        refine hK.out _ _ ?_ (fun hHeld => ?_)
        · exact HSa
        clear hK K
        try simp only [Act.put, List.setIfInBounds_toArray, List.set_cons_zero, List.set_cons_succ]
        refine wpAnyH_ready (rs := [5]) (by kernel_rfl) (by simp) ?_
        refine (AllReadyH.cons rfl (fun K hK => ?_) AllReadyH.nil)
        refine wp_append_keeps (dd := 62) rfl (.tmp 58) (.tmp 61) rfl W.heap.size gb (n + 8) cb A rfl (Hid.out hHeld).b qt 16 ct G HGL.out (by omega) rfl PT.out.1 (by omega) (Hid.out hHeld).l.size (fun v5 w5 hown hgrow hkp => ?_); have HS5 : Hid (MkS W wS code mark gb (n + 8) cb A w5) := (Hid.out hHeld).app hgrow hkp; obtain ⟨q5, c5, rfl, hq5, _⟩ := own_piece_n hown HAGL.out HAGB.out; have P5 := hide hq5; (try (replace AN := hide (AN.out.keptR hgrow (own_ne_arr (Hid.out hHeld).b AN.out (by decide))))); clear hown hgrow hkp hq5
        refine hK.out _ _ ?_ (fun hHeld => ?_)
        · exact HS5
        clear hK K
        try simp only [Act.put, List.setIfInBounds_toArray, List.set_cons_zero, List.set_cons_succ]
        refine wpAnyH_ready (rs := [6]) (by kernel_rfl) (by simp) ?_
        refine (AllReadyH.cons rfl (fun K hK => ?_) AllReadyH.nil)
        go_simp
        refine (HO2.out _ _ _ (Hid.out hHeld).l P5.out).mono ?_; rintro e wb ⟨u, rfl, hou, hbb⟩; have OU : Hid (wb.ownsRow (gb + 1) 5 1 u n (u8s U)) := own_base hou (Nat.succ_le_of_lt (own_at_lt (Hid.out hHeld).b).2); have HSb : Hid (MkS W wS code mark gb (n + 8) cb A wb) := (Hid.out hHeld).kept hbb; (try (replace AN := hide (AN.out.kept hbb))); clear hou hbb
        go_wp2_with fail
        refine hK.out _ _ ?_ (fun hHeld => ?_)
        · exact HSb
        clear hK K
        try simp only [Act.put, List.setIfInBounds_toArray, List.set_cons_zero, List.set_cons_succ]
        refine take_dstH (i := 7) (d := 56) (v := ?_) rfl rfl (by kernel_rfl) (by kernel_rfl) (by kernel_rfl) (fun _ _ _ h => h) (by rfl) hHeld ?_ ?_
        rotate_left
        · intro wZ hSw; clear hSw; go_simp; first | (with_reducible rfl) | (rw [if_pos (by omega)]; with_reducible rfl) | skip
        try simp only [Act.put, List.setIfInBounds_toArray, List.set_cons_zero, List.set_cons_succ]
        refine take_dstH (i := 8) (d := 64) (v := ?_) rfl rfl (by kernel_rfl) (by kernel_rfl) (by kernel_rfl) (fun _ _ _ h => h) (by rfl) hHeld ?_ ?_
        rotate_left
        · intro wZ hSw; clear hSw; go_simp; first | (with_reducible rfl) | (rw [if_pos (by omega)]; with_reducible rfl) | skip
        try simp only [Act.put, List.setIfInBounds_toArray, List.set_cons_zero, List.set_cons_succ]
        refine take_dstH (i := 9) (d := 65) (v := ?_) rfl rfl (by kernel_rfl) (by kernel_rfl) (by kernel_rfl) (fun _ _ _ h => h) (by rfl) hHeld ?_ ?_
        rotate_left
        · intro wZ hSw; clear hSw; go_simp; first | (with_reducible rfl) | (rw [if_pos (by omega)]; with_reducible rfl) | skip
        try simp only [Act.put, List.setIfInBounds_toArray, List.set_cons_zero, List.set_cons_succ]
        refine take_dstH (i := 10) (d := 66) (v := ?_) rfl rfl (by kernel_rfl) (by kernel_rfl) (by kernel_rfl) (fun _ _ _ h => h) (by rfl) hHeld ?_ ?_
        rotate_left
        · intro wZ hSw; clear hSw; go_simp; first | (with_reducible rfl) | (rw [if_pos (by omega)]; with_reducible rfl) | skip
        try simp only [Act.put, List.setIfInBounds_toArray, List.set_cons_zero, List.set_cons_succ]
        refine wpAnyH_ready (rs := [12]) (by kernel_rfl) (by simp) ?_
        refine (AllReadyH.cons rfl (fun K hK => ?_) AllReadyH.nil)
        refine wp_store_dst rfl 24 (.tmp 11) (.tmp 64) rfl g8 (noC xd xn).toArray rfl rfl 24 _ AN.out infoN rfl (one_noC _ _) ?_
        refine hK.out _ _ ?_ (fun hHeld => ?_)
        · exact (Hid.out hHeld).sto xd xn AN.out HG8.out
        clear hK K
        have AN2 := hide (AN.out.row (noC xd xn).toArray); have OU2 := hide (OU.out.kept (grown_row _ g8 (noC xd xn).toArray) (.inr (own_ne_arr OU.out AN.out (by decide)))); obtain ⟨qu, cu, rfl, hqu, hqb⟩ := own_piece_n OU2.out HUL.out HUB.out; have PU := hide hqu; have HQB := hide hqb; clear hqu hqb
        try simp only [Act.put, List.setIfInBounds_toArray, List.set_cons_zero, List.set_cons_succ]
        refine take_dstH (i := 13) (d := 12) (v := ?_) rfl rfl (by kernel_rfl) (by kernel_rfl) (by kernel_rfl) (fun _ _ _ h => h) (by rfl) hHeld ?_ ?_
        rotate_left
        · intro wZ hSw; clear hSw; go_simp; first | (with_reducible rfl) | (rw [if_pos (by omega)]; with_reducible rfl) | skip
        try simp only [Act.put, List.setIfInBounds_toArray, List.set_cons_zero, List.set_cons_succ]
        refine take_dstH (i := 14) (d := 13) (v := ?_) rfl rfl (by kernel_rfl) (by kernel_rfl) (by kernel_rfl) (fun _ _ _ h => h) (by rfl) hHeld ?_ ?_
        rotate_left
        · intro wZ hSw; clear hSw; go_simp; first | (with_reducible rfl) | (rw [if_pos (by omega)]; with_reducible rfl) | skip
        try simp only [Act.put, List.setIfInBounds_toArray, List.set_cons_zero, List.set_cons_succ]
        refine wpAnyH_done (by kernel_rfl) ?_ _
      all_goals
        go_wp2_with fail
        go_meet
        case rel => exact ⟨g8, qu, cu, rfl, rfl, rfl, Hid.out hHeld, AN2.out, PU.out, fun a ha => (HQB.out a ha).1⟩
    case rest =>
      obtain ⟨g9, qv, cv, rfl, rfl, rfl, H7⟩ := hcut
      have A8 := hide (H6.out.2.1.keptR H7.out.1.g (own_ne_arr H6.out.1.b H6.out.2.1 (by decide)))
      have A9 := hide H7.out.2.1
      have PQ : Hid (Piece wc qu cu U) := ⟨bi_grown H6.out.2.2.1.1 H7.out.1.g (fun a ha _ => by have := H6.out.2.2.2 a ha; omega), H6.out.2.2.1.2⟩
      have BE := hide H7.out.1.l
      have cv1 := conv_any PQ.out.1 (c := cu) n HUL.out
      have cv2 := conv_any H7.out.2.2.1.1 (c := cv) n HUL.out
      clear H6 H7 M5 HTG HO1 HO2 HAB HAE HAGB
      go_wp2_with (first
        | (refine wpList_exec (by rfl) _ (exec_load_all 24 (.tmp 8) rfl g8 rfl 24 (noC xd xn) _ A8.out Tryd.underlying24 rfl infoN) ?_)
        | (refine wpList_exec (by rfl) _ (exec_load_all 24 (.tmp 11) rfl g9 rfl 24 (noC xd xn) _ A9.out Tryd.underlying24 rfl infoN) ?_)
        | (refine wpList_exec (by rfl) _ (exec_eql_agg 24 24 (.tmp 67) (.tmp 68) rfl #[Value.bool xd, Value.int .u64 (xn : Int)] #[Value.bool xd, Value.int .u64 (xn : Int)] rfl rfl true (guardN _ _ _ _ _) (E1.out _)) ?_))
      go_ret
      exact ⟨rfl, BE.out⟩

theorem paA_app (A G : List Nat) (hG : G.length = 16) : paA (A ++ G) = A := by
  have h : (A ++ G).length - 16 = A.length := by rw [List.length_append, hG]; omega
  rw [paA, h, List.take_left']; rfl
theorem paT_app (A G : List Nat) (hG : G.length = 16) : paT (A ++ G) = G := by
  have h : (A ++ G).length - 16 = A.length := by rw [List.length_append, hG]; omega
  rw [paT, h, List.drop_left']; rfl

theorem walk (code mark : List Nat) (z : Int) (p : Option Addr) (c : Nat) (hid : List Nat) (W : World) (hk : IsKey code mark) (hz : (Lit.int .u64 z).wf = true) (hP : Piece W p c hid) (hL : Laid W) :
    Calls Tryd.prog 6 #[keyV code mark, .int .u64 z, .slice p hid.length c] W fun r w' => r = .returned (.bool true) ∧ Below W.heap.size W w' := by
  obtain ⟨x, rfl, hx⟩ := wf_u64 hz
  have hL2 := hL.size
  have hLB : ∀ v, Below W.heap.size W v → Laid v := fun v hb => hL.keptB (B := W.heap.size) hL2 hb
  have hK : ∀ v, Below W.heap.size W v → Calls Tryd.prog 13 #[] v fun e w' => e = .returned (.bool true) ∧ Below v.heap.size v w' := fun v hb => known_any v (hLB v hb)
  by_cases hn : 1200 < hid.length
  · exact walk_long code mark x p c hid.length W hn hK
  have hA : (fx8 x ++ hid).length = hid.length + 8 := by rw [List.length_append, fx8_length]; omega
  have hAb : BytesN (fx8 x ++ hid) := bytes_append (fx8_bytes x) hP.2.2.1
  have hG := tgF_length mark (fx8 x ++ hid)
  have hAG : (fx8 x ++ hid ++ tgF mark (fx8 x ++ hid)).length = hid.length + 24 := by rw [List.length_append, hA, hG]
  have e1 : paA (fx8 x ++ hid ++ tgF mark (fx8 x ++ hid)) = fx8 x ++ hid := paA_app _ _ hG
  have e2 : paT (fx8 x ++ hid ++ tgF mark (fx8 x ++ hid)) = tgF mark (fx8 x ++ hid) := paT_app _ _ hG
  have e3 : paH (fx8 x ++ hid ++ tgF mark (fx8 x ++ hid)) = hid := by rw [paH, e1, List.drop_left' (fx8_length x)]
  have e4 : rd8 (fx8 x ++ hid ++ tgF mark (fx8 x ++ hid)) = x := by rw [List.append_assoc]; exact rd8_fx8 hx _
  have hU := hiF_length code x hid
  have hUb := hiF_bytes hk.c x hP.2.2.1
  refine walk_of code mark x p c hid.length hid (fx8 x ++ hid) (tgF mark (fx8 x ++ hid)) (hiF code x hid) (wD x) (wN x) W hk hP rfl (by omega) hx rfl hAb hG (tgF_bytes _ _) hU hUb hK (fun v q cq hq => rtag_any code mark q cq _ _ v hk hq hA (by omega)) (fun v q cq hb hq => ?_) (fun v q cq hb hq => ?_)
  · have h := open_ok code mark q cq hid.length _ v hk hq hAG (by omega) (hLB v hb)
    rw [e1, e2, e3, e4] at h
    simp only [decide_true, if_true] at h
    exact h.mono fun r w' ⟨⟨u, h1, h2⟩, h3⟩ => ⟨u, h1, h2, h3⟩
  · have h := ropen_ok code mark q cq hid.length _ v hk hq hAG (by omega)
    rw [e1, e2, e3, e4] at h
    simp only [decide_true, if_true] at h
    exact h.mono fun r w' ⟨⟨u, h1, h2⟩, h3⟩ => ⟨u, h1, h2, h3⟩

set_option maxRecDepth 100000 in
theorem lifted (os : Os) (started : os.Started) (H : Type) (enc : TypeId × Value → H) :
    ReturnsInHanded {} Tryd.checked os 6 .any (fun w args => (Rows.sealMadeSpec.pre enc Tryd.prog Tryd.f6 [] false w args ∧ laidMetH Tryd.prog laid2 w) ∧ sizedMet enc Tryd.prog Tryd.f6 (OpenSpec.ofChange Rows.sealMadeSpec) false w args)
      (Rows.sealMadeSpec.post enc Tryd.prog Tryd.f6 false true false false) := by
  refine returnsInHanded_of_change_and (C := Tryd.checked) (X := fun w _ => laidMetH Tryd.prog laid2 w) (fun _ _ _ hh h => h.of_heap hh) own started (by kernel_rfl) Tryd.func6
    (ChangeSpec.witness_shaped (enc := enc) (C := Tryd.checked) (os := os) (X := fun w _ => laidMetH Tryd.prog laid2 w) false (World.doorLaid Tryd.prog 400 os) #[.agg zeroK.toArray, .int .u64 0, .slice none 0 0] 8 rfl (World.shaped_of_RefB (by kernel_rfl) (by kernel_rfl)) (by kernel_rfl) (by kernel_rfl) (by kernel_rfl) (door_met os _)) ?_
  intro W base args ds gs before hval0 hW _ hsz hL _
  have hval : ∀ (j : Nat) t v, Tryd.f6.params[j]? = some t → args[j]? = some v → Value.okWide Tryd.prog W .any base t v := hval0
  have hW' := hW
  obtain ⟨p, q, hA0, hV, rfl, hfz, hnd⟩ := hW
  have hA : DataW.TrodAll enc Tryd.prog W 0 (fun _ => true) true Tryd.f6.params.toList args.toList ds p := hA0
  rw [Tryd.params6] at hA hval
  obtain ⟨v0, vs0, d0, ds0, p0, q0, hargs, rfl, rfl, h0, r0⟩ := trodAll_cons hA
  obtain ⟨v1, vs1, d1, ds1, p1, q1, rfl, rfl, rfl, h1, r1⟩ := trodAll_cons r0
  obtain ⟨v2, vs2, d2, ds2, p2, q2, rfl, rfl, rfl, h2, r2⟩ := trodAll_cons r1
  obtain ⟨rfl, rfl, rfl⟩ := trodAll_nil r2
  obtain rfl : args = #[v0, v1, v2] := by cases args; simp_all
  obtain ⟨rfl, rfl⟩ := trodVars_none hV
  have k0 := h0
  obtain ⟨x0, y0, rfl, w0, z0⟩ := open_key (hval 0 34 v0 rfl rfl) h0
  obtain ⟨a1, rfl, rfl, rfl, w1⟩ := open_int Tryd.underlying22 (hval 1 22 v1 rfl rfl) h1
  obtain ⟨a2, len2, cap2, rfl⟩ := okWide_slice Tryd.underlying35 (hval 2 35 v2 rfl rfl)
  have k2 := h2
  have lt2 : ∀ x ∈ p2, x.block < W.heap.size := by obtain ⟨m, hm⟩ := k2; exact DataW.trod_lt m _ _ _ hm
  obtain ⟨fuel2, hf2⟩ := h2
  obtain ⟨a2', cap2', x2, hcs2, w2⟩ := piece_of hf2
  simp [Value.cells] at hcs2
  obtain ⟨rfl, rfl, rfl⟩ := hcs2
  clear hf2
  clear hA0 hval0
  refine (walk x0 y0 a1 a2 cap2 x2 W w0 w1 w2 (of_laid hL)).mono fun e W' ⟨he, bel⟩ => ?_
  subst he
  exact ⟨_, rfl, _, _, _, [], _, [], hW', trodAll_mk1 (shut_bool Tryd.underlying4 _), (trodAll_cons_mk (Below.trod laidOut (by kernel_rfl) (of_decide_eq_true (by kernel_rfl)) k0 bel (fun x hx => (z0 x hx).elim)) (trodAll_cons_mk (shut_int Tryd.underlying22 w1) (trodAll_cons_mk (Below.trod laidOut (by kernel_rfl) (of_decide_eq_true (by kernel_rfl)) k2 bel lt2) trodAll_mk0))), rfl, bel.frame _, fun h => by cases h⟩

theorem row : Rows.SealMadeSaid :=
  OpenClaim.holds_of_wide 6 Tryd.f6 rfl rfl rfl rfl rfl rfl rfl ⟨rfl, rfl, rfl, rfl, rfl⟩ rfl rfl rfl rfl rfl (by kernel_rfl) Tryd.func6 (by kernel_rfl)
    (of_decide_eq_true (by kernel_rfl)) (by unfold Func.isWrapper; first | (rw [if_pos (by decide +kernel)]; kernel_rfl) | (rw [if_neg (by decide +kernel)]; exact ⟨rfl, rfl⟩))
    (fun os started H enc _ => lifted os started H enc)

theorem card : Rows.SealMadeCardSaid :=
  Claim7.holds_tied_plain_at .later [] [.data, .data] true (true, Rows.sealMadeCard.stood.harness.2) false
    row (fun _ h => by cases h) (by kernel_rfl) (fun _ h => by cases h) sealMade_row_tie rfl ⟨rfl, rfl⟩ (by kernel_rfl) rfl
    (fun f fn hf hfn => by
      obtain rfl : f = 6 := Option.some.inj ((show Tryd.prog.funcNamed "oriel/oriellaw06.SealMade" = some 6 by kernel_rfl).symm.trans hf) |>.symm
      obtain rfl : fn = Tryd.f6 := (Option.some.inj (Tryd.func6.symm.trans hfn)).symm
      exact ⟨by kernel_rfl, fun j t ht => by
        rw [Tryd.params6] at ht
        have hm : t ∈ [34, 22, 35] := by simpa using Array.mem_of_getElem? ht
        have hall : ([34, 22, 35].all fun u => !Tryd.prog.wantsStandIn u) = true := by kernel_rfl
        exact (show Tryd.prog.wantsStandIn t = false by simpa using List.all_eq_true.1 hall t hm)⟩)
    (by kernel_rfl)

end SealMadeProof

/-- Bytes with the tag that is theirs are opened: any nonce, any hidden text. -/
theorem sealMade_holds : Rows.SealMadeCardSaid := SealMadeProof.card

#print axioms sealMade_holds
end Go.Proofs.YtjiipiolckddnaaDoor
