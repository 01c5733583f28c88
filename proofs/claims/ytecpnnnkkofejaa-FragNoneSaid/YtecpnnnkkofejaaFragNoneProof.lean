/-
  FragNone: a joiner that is not there takes nothing; one that New did not make is as one that has met none: the law returns true. No condition.
-/
import Derived.Test.YtecpnnnkkofejaaGX
namespace Go.Proofs.Ytecpnnnkkofejaa
namespace FragNoneProof
open Go.ChangeShapes Go.WideShapes Go.ChangeAt Go.WideMaps Go.WideElems Go.RowKit Go.Maps
set_option linter.unusedVariables false
set_option linter.unusedSimpArgs false

set_option maxHeartbeats 1000000 in
set_option maxRecDepth 100000 in
theorem id_at (w : World) (g i : Nat) (j0 : w.cell? ⟨g, 0, none⟩ = some (.int .u64 (i : Int))) : Calls Try.prog 23 #[.pointer (some ⟨g, 0, none⟩)] w fun e w' => e = .returned (.int .u64 (i : Int)) ∧ w' = w := by
  go_enter Try.func23, Try.ntmps23
  go_wp2
  go_ret
  exact ⟨rfl, rfl⟩
theorem apt_low {w : World} {p : Option Addr} {c g : Nat} {b : List Nat} (h : Piece w p c b) (hg : w.heap.size ≤ g) : Apt p b g := by
  intro a ha hn e
  rcases h.1 with h0 | ⟨g', o, hp, hc⟩
  · exact hn h0
  · rw [ha] at hp
    cases hp
    have := block_lt_of_cell (hc 0 (List.length_pos_iff.2 hn))
    simp only at e this
    omega
theorem ob_grow {w w' : World} {S : Nat → Prop} {B : Nat} {p : Option Addr} {b : List Nat} (h : OB w B p b) (hg : Grow w w' S) (hS : ∀ k, S k → ∀ cs fr, w.heap[k]? ≠ some (.cells cs 5 fr)) : BR w' p b := by
  refine ⟨?_, h.1.2⟩
  by_cases hn : b = []
  · exact Or.inl hn
  rcases h.1.1 with h0 | ⟨g, o, rfl, hc⟩
  · exact Or.inl h0
  · obtain ⟨_, cs, fr, h2⟩ := h.2 _ rfl hn
    refine Or.inr ⟨g, o, rfl, fun i hi => ?_⟩
    have h1 := hc i hi
    rw [World.cell?_of_block (w := w) (hg.block g (block_lt_of_cell h1) (fun hs => hS g hs cs fr h2))]
    exact h1

theorem grow_below {w w' : World} {S : Nat → Prop} {B : Nat} (h : Grow w w' S) (hB : B ≤ w.heap.size) (hS : ∀ k, S k → B ≤ k) : Below B w w' :=
  ⟨h.os, h.tape, h.output, h.size, fun k hk => h.block k (by omega) (fun hs => by have := hS k hs; omega)⟩
theorem rp_none {w : World} {B g : Nat} (h : Arr w g 45 [.bool false, .bool false, .int .u64 0, .int .i64 0, .slice none 0 0]) : RP w B g Js.none :=
  ⟨none, 0, [], ⟨h, World.ownsRow_nil _ _ _ _, fun k hk => by cases hk⟩, rfl⟩
theorem pp_none {w : World} {g : Nat} (h : Arr w g 55 [.int .u64 0, .bool false, .int .i64 0, .map none]) : PP w g Js.none :=
  ⟨⟨none, [], ⟨h, List.Pairwise.nil, rfl, fun k hk => by cases hk⟩, rfl⟩, fun _ => rfl⟩
theorem rp_arr {w : World} {B g : Nat} {s : Js} (h : RP w B g s) : ∃ q n d, Arr w g 45 [.bool s.met, .bool s.done, .int .u64 (s.i : Int), .int .i64 (s.must : Int), .slice q n d] := by
  obtain ⟨q, d, ks, h1, _⟩ := h
  exact ⟨q, _, d, h1.j⟩
theorem pp_arr {w : World} {g : Nat} {s : Js} (h : PP w g s) : ∃ q, Arr w g 55 [.int .u64 (s.i : Int), .bool s.done, .int .i64 (s.must : Int), .map q] := by
  obtain ⟨⟨q, ks, h1, _⟩, _⟩ := h
  exact ⟨q, h1.j⟩
theorem arr_type {w : World} {g : Nat} {t t' : TypeId} {vs : List Value} {cs : Array Value} {fr : Nat × Nat} (h : Arr w g t vs) (ht : t ≠ t') : w.heap[g]? ≠ some (.cells cs t' fr) := fun e => by
  unfold Arr at h
  rw [h] at e
  simp at e
  exact ht e.2.1

set_option maxHeartbeats 4000000 in
set_option maxRecDepth 100000 in
theorem walk_of (x : Pc) (c : Nat) (q : Option Addr) (T : List Nat) (ok : Bool) (er : Int) (I : Nat) (w : World) (hx : PcIn w x q c) (hT : Js.none.tell x = (T, ok, er)) (hI : (Js.none.next x).i = I) :
    Calls Try.prog 6 #[pcV x q c] w fun e w' => e = .returned (.bool true) ∧ Below w.heap.size w w' := by
  have A1 := hide (And.intro (pc_box w x q c) (hx.2.2.kept (pc_box w x q c).2))
  have HLOW := hide (fun (g : Nat) (hg : w.heap.size ≤ g) => apt_low hx.2.2 hg)
  have HK := hide (fun v => known_any v)
  have HT := hide hT
  have HI := hide hI
  clear hx hT hI
  go_enter Try.func6, Try.ntmps6
  go_upto_region 1 with fail
  generalize w.alloc (Obj.cells #[.int .u64 (x.i : Int), .int .i64 x.a, .bool x.l, .slice q x.b.length c] 25) = w1 at *
  go_wp2_with fail
  refine (HK.out w1).mono ?_
  rintro e w2 ⟨rfl, hb⟩
  have A2 := hide (And.intro (A1.out.1.1.kept hb) (And.intro (A1.out.1.2.trans (hb.mono A1.out.1.2.size)) (A1.out.2.kept hb)))
  clear hb A1 HK
  have c3 := A2.out.1.cell 3
  simp only [List.getElem?_cons_zero, List.getElem?_cons_succ] at c3
  by_cases hb1 : (1200 : Int) < (x.b.length : Int)
  · go_wp2
    go_ret
    exact ⟨rfl, A2.out.2.1⟩
  go_wp2_with (refine wpList_exec (by rfl) _ (exec_load_all 25 (.tmp 1) rfl w.heap.size rfl 25 (pcC x q c) _ A2.out.1 Try.underlying25 rfl infoPc) ?_)
  refine (put_nil w2 x q c).mono ?_
  rintro e w3 ⟨rfl, hb⟩
  have A3 := hide (And.intro (A2.out.1.kept hb) (And.intro (A2.out.2.1.trans (hb.mono A2.out.2.1.size)) (A2.out.2.2.kept hb)))
  clear hb A2 c3
  go_wp2_with fail
  refine (held_nil w3).mono ?_
  rintro e w4 ⟨rfl, rfl⟩
  go_wp2_with fail
  refine (id_nil w4).mono ?_
  rintro e w5 ⟨rfl, rfl⟩
  go_wp2_with fail
  refine (copy_nil w5).mono ?_
  rintro e w6 ⟨rfl, rfl⟩
  go_upto_region 12 with fail
  have D7 : Hid (Arr ((w6.alloc (Obj.cells #[.int .u64 0, .bool false, .int .i64 0, .map none] 55)).alloc (Obj.cells #[.bool false, .bool false, .int .u64 0, .int .i64 0, .slice none 0 0] 45)) w6.heap.size 55 [.int .u64 0, .bool false, .int .i64 0, .map none] ∧ Arr ((w6.alloc (Obj.cells #[.int .u64 0, .bool false, .int .i64 0, .map none] 55)).alloc (Obj.cells #[.bool false, .bool false, .int .u64 0, .int .i64 0, .slice none 0 0] 45)) (w6.heap.size + 1) 45 [.bool false, .bool false, .int .u64 0, .int .i64 0, .slice none 0 0] ∧ Below w6.heap.size w6 ((w6.alloc (Obj.cells #[.int .u64 0, .bool false, .int .i64 0, .map none] 55)).alloc (Obj.cells #[.bool false, .bool false, .int .u64 0, .int .i64 0, .slice none 0 0] 45))) :=
    boxes w6 [.int .u64 0, .bool false, .int .i64 0, .map none] [.bool false, .bool false, .int .u64 0, .int .i64 0, .slice none 0 0] 55 45
  generalize (w6.alloc (Obj.cells #[.int .u64 0, .bool false, .int .i64 0, .map none] 55)).alloc (Obj.cells #[.bool false, .bool false, .int .u64 0, .int .i64 0, .slice none 0 0] 45) = w7 at *
  have A7 := hide (And.intro (A3.out.1.kept D7.out.2.2) (And.intro (A3.out.2.1.trans (D7.out.2.2.mono A3.out.2.1.size)) (A3.out.2.2.kept D7.out.2.2)))
  have HG : Hid (w.heap.size < w6.heap.size) := A3.out.1.lt
  obtain ⟨g1, hg1⟩ : ∃ g, w6.heap.size = g := ⟨_, rfl⟩
  rw [hg1] at D7 HG
  simp only [hg1]
  clear hg1 A3
  have P7 := hide (pp_none D7.out.1)
  have R7 := hide D7.out.2.1
  clear D7
  have HP := hide (put_any w7 g1 c 0 Js.none x q P7.out A7.out.2.2 (HLOW.out g1 (Nat.le_of_lt HG.out)) ⟨Nat.zero_le _, Nat.zero_le _, Nat.zero_le _⟩ (by omega))
  simp only [HT.out] at HP
  go_wp2_with (refine wpList_exec (by rfl) _ (exec_load_all 25 (.tmp 1) rfl w.heap.size rfl 25 (pcC x q c) _ A7.out.1 Try.underlying25 rfl infoPc) ?_)
  refine HP.out.mono ?_
  rintro e w8 ⟨q1, d1, rfl, hob, hpp, hgr⟩
  obtain ⟨vq1, hva⟩ := pp_arr P7.out
  have O8 := hide hob
  have P8 := hide hpp
  have R8 := hide (rp_none (B := g1 + 1) (R7.out.keptR hgr (by simp)))
  have X8 : Hid (Arr w8 w.heap.size 25 (pcC x q c)) := A7.out.1.keptR hgr (by have := HG.out; simp; omega)
  have B8 : Hid (Below w.heap.size w w8) := A7.out.2.1.grown hgr A7.out.2.1.size (fun k hk => by cases hk; exact Nat.le_of_lt HG.out)
  have T8 : Hid (Piece w8 q c x.b) := ⟨bi_grown A7.out.2.2.1 hgr (fun a ha hn => HLOW.out g1 (Nat.le_of_lt HG.out) a ha hn), A7.out.2.2.2⟩
  clear hob hpp hgr hva A7 P7 R7 HP
  have HQ := hide (rput_any w8 (g1 + 1) (g1 + 1) c 0 Js.none x q R8.out T8.out (HLOW.out (g1 + 1) (by have := HG.out; omega)) ⟨Nat.zero_le _, Nat.zero_le _, Nat.zero_le _⟩ (by omega) (by obtain ⟨_, _, _, h⟩ := rp_arr R8.out; have := h.lt; omega))
  simp only [HT.out] at HQ
  go_wp2_with (refine wpList_exec (by rfl) _ (exec_load_all 25 (.tmp 1) rfl w.heap.size rfl 25 (pcC x q c) _ X8.out Try.underlying25 rfl infoPc) ?_)
  refine HQ.out.mono ?_
  rintro e w9 ⟨q2, ⟨d2, rfl⟩, hbr, hrp, hgw⟩
  have hS : ∀ k, SP w8 (g1 + 1) (g1 + 1) k → g1 + 1 ≤ k := fun k hk => by
    rcases hk with h | ⟨h, _⟩ <;> omega
  have hbr1 := ob_grow O8.out hgw (fun k hk cs fr => by
    rcases hk with rfl | ⟨_, cs', fr', h⟩
    · obtain ⟨_, _, _, hr⟩ := rp_arr R8.out
      exact arr_type hr (by decide)
    · rw [h]
      intro e
      simp at e)
  have hg1w : g1 + 1 < w8.heap.size := by obtain ⟨_, _, _, h⟩ := rp_arr R8.out; exact h.lt
  have hbl := grow_below hgw (Nat.le_of_lt hg1w) hS
  obtain ⟨vq, hpa⟩ := pp_arr P8.out
  have j0 : w9.cell? ⟨g1, 0, none⟩ = some (.int .u64 (I : Int)) := by
    have h := (hpa.below (Nat.lt_succ_self g1) hbl).cell 0
    rw [HI.out] at h
    exact h
  obtain ⟨_, _, _, hra⟩ := rp_arr hrp
  have j2 : w9.cell? ⟨g1 + 1, 2, none⟩ = some (.int .u64 (I : Int)) := by
    have h := hra.cell 2
    rw [HI.out] at h
    exact h
  have CV1 := hide (fun (v : World) (hv : Below w9.heap.size w9 v) => conv_any ((hbr1.kept hv).1) (c := d1) T.length rfl)
  have CV2 := hide (fun (v : World) (hv : Below w9.heap.size w9 v) => conv_any ((hbr.kept hv).1) (c := d2) T.length rfl)
  have B9 : Hid (Below w.heap.size w w9) := B8.out.trans (hbl.mono (by have := HG.out; omega))
  have ID := hide (id_at w9.drew g1 I j0)
  clear hbr hrp hgw hS hbr1 hg1w hbl hpa hra O8 P8 R8 X8 B8 T8 HQ
  generalize strF T = sT at *
  generalize T.length = lT at *
  go_upto_region 14 with fail
  refine wp_region_held_drew (S := fun v => Hid (v = w9.drew)) (by kernel_rfl) (hide rfl) (fun hHeld => ?_)
  refine take_dstH (i := 0) (d := 76) (v := ?_) rfl rfl (by kernel_rfl) (by kernel_rfl) (by kernel_rfl) (fun _ _ _ h => h) (by rfl) hHeld ?_ ?_
  rotate_left
  · intro wZ hSw; clear hSw; go_simp; first | (with_reducible rfl) | (rw [if_pos (by omega)]; with_reducible rfl) | skip
  try simp only [Act.put, List.setIfInBounds_toArray, List.set_cons_zero, List.set_cons_succ]
  refine take_dstH (i := 1) (d := 77) (v := ?_) rfl rfl (by kernel_rfl) (by kernel_rfl) (by kernel_rfl) (fun _ _ _ h => h) (by rfl) hHeld ?_ ?_
  rotate_left
  · intro wZ hSw; have hfS := (fun (v : World) (hv : Hid (v = w9.drew)) => show (convert 23 9 (.slice q1 lT d1)).run Try.prog v = .ok (.string sT) v from by rw [hv.out]; exact CV1.out _ (Below.refl _ _).drew) wZ hSw; clear hSw; go_simp; first | (with_reducible rfl) | (rw [if_pos (by omega)]; with_reducible rfl) | skip
  try simp only [Act.put, List.setIfInBounds_toArray, List.set_cons_zero, List.set_cons_succ]
  refine take_dstH (i := 2) (d := 78) (v := ?_) rfl rfl (by kernel_rfl) (by kernel_rfl) (by kernel_rfl) (fun _ _ _ h => h) (by rfl) hHeld ?_ ?_
  rotate_left
  · intro wZ hSw; clear hSw; go_simp; first | (with_reducible rfl) | (rw [if_pos (by omega)]; with_reducible rfl) | skip
  try simp only [Act.put, List.setIfInBounds_toArray, List.set_cons_zero, List.set_cons_succ]
  refine take_dstH (i := 3) (d := 79) (v := ?_) rfl rfl (by kernel_rfl) (by kernel_rfl) (by kernel_rfl) (fun _ _ _ h => h) (by rfl) hHeld ?_ ?_
  rotate_left
  · intro wZ hSw; have hfS := (fun (v : World) (hv : Hid (v = w9.drew)) => show (convert 23 9 (.slice q2 lT d2)).run Try.prog v = .ok (.string sT) v from by rw [hv.out]; exact CV2.out _ (Below.refl _ _).drew) wZ hSw; clear hSw; go_simp; first | (with_reducible rfl) | (rw [if_pos (by omega)]; with_reducible rfl) | skip
  try simp only [Act.put, List.setIfInBounds_toArray, List.set_cons_zero, List.set_cons_succ]
  refine take_dstH (i := 4) (d := 80) (v := ?_) rfl rfl (by kernel_rfl) (by kernel_rfl) (by kernel_rfl) (fun _ _ _ h => h) (by rfl) hHeld ?_ ?_
  rotate_left
  · intro wZ hSw; clear hSw; go_simp; first | (with_reducible rfl) | (rw [if_pos (by omega)]; with_reducible rfl) | skip
  try simp only [Act.put, List.setIfInBounds_toArray, List.set_cons_zero, List.set_cons_succ]
  refine take_dstH (i := 5) (d := 81) (v := ?_) rfl rfl (by kernel_rfl) (by kernel_rfl) (by kernel_rfl) (fun _ _ _ h => h) (by rfl) hHeld ?_ ?_
  rotate_left
  · intro wZ hSw; clear hSw; go_simp; first | (with_reducible rfl) | (rw [if_pos (by omega)]; with_reducible rfl) | skip
  try simp only [Act.put, List.setIfInBounds_toArray, List.set_cons_zero, List.set_cons_succ]
  refine take_dstH (i := 6) (d := 82) (v := ?_) rfl rfl (by kernel_rfl) (by kernel_rfl) (by kernel_rfl) (fun _ _ _ h => h) (by rfl) hHeld ?_ ?_
  rotate_left
  · intro wZ hSw; clear hSw; go_simp; first | (with_reducible rfl) | (rw [if_pos (by omega)]; with_reducible rfl) | skip
  try simp only [Act.put, List.setIfInBounds_toArray, List.set_cons_zero, List.set_cons_succ]
  refine take_dstH (i := 7) (d := 83) (v := ?_) rfl rfl (by kernel_rfl) (by kernel_rfl) (by kernel_rfl) (fun _ _ _ h => h) (by rfl) hHeld ?_ ?_
  rotate_left
  · intro wZ hSw; clear hSw; go_simp; first | (with_reducible rfl) | (rw [if_pos (by omega)]; with_reducible rfl) | skip
  try simp only [Act.put, List.setIfInBounds_toArray, List.set_cons_zero, List.set_cons_succ]
  refine take_dstH (i := 8) (d := 84) (v := ?_) rfl rfl (by kernel_rfl) (by kernel_rfl) (by kernel_rfl) (fun _ _ _ h => h) (by rfl) hHeld ?_ ?_
  rotate_left
  · intro wZ hSw; clear hSw; go_simp; first | (with_reducible rfl) | (rw [if_pos (by omega)]; with_reducible rfl) | skip
  try simp only [Act.put, List.setIfInBounds_toArray, List.set_cons_zero, List.set_cons_succ]
  refine take_dstH (i := 9) (d := 85) (v := ?_) rfl rfl (by kernel_rfl) (by kernel_rfl) (by kernel_rfl) (fun _ _ _ h => h) (by rfl) hHeld ?_ ?_
  rotate_left
  · intro wZ hSw; clear hSw; go_simp; first | (with_reducible rfl) | (rw [if_pos (by omega)]; with_reducible rfl) | skip
  try simp only [Act.put, List.setIfInBounds_toArray, List.set_cons_zero, List.set_cons_succ]
  refine take_dstH (i := 10) (d := 86) (v := ?_) rfl rfl (by kernel_rfl) (by kernel_rfl) (by kernel_rfl) (fun _ _ _ h => h) (by rfl) hHeld ?_ ?_
  rotate_left
  · intro wZ hSw; clear hSw; go_simp; first | (with_reducible rfl) | (rw [if_pos (by omega)]; with_reducible rfl) | skip
  try simp only [Act.put, List.setIfInBounds_toArray, List.set_cons_zero, List.set_cons_succ]
  refine take_dstH (i := 11) (d := 87) (v := ?_) rfl rfl (by kernel_rfl) (by kernel_rfl) (by kernel_rfl) (fun _ _ _ h => h) (by rfl) hHeld ?_ ?_
  rotate_left
  · intro wZ hSw; clear hSw; go_simp; first | (with_reducible rfl) | (rw [if_pos (by omega)]; with_reducible rfl) | skip
  try simp only [Act.put, List.setIfInBounds_toArray, List.set_cons_zero, List.set_cons_succ]
  refine take_dstH (i := 12) (d := 88) (v := ?_) rfl rfl (by kernel_rfl) (by kernel_rfl) (by kernel_rfl) (fun _ _ _ h => h) (by rfl) hHeld ?_ ?_
  rotate_left
  · intro wZ hSw; clear hSw; go_simp; first | (with_reducible rfl) | (rw [if_pos (by omega)]; with_reducible rfl) | skip
  try simp only [Act.put, List.setIfInBounds_toArray, List.set_cons_zero, List.set_cons_succ]
  refine take_dstH (i := 13) (d := 89) (v := ?_) rfl rfl (by kernel_rfl) (by kernel_rfl) (by kernel_rfl) (fun _ _ _ h => h) (by rfl) hHeld ?_ ?_
  rotate_left
  · intro wZ hSw; clear hSw; go_simp; first | (with_reducible rfl) | (rw [if_pos (by omega)]; with_reducible rfl) | skip
  try simp only [Act.put, List.setIfInBounds_toArray, List.set_cons_zero, List.set_cons_succ]
  refine take_dstH (i := 14) (d := 90) (v := ?_) rfl rfl (by kernel_rfl) (by kernel_rfl) (by kernel_rfl) (fun _ _ _ h => h) (by rfl) hHeld ?_ ?_
  rotate_left
  · intro wZ hSw; clear hSw; go_simp; first | (with_reducible rfl) | (rw [if_pos (by omega)]; with_reducible rfl) | skip
  try simp only [Act.put, List.setIfInBounds_toArray, List.set_cons_zero, List.set_cons_succ]
  refine take_dstH (i := 15) (d := 91) (v := ?_) rfl rfl (by kernel_rfl) (by kernel_rfl) (by kernel_rfl) (fun _ _ _ h => h) (by rfl) hHeld ?_ ?_
  rotate_left
  · intro wZ hSw; clear hSw; go_simp; first | (with_reducible rfl) | (rw [if_pos (by omega)]; with_reducible rfl) | skip
  try simp only [Act.put, List.setIfInBounds_toArray, List.set_cons_zero, List.set_cons_succ]
  refine take_dstH (i := 16) (d := 92) (v := ?_) rfl rfl (by kernel_rfl) (by kernel_rfl) (by kernel_rfl) (fun _ _ _ h => h) (by rfl) hHeld ?_ ?_
  rotate_left
  · intro wZ hSw; clear hSw; go_simp; first | (with_reducible rfl) | (rw [if_pos (by omega)]; with_reducible rfl) | skip
  try simp only [Act.put, List.setIfInBounds_toArray, List.set_cons_zero, List.set_cons_succ]
  refine take_dstH (i := 18) (d := 94) (v := ?_) rfl rfl (by kernel_rfl) (by kernel_rfl) (by kernel_rfl) (fun _ _ _ h => h) (by rfl) hHeld ?_ ?_
  rotate_left
  · intro wZ hSw; clear hSw; go_simp; first | (with_reducible rfl) | (rw [if_pos (by omega)]; with_reducible rfl) | skip
  try simp only [Act.put, List.setIfInBounds_toArray, List.set_cons_zero, List.set_cons_succ]
  refine take_dstH (i := 19) (d := 95) (v := ?_) rfl rfl (by kernel_rfl) (by kernel_rfl) (by kernel_rfl) (fun _ _ _ h => h) (by rfl) hHeld ?_ ?_
  rotate_left
  · intro wZ hSw; clear hSw; go_simp; first | (with_reducible rfl) | (rw [if_pos (by omega)]; with_reducible rfl) | skip
  try simp only [Act.put, List.setIfInBounds_toArray, List.set_cons_zero, List.set_cons_succ]
  refine take_dstH (i := 20) (d := 96) (v := ?_) rfl rfl (by kernel_rfl) (by kernel_rfl) (by kernel_rfl) (fun _ _ _ h => h) (by rfl) hHeld ?_ ?_
  rotate_left
  · intro wZ hSw; clear hSw; go_simp; first | (with_reducible rfl) | (rw [if_pos (by omega)]; with_reducible rfl) | skip
  try simp only [Act.put, List.setIfInBounds_toArray, List.set_cons_zero, List.set_cons_succ]
  refine take_dstH (i := 21) (d := 97) (v := ?_) rfl rfl (by kernel_rfl) (by kernel_rfl) (by kernel_rfl) (fun _ _ _ h => h) (by rfl) hHeld ?_ ?_
  rotate_left
  · intro wZ hSw; have hfS := (fun (v : World) (hv : Hid (v = w9.drew)) => show v.cell? ⟨g1 + 1, 2, none⟩ = some (.int .u64 (I : Int)) from by rw [hv.out]; exact j2) wZ hSw; clear hSw; go_simp; first | (with_reducible rfl) | (rw [if_pos (by omega)]; with_reducible rfl) | skip
  try simp only [Act.put, List.setIfInBounds_toArray, List.set_cons_zero, List.set_cons_succ]
  refine wpAnyH_ready (rs := [17]) (by kernel_rfl) (by simp) ?_
  refine (AllReadyH.cons rfl (fun K hK => ?_) AllReadyH.nil)
  go_simp
  refine Calls.mono ID.out ?_; rintro e wv ⟨rfl, rfl⟩
  go_wp2_with fail
  refine hK.out _ _ ?_ (fun hHeld => ?_)
  · exact hide rfl
  clear hK K
  try simp only [Act.put, List.setIfInBounds_toArray, List.set_cons_zero, List.set_cons_succ]
  refine take_dstH (i := 22) (d := 98) (v := ?_) rfl rfl (by kernel_rfl) (by kernel_rfl) (by kernel_rfl) (fun _ _ _ h => h) (by rfl) hHeld ?_ ?_
  rotate_left
  · intro wZ hSw; clear hSw; go_simp; first | (with_reducible rfl) | (rw [if_pos (by omega)]; with_reducible rfl) | skip
  try simp only [Act.put, List.setIfInBounds_toArray, List.set_cons_zero, List.set_cons_succ]
  refine take_dstH (i := 23) (d := 99) (v := ?_) rfl rfl (by kernel_rfl) (by kernel_rfl) (by kernel_rfl) (fun _ _ _ h => h) (by rfl) hHeld ?_ ?_
  rotate_left
  · intro wZ hSw; clear hSw; go_simp; first | (with_reducible rfl) | (rw [if_pos (by omega)]; with_reducible rfl) | skip
  try simp only [Act.put, List.setIfInBounds_toArray, List.set_cons_zero, List.set_cons_succ]
  refine take_dstH (i := 24) (d := 2) (v := ?_) rfl rfl (by kernel_rfl) (by kernel_rfl) (by kernel_rfl) (fun _ _ _ h => h) (by rfl) hHeld ?_ ?_
  rotate_left
  · intro wZ hSw; clear hSw; go_simp; first | (with_reducible rfl) | (rw [if_pos (by omega)]; with_reducible rfl) | skip
  try simp only [Act.put, List.setIfInBounds_toArray, List.set_cons_zero, List.set_cons_succ]
  refine wpAnyH_done (by kernel_rfl) ?_ _
  go_wp2
  go_ret
  exact ⟨rfl, B9.out.drew⟩

theorem walk (x : Pc) (q : Option Addr) (c : Nat) (w : World) (hx : PcIn w x q c) :
    Calls Try.prog 6 #[pcV x q c] w fun e w' => e = .returned (.bool true) ∧ Below w.heap.size w w' :=
  walk_of x c q _ _ _ _ w hx rfl rfl

theorem own : ownKnob Try.prog.godebug = none := by kernel_rfl
theorem laidOut : laidOutB Try.prog = true := by kernel_rfl
set_option maxRecDepth 100000 in
theorem lifted (os : Os) (started : os.Started) (H : Type) (enc : TypeId × Value → H) :
    ReturnsInHanded {} Try.checked os 6 .any (Rows.fragNoneSpec.pre6 enc Try.prog Try.f6 Rows.fragNoneRow.domain false) (Rows.fragNoneSpec.post enc Try.prog Try.f6 false true false false) := by
  refine returnsInHanded_of_change (C := Try.checked) own started (by kernel_rfl) Try.func6
    (ChangeSpec.witness6 (enc := enc) (C := Try.checked) false ⟨#[], #[.agg #[.int .u64 0, .int .i64 0, .bool false, .slice none 0 0]], []⟩ 8 (by kernel_rfl) (by kernel_rfl) (by kernel_rfl) (by kernel_rfl)) ?_
  intro W base args ds gs before hval0 hW hcnd _
  have hval : ∀ (j : Nat) t v, Try.f6.params[j]? = some t → args[j]? = some v → Value.okWide Try.prog W .any base t v := hval0
  have hW' := hW
  obtain ⟨p, q, hA0, hV, rfl, hfz, hnd⟩ := hW
  have hA : DataW.TrodAll enc Try.prog W 0 (fun _ => true) true Try.f6.params.toList args.toList ds p := hA0
  rw [Try.params6] at hA hval
  obtain ⟨v0, vs0, d0, ds0, p0, q0, hargs, rfl, rfl, h0, r0⟩ := trodAll_cons hA
  obtain ⟨rfl, rfl, rfl⟩ := trodAll_nil r0
  obtain rfl : args = #[v0] := by cases args; simp_all
  obtain ⟨rfl, rfl⟩ := trodVars_none hV
  have k0 := h0
  have lt0 : ∀ x ∈ p0, x.block < W.heap.size := by obtain ⟨m, hm⟩ := k0; exact DataW.trod_lt m _ _ _ hm
  obtain ⟨x0, a0, cap0, rfl, w0⟩ := open_pc (hval 0 25 v0 rfl rfl) h0
  clear hA0 hval0
  refine (walk x0 a0 cap0 W w0).mono fun e W' ⟨he, bel⟩ => ?_
  subst he
  exact ⟨_, rfl, _, _, _, [], _, [], hW', trodAll_mk1 (shut_bool Try.underlying4 _), (trodAll_cons_mk (Below.trod laidOut (by kernel_rfl) (of_decide_eq_true (by kernel_rfl)) k0 bel lt0) trodAll_mk0), rfl, bel.frame _, fun h => by cases h⟩

theorem over : Rows.fragNoneRow.holds Try.pinned (OpenSpec.ofChange Rows.fragNoneSpec) :=
  OpenClaim.holds_of_wide 6 Try.f6 rfl rfl rfl rfl rfl rfl rfl ⟨rfl, rfl, rfl, rfl, rfl⟩ rfl rfl rfl rfl rfl (by kernel_rfl) Try.func6 (by kernel_rfl)
    (of_decide_eq_true (by kernel_rfl)) (by unfold Func.isWrapper; first | (rw [if_pos (by decide +kernel)]; kernel_rfl) | (rw [if_neg (by decide +kernel)]; exact ⟨rfl, rfl⟩))
    (fun os started H enc _ => lifted os started H enc)

end FragNoneProof

/-- A joiner that is not there takes nothing; one that New did not make is as one that has met none. -/
theorem fragNone_holds : Rows.FragNoneSaid := FragNoneProof.over

#print axioms fragNone_holds
end Go.Proofs.Ytecpnnnkkofejaa
