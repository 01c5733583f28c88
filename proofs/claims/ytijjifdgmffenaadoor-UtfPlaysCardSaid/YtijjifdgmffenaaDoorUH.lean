/-
  Walks: New, Held, Copy, Put.
-/
import Derived.Test.YtijjifdgmffenaaDoorUG
namespace Go.Proofs.YtijjifdgmffenaaDoor
open Go.RowKit

set_option maxHeartbeats 1000000 in
theorem new_any (w : World) : Calls Tryd.prog 15 #[] w fun e w' => e = .returned (.pointer (some ⟨w.heap.size, 0, none⟩)) ∧ Arr w' w.heap.size 41 (dcC Dc.no) ∧ Below w.heap.size w w' := by
  have HA := hide (Arr.new w 41 (dcC Dc.no))
  go_enter Tryd.func15, Tryd.ntmps15
  go_wp2
  go_ret
  exact ⟨rfl, HA.out, (Below.refl _ _).alloc (Nat.le_refl _) _⟩

set_option maxHeartbeats 1000000 in
theorem held_any (d : Dc) (g : Nat) (w : World) (hA : Arr w g 41 (dcC d)) : Calls Tryd.prog 20 #[.pointer (some ⟨g, 0, none⟩)] w fun e w' => e = .returned (.int .i64 (d.h : Int)) ∧ w' = w := by
  have y0 : w.cell? ⟨g, 0, none⟩ = some (.int .i64 (d.h : Int)) := hA.cell 0
  clear hA
  go_enter Tryd.func20, Tryd.ntmps20
  go_wp2
  go_ret
  exact ⟨rfl, rfl⟩
set_option maxHeartbeats 1000000 in
theorem held_nil (w : World) : Calls Tryd.prog 20 #[.pointer none] w fun e w' => e = .returned (.int .i64 0) ∧ w' = w := by
  go_enter Tryd.func20, Tryd.ntmps20
  go_wp2
  go_ret
  exact ⟨rfl, rfl⟩

set_option maxHeartbeats 2000000 in
theorem copy_any (d : Dc) (g : Nat) (w : World) (hA : Arr w g 41 (dcC d)) : Calls Tryd.prog 19 #[.pointer (some ⟨g, 0, none⟩)] w fun e w' => e = .returned (.pointer (some ⟨w.heap.size, 0, none⟩)) ∧ Arr w' w.heap.size 41 (dcC d) ∧ Below w.heap.size w w' := by
  have y0 : w.cell? ⟨g, 0, none⟩ = some (.int .i64 (d.h : Int)) := hA.cell 0
  have y1 : w.cell? ⟨g, 1, none⟩ = some (.int .i64 (d.l : Int)) := hA.cell 1
  have y2 : w.cell? ⟨g, 2, none⟩ = some (.int .i32 (d.v : Int)) := hA.cell 2
  have HA := hide (Arr.new w 41 (dcC d))
  clear hA
  go_enter Tryd.func19, Tryd.ntmps19
  go_wp2
  go_ret
  exact ⟨rfl, HA.out, (Below.refl _ _).alloc (Nat.le_refl _) _⟩
set_option maxHeartbeats 2000000 in
theorem copy_nil (w : World) : Calls Tryd.prog 19 #[.pointer none] w fun e w' => e = .returned (.pointer (some ⟨w.heap.size, 0, none⟩)) ∧ Arr w' w.heap.size 41 (dcC Dc.no) ∧ Below w.heap.size w w' := by
  have HA := hide (Arr.new w 41 (dcC Dc.no))
  go_enter Tryd.func19, Tryd.ntmps19
  go_wp2
  go_ret
  exact ⟨rfl, HA.out, (Below.refl _ _).alloc (Nat.le_refl _) _⟩

theorem cell_ne {w : World} {g q o : Nat} {d : Dc} {x : Int} (hA : Arr w g 41 (dcC d)) (hc : w.cell? ⟨q, o, none⟩ = some (.int .u8 x)) : q ≠ g := by
  rintro rfl
  rw [hA.cell o] at hc
  match o, hc with
  | 0, hc => cases hc
  | 1, hc => cases hc
  | 2, hc => cases hc
theorem Piece.kp {w w' : World} {g : Nat} {d : Dc} {p : Option Addr} {c : Nat} {bs : List Nat} (h : Piece w p c bs) (hA : Arr w g 41 (dcC d)) (hk : Kp w.heap.size g w w') : Piece w' p c bs := by
  refine ⟨?_, h.2⟩
  rcases h.1 with h0 | ⟨q, o, rfl, hc⟩
  · exact Or.inl h0
  · refine Or.inr ⟨q, o, rfl, fun i hi => ?_⟩
    have h1 := hc i hi
    have h2 := hk.block q (block_lt_of_cell h1) (cell_ne hA h1)
    unfold World.cell? at h1 ⊢
    rw [h2]
    exact h1
theorem run_step (d : Dc) (bs : List Nat) (i : Nat) (hi : i < bs.length) : d.run (bs.take (i + 1)) = (((d.run (bs.take i)).1.step (bs.getD i 0)).1, (d.run (bs.take i)).2 ++ ((d.run (bs.take i)).1.step (bs.getD i 0)).2) := by
  have e : bs.take (i + 1) = bs.take i ++ [bs.getD i 0] := by
    rw [List.take_add_one]
    simp [List.getD, hi]
  rw [e, Dc.run_append]
  simp [Dc.run]

/-- what lies in memory while bytes are put -/
structure PuS (w wx : World) (g : Nat) (d : Dc) (bs : List Nat) (i : Nat) (v : Value) : Prop where
  ha : Arr wx g 41 (dcC (d.run (bs.take i)).1)
  ho : wx.ownsRow w.heap.size 21 1 v (d.run (bs.take i)).2.length (i32s (ints (d.run (bs.take i)).2))
  hk : Kp w.heap.size g w wx

set_option maxHeartbeats 8000000 in
set_option maxRecDepth 100000 in
theorem put_any (d : Dc) (g L cap : Nat) (p : Option Addr) (bs : List Nat) (w : World) (hd : d.ok) (hL : LaidU w) (hA : Arr w g 41 (dcC d)) (hg0 : 0 < g) (hp : Piece w p cap bs) (hl : bs.length = L) (hL2 : L ≤ 99000) :
    Calls Tryd.prog 17 #[.pointer (some ⟨g, 0, none⟩), .slice p L cap] w fun e w' => ∃ v', e = .returned v' ∧ w'.ownsRow w.heap.size 21 1 v' (d.run bs).2.length (i32s (ints (d.run bs).2)) ∧ Arr w' g 41 (dcC (d.run bs).1) ∧ Kp w.heap.size g w w' := by
  have HP := hide (And.intro hp (And.intro hl hL2))
  have HL := hide (And.intro hL (And.intro hg0 hA.lt))
  have HD := hide hd
  have HA0 := hide hA
  have HS0 : Hid (PuS w w g d bs 0 (.slice none 0 0)) := ⟨hA, ⟨rfl, Or.inl ⟨rfl, rfl⟩⟩, Kp.refl _ _ _⟩
  clear hd hL hA hg0 hp hl hL2
  go_enter Tryd.func17, Tryd.ntmps17
  go_wp2
  go_loopg [5, 14] (L + 1) (fun f s5 s14 wx => ∃ i : Nat, s14 = .int .i64 (i : Int) ∧ i ≤ L ∧ L - i < f ∧ Hid (PuS w wx g d bs i s5))
  case atStart => exact ⟨0, rfl, Nat.zero_le _, by omega, HS0.out⟩
  case round =>
    obtain ⟨i, rfl, hiL, hif, HS⟩ := hrel
    by_cases hlt : i < L
    · obtain ⟨b, hb⟩ : ∃ b, b = bs.getD i 0 := ⟨_, rfl⟩
      have hbl : i < bs.length := by rw [HP.out.2.1]; exact hlt
      have hPw := HP.out.1.kp HA0.out HS.out.hk
      rcases hPw.1 with h0 | ⟨q, o, rfl, hc⟩
      · rw [h0] at hbl; exact absurd hbl (Nat.not_lt_zero _)
      have hcb : wr.cell? ⟨q, o + i, none⟩ = some (.int .u8 (b : Int)) := by rw [hb]; exact hc i hbl
      have hb256 : b < 256 := by rw [hb]; exact HP.out.1.2.2.1 _ (by simp [List.getD, hbl])
      have hrl := Dc.run_len HD.out (bs.take i)
      have h1 := Dc.one_le d
      have h2 := Dc.ok_le HD.out
      have h3 := HP.out.2.2
      have ht : (bs.take i).length = i := by rw [List.length_take]; omega
      have HTK := hide (take_any (d.run (bs.take i)).1 b w.heap.size g (d.run (bs.take i)).2.length u5 (ints (d.run (bs.take i)).2) wr (Dc.run_ok HD.out _) hb256 (HL.out.1.kp (Nat.lt_of_le_of_lt (Nat.zero_le _) HL.out.2.2) HL.out.2.1 HS.out.hk) HS.out.ha HL.out.2.2 HL.out.2.1 HS.out.hk.size HS.out.ho (ints_length _) (by omega))
      have HST : Hid (d.run (bs.take (i + 1)) = (((d.run (bs.take i)).1.step b).1, (d.run (bs.take i)).2 ++ ((d.run (bs.take i)).1.step b).2)) := by show _ = _; rw [hb]; exact run_step d bs i hbl
      clear h1 h2 h3 ht hrl hb hbl hb256 hc hPw
      go_wp2_with fail
      refine HTK.out.mono ?_
      rintro r w5 ⟨v5, rfl, t1, t2, t3⟩
      have HS5 : Hid (PuS w w5 g d bs (i + 1) v5) := by
        refine ⟨?_, ?_, HS.out.hk.trans t3⟩
        · rw [HST.out]; exact t2
        · rw [HST.out]; simp only [List.length_append]; rw [ints_append]; exact t1
      clear t1 t2 t3 HTK HS HST
      go_wp2_with fail
      have h3 := HP.out.2.2
      go_roundg (L - i)
      case measure => omega
      case rel => exact ⟨i + 1, by rw [show wrap64 ((i : Int) + 1) = ((i + 1 : Nat) : Int) from by unfold wrap64; omega], by omega, by omega, HS5⟩
    · have ei : i = L := by omega
      subst ei
      go_wp2_with fail
      go_ret
      have e : bs.take i = bs := List.take_of_length_le (by rw [HP.out.2.1]; exact Nat.le_refl _)
      have h := HS.out
      have h1 := h.ha
      have h2 := h.ho
      rw [e] at h1 h2
      exact ⟨_, rfl, h2, h1, h.hk⟩

set_option maxHeartbeats 4000000 in
set_option maxRecDepth 100000 in
/-- what is left at the end, and what a decoder is then -/
theorem end_any (d : Dc) (g : Nat) (w : World) (hA : Arr w g 41 (dcC d)) : Calls Tryd.prog 18 #[.pointer (some ⟨g, 0, none⟩)] w fun e w' => ∃ p c, e = .returned (.slice p d.end.length c) ∧ RPiece w' p c (ints d.end) ∧ (∀ a, p = some a → w.heap.size ≤ a.block) ∧ Arr w' g 41 (dcC (if d.h = 0 then d else Dc.no)) ∧ Kp w.heap.size g w w' := by
  have HH := hide (held_any d g w hA)
  obtain ⟨q, hq⟩ : ∃ q : Int, q = (d.h : Int) := ⟨_, rfl⟩
  rw [← hq] at HH
  have HA := hide hA
  clear hA
  by_cases h0 : d.h = 0
  · have dq : (q == 0) = true := by rw [hq, h0]; rfl
    have HE : Hid (d.end = []) := by show _ = _; unfold Dc.end; rw [if_pos h0]
    rw [HE.out, if_pos h0]
    clear hq h0
    go_enter Tryd.func18, Tryd.ntmps18
    go_wp2_with fail
    refine HH.out.mono ?_
    rintro r w2 ⟨rfl, rfl⟩
    go_wp2_with fail
    go_ret
    exact ⟨none, 0, rfl, rnil_piece _, (fun a ha => by cases ha), HA.out, Kp.refl _ _ _⟩
  · have dq : (q == 0) = false := by simp; omega
    have HE : Hid (d.end = [65533]) := by show _ = _; unfold Dc.end; rw [if_neg h0]
    rw [HE.out, if_neg h0]
    clear hq h0
    go_enter Tryd.func18, Tryd.ntmps18
    go_wp2_with fail
    refine HH.out.mono ?_
    rintro r w2 ⟨rfl, rfl⟩
    go_wp2_with (refine wpList_store_row rfl 41 _ _ rfl g (dcC Dc.no).toArray rfl rfl 41 _ HA.out infoDc rfl (one_dcC _) ?_)
    go_ret
    refine ⟨_, 1, rfl, ⟨ni_one (Arr.newAt (w2.setRow g (dcC Dc.no).toArray) 21 [.int .i32 65533] w2.heap.size (by simp)), (fun e => by cases e), Nat.le_refl _, by decide⟩, ?_, (HA.out.row _).alloc _, ((Kp.refl w2.heap.size g w2).row _).below (Nat.le_of_eq (by simp)) ((Below.refl _ _).alloc (Nat.le_refl _) _)⟩
    intro a ha
    cases ha
    simp

end Go.Proofs.YtijjifdgmffenaaDoor
