/-
  Walks: layer 10's known.
-/
import Derived.Test.YtijjifdgmffenaaDoorUJ
namespace Go.Proofs.YtijjifdgmffenaaDoor
open Go.RowKit

theorem put_of (d : Dc) (g L cap : Nat) (p : Option Addr) (bs : List Nat) (w : World) (hd : d.ok) (hL : LaidU w) (hA : Arr w g 41 (dcC d)) (hg0 : 0 < g) (hp : Piece w p cap bs) (hl : bs.length = L) (hL2 : L ≤ 99000) {d' : Dc} {ts : List Nat} (hr : d.run bs = (d', ts)) :
    Calls Tryd.prog 17 #[.pointer (some ⟨g, 0, none⟩), .slice p L cap] w fun e w' => ∃ p' c', e = .returned (.slice p' ts.length c') ∧ RPiece w' p' c' (ints ts) ∧ (∀ a, p' = some a → w.heap.size ≤ a.block) ∧ Arr w' g 41 (dcC d') ∧ Kp w.heap.size g w w' := by
  refine (put_any d g L cap p bs w hd hL hA hg0 hp hl hL2).mono ?_
  rintro e w' ⟨v', rfl, ho, ha, hk⟩
  rw [hr] at ho ha
  obtain ⟨p', c', rfl, h1, h2⟩ := own_rpiece (l := ints ts) (v := v') (B := w.heap.size) (w := w') (by rw [ints_length]; exact ho)
  exact ⟨p', c', by rw [ints_length], h1, h2, ha, hk⟩
theorem decode_of (L cap : Nat) (p : Option Addr) (bs : List Nat) (w : World) (hL : LaidU w) (hp : Piece w p cap bs) (hl : bs.length = L) (hL2 : L ≤ 99000) {ts : List Nat} (hr : utfF bs = ts) :
    Calls Tryd.prog 13 #[.slice p L cap] w fun e w' => ∃ p' c', e = .returned (.slice p' ts.length c') ∧ RPiece w' p' c' (ints ts) ∧ (∀ a, p' = some a → w.heap.size ≤ a.block) ∧ Below w.heap.size w w' := by
  refine (decode_any L cap p bs w hL hp hl hL2).mono ?_
  rintro e w' ⟨v', rfl, ho, hb⟩
  rw [hr] at ho
  obtain ⟨p', c', rfl, h1, h2⟩ := own_rpiece (l := ints ts) (v := v') (B := w.heap.size) (w := w') (by rw [ints_length]; exact ho)
  exact ⟨p', c', by rw [ints_length], h1, h2, hb⟩
theorem lit_runes {w : World} {g n : Nat} {l : List Int} {t : TypeId} {f : Nat × Nat} (h : w.heap[g]? = some (.cells (i32s l).toArray t f)) (hn : l.length = n) (hc : n ≤ 1000) : RPiece w (some ⟨g, 0, none⟩) n l :=
  ⟨Or.inr ⟨g, 0, rfl, fun i hi => by rw [Nat.zero_add, cell_of_row w g i _ t f h]; simpa using i32s_at hi⟩, (fun e => by cases e), by omega, by unfold maxLen; omega⟩
theorem run_a : Dc.no.run [226] = (⟨1, 2, 2⟩, []) := by decide
theorem run_b : (Dc.mk 1 2 2).run [130, 172] = (Dc.no, [8364]) := by decide
theorem run_c : utfF [195, 97] = [65533, 97] := by decide
theorem mk_ok : (Dc.mk 1 2 2).ok := Or.inr ⟨by decide, by decide, by decide, by decide⟩
theorem lit_bts {l : List Nat} (h : ∀ x ∈ l, x < 256) : BytesN l := h

set_option maxHeartbeats 4000000 in
set_option maxRecDepth 100000 in
theorem known_any (w : World) (hL : LaidU w) : Calls Tryd.prog 11 #[] w fun e w' => e = .returned (.bool true) ∧ Below w.heap.size w w' := by
  have HL := hide hL
  have HN := hide (new_any w)
  clear hL
  go_enter Tryd.func11, Tryd.ntmps11
  go_wp2_with fail
  refine HN.out.mono ?_
  rintro r w1 ⟨rfl, a1, b1⟩
  have H1 := hide (And.intro a1 (And.intro b1 (HL.out.kept b1)))
  have HP1 := hide (put_of Dc.no w.heap.size 1 1 (some ⟨w1.heap.size, 0, none⟩) [226] (w1.alloc (Obj.cells #[Value.int .u8 226] 5)) no_ok (H1.out.2.2.kept ((Below.refl _ _).alloc (Nat.le_refl _) _)) (a1.alloc _) HL.out.size (lit_bytes (heap_alloc_new _ _) (by intro x hx; simp at hx; omega) rfl (by decide)) rfl (by decide) run_a)
  clear a1 b1 HN
  go_wp2_with fail
  refine HP1.out.mono ?_
  rintro r w2 ⟨p2, c2, rfl, r2, _, a2, k2⟩
  have HG1 : Hid (w.heap.size < w1.heap.size) := H1.out.1.lt
  have HB2 : Hid (Below w.heap.size w w2) := H1.out.2.1.trans (((Below.refl _ _).alloc (Nat.le_of_lt HG1.out) _).trans (k2.toBelow (by simp; have := HG1.out; omega)))
  have HP2 := hide (put_of _ w.heap.size 2 2 (some ⟨w2.heap.size, 0, none⟩) [130, 172] (w2.alloc (Obj.cells #[Value.int .u8 130, Value.int .u8 172] 5)) mk_ok ((HL.out.kept HB2.out).kept ((Below.refl _ _).alloc (Nat.le_refl _) _)) (a2.alloc _) HL.out.size (lit_bytes (heap_alloc_new _ _) (by intro x hx; simp at hx; omega) rfl (by decide)) rfl (by decide) run_b)
  have HG2 : Hid (w.heap.size < w2.heap.size) := a2.lt
  clear r2 a2 k2 H1 HP1 HG1
  go_wp2_with fail
  refine HP2.out.mono ?_
  rintro r w3 ⟨p3, c3, rfl, r3, _, a3, k3⟩
  have HB3 : Hid (Below w.heap.size w w3) := HB2.out.trans (((Below.refl _ _).alloc (Nat.le_of_lt HG2.out) _).trans (k3.toBelow (by simp; have := HG2.out; omega)))
  have HS1 := hide (rsame_any 1 c3 1 p3 (some ⟨w3.heap.size, 0, none⟩) [8364] (w3.alloc (Obj.cells #[Value.int .i32 8364] 21)) (r3.kept ((Below.refl _ _).alloc (Nat.le_refl _) _)) (lit_runes (heap_alloc_new _ _) rfl (by decide)) rfl (by decide))
  clear r3 a3 k3 HP2 HB2 HG2
  go_wp2_with fail
  refine HS1.out.mono ?_
  rintro r w4 ⟨rfl, b4⟩
  have HB4 : Hid (Below w.heap.size w w4) := HB3.out.trans (((Below.refl _ _).alloc HB3.out.size _).trans (b4.mono (Nat.le_trans HB3.out.size (by simp))))
  have HF := hide (form_any 233 w4 (HL.out.kept HB4.out))
  clear b4 HS1 HB3
  go_wp2_with fail
  refine HF.out.mono ?_
  rintro r w5 ⟨p5, L5, c5, rfl, l5, q5, b5⟩
  have e5 : formF (ptF 233) = [195, 169] := by decide
  rw [e5] at l5 q5
  subst l5
  have HB5 : Hid (Below w.heap.size w w5) := HB4.out.trans (b5.mono HB4.out.size)
  have cv := conv_any q5.1 (c := c5) 2 rfl
  have sl : (strF [195, 169]).toList = [195, 169] := by
    rw [ByteArray.toList_eq, show (strF [195, 169]).data.toList = [195, 169] from by rw [strF, strOfNums_data]; rfl]
  have HD := hide (decode_of 2 2 (some ⟨w5.heap.size, 0, none⟩) [195, 97] (w5.alloc (Obj.cells #[Value.int .u8 195, Value.int .u8 97] 5)) ((HL.out.kept HB5.out).kept ((Below.refl _ _).alloc (Nat.le_refl _) _)) (lit_bytes (heap_alloc_new _ _) (by intro x hx; simp at hx; omega) rfl (by decide)) rfl (by decide) run_c)
  clear e5 q5 b5 HF HB4
  go_wp2_with fail
  refine HD.out.mono ?_
  rintro r w6 ⟨p6, c6, rfl, r6, _, b6⟩
  have HB6 : Hid (Below w.heap.size w w6) := HB5.out.trans (((Below.refl _ _).alloc HB5.out.size _).trans (b6.mono (Nat.le_trans HB5.out.size (by simp))))
  have HS2 := hide (rsame_any 2 c6 2 p6 (some ⟨w6.heap.size, 0, none⟩) [65533, 97] (w6.alloc (Obj.cells #[Value.int .i32 65533, Value.int .i32 97] 21)) (r6.kept ((Below.refl _ _).alloc (Nat.le_refl _) _)) (lit_runes (heap_alloc_new _ _) rfl (by decide)) rfl (by decide))
  clear r6 b6 HD HB5 cv sl
  go_wp2_with fail
  refine HS2.out.mono ?_
  rintro r w7 ⟨rfl, b7⟩
  have HB7 : Hid (Below w.heap.size w w7) := HB6.out.trans (((Below.refl _ _).alloc HB6.out.size _).trans (b7.mono (Nat.le_trans HB6.out.size (by simp))))
  clear b7
  go_wp2_with fail
  go_ret
  exact ⟨rfl, HB7.out⟩
end Go.Proofs.YtijjifdgmffenaaDoor
