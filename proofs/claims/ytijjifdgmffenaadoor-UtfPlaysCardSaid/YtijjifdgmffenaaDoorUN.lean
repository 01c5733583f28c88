/-
  Runes that are gathered from a decoder, step by step.
-/
import Derived.Test.YtijjifdgmffenaaDoorUL
namespace Go.Proofs.YtijjifdgmffenaaDoor
open Go.RowKit

theorem Kp.mono {B C g : Nat} {a b : World} (h : Kp C g a b) (hB : B ≤ C) : Kp B g a b := ⟨h.os, h.tape, h.output, h.size, fun k hk => h.block k (Nat.lt_of_lt_of_le hk hB)⟩
theorem run_fromL (w : World) (p : Option Addr) (n cap l : Nat) (h : l ≤ n) :
    (Instr.slice 22 (.slice p n cap) (some (.int .i64 (l : Int))) none none).run Tryd.prog w = .ok (.slice (cutP p l cap) (n - l) (cap - l)) w := by
  have ht' : Tryd.prog.underlying 22 = some (.slice (Tryd.prog.elem 22)) := by simp [Program.elem, Tryd.underlying22]
  have he : Tryd.prog.elem 22 = 5 := by simp [Program.elem, Tryd.underlying22]
  rw [run_slice_l w 22 _ _ _ ht' .i64 _ (by omega) (by omega), he, size5]
  simp [Result.andThen, sliced, cutP]
theorem Af.app {w w4 w5 : World} {B g n1 m : Nat} {v1 v5 : Value} {xs1 ys : List Int} {M : Dc} (h : Af w w4 B g n1 v1 xs1 M) (hg : g < B) (ho : w5.ownsRow B 21 1 v5 (n1 + m) (i32s (xs1 ++ ys))) (hw : w4.grownBy w5 v1.ownBlock) : Af w w5 B g (n1 + m) v5 (xs1 ++ ys) M := by
  refine ⟨(hw.block g h.ha.lt fun e => ?_).trans h.ha, ho, h.hk.grown hw h.hB fun k hk => Or.inl (own_ge h.ho k hk), Nat.le_trans h.hB hw.size⟩
  have := own_ge h.ho g e.symm
  omega
theorem Af.kp {w wx wy : World} {B G n : Nat} {v : Value} {xs : List Int} {d d' : Dc} (h : Af w wx B G n v xs d) (hg : G < B) (ha : Arr wy G 41 (dcC d')) (hk : Kp wx.heap.size G wx wy) : Af w wy B G n v xs d' :=
  ⟨ha, own_kp h.ho hk (Nat.le_refl _) hg, h.hk.trans (hk.mono h.hB), Nat.le_trans h.hB hk.size⟩
/-- bytes are put while a row of runes lies by -/
theorem Af.put {w wx : World} {B G n : Nat} {v : Value} {xs : List Int} {d : Dc} (h : Af w wx B G n v xs d) (hg : G < B) (hg0 : 0 < G) (hL : LaidU w) (hd : d.ok) (k cap : Nat) (p : Option Addr) (x : List Nat) (hp : Piece wx p cap x) (hl : x.length = k) (h9 : k ≤ 99000) {d' : Dc} {ts : List Nat} (hr : d.run x = (d', ts)) :
    Calls Tryd.prog 17 #[.pointer (some ⟨G, 0, none⟩), .slice p k cap] wx fun e wy => ∃ p' c', e = .returned (.slice p' ts.length c') ∧ RPiece wy p' c' (ints ts) ∧ Af w wy B G n v xs d' := by
  refine (put_of d G k cap p x wx hd (hL.kp (Nat.lt_trans hg0 hg) hg0 h.hk) h.ha hg0 hp hl h9 hr).mono ?_
  rintro e wy ⟨p', c', rfl, h1, _, h3, h4⟩
  exact ⟨p', c', rfl, h1, h.kp hg h3 h4⟩
theorem Af.end {w wx : World} {B G n : Nat} {v : Value} {xs : List Int} {d : Dc} (h : Af w wx B G n v xs d) (hg : G < B) :
    Calls Tryd.prog 18 #[.pointer (some ⟨G, 0, none⟩)] wx fun e wy => ∃ p' c', e = .returned (.slice p' d.end.length c') ∧ RPiece wy p' c' (ints d.end) ∧ Af w wy B G n v xs (if d.h = 0 then d else Dc.no) := by
  refine (end_any d G wx h.ha).mono ?_
  rintro e wy ⟨p', c', rfl, h1, _, h3, h4⟩
  exact ⟨p', c', rfl, h1, h.kp hg h3 h4⟩
theorem Af.piece {w wx : World} {B G n c : Nat} {v : Value} {xs : List Int} {d d0 : Dc} {p : Option Addr} {bs : List Nat} (h : Af w wx B G n v xs d) (hB : B = w.heap.size) (hA : Arr w G 41 (dcC d0)) (hp : Piece w p c bs) : Piece wx p c bs := by
  subst hB
  exact hp.kp hA h.hk
/-- '[]rune{}' -/
theorem own_empty (w : World) : (w.alloc (.cells #[] 21)).ownsRow w.heap.size 21 1 (.slice (some ⟨w.heap.size, 0, none⟩) 0 0) 0 (i32s []) :=
  World.ownsRow_made w #[] 0 (Nat.le_refl _) (Nat.zero_le _) rfl
end Go.Proofs.YtijjifdgmffenaaDoor
