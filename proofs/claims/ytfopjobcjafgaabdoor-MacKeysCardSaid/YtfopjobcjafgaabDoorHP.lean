/-
  Parts of a slice of bytes: up to a place, from one on, between two.
-/
import Derived.Test.YtfopjobcjafgaabDoorHG
namespace Go.Proofs.YtfopjobcjafgaabDoor
open Go.RowKit

theorem run_to (w : World) (p : Option Addr) (n cap h : Nat) (hh : h ≤ cap) :
    (Instr.slice 22 (.slice p n cap) none (some (.int .i64 (h : Int))) none).run Tryd.prog w = .ok (.slice p h cap) w := by
  have ht' : Tryd.prog.underlying 22 = some (.slice (Tryd.prog.elem 22)) := by simp [Program.elem, Tryd.underlying22]
  have he : Tryd.prog.elem 22 = 5 := by simp [Program.elem, Tryd.underlying22]
  rw [run_slice_h w 22 _ _ _ ht' .i64 _ (by omega) (by omega), he, size5]
  have h0 : (fun x : Addr => x.add 0) = id := by funext x; simp [Addr.add]
  simp [Result.andThen, sliced, h0]

theorem run_mid (w : World) (p : Option Addr) (n cap l h : Nat) (hl : l ≤ h) (hh : h ≤ cap) :
    (Instr.slice 22 (.slice p n cap) (some (.int .i64 (l : Int))) (some (.int .i64 (h : Int))) none).run Tryd.prog w = .ok (.slice (cutP p l cap) (h - l) (cap - l)) w := by
  have ht' : Tryd.prog.underlying 22 = some (.slice (Tryd.prog.elem 22)) := by simp [Program.elem, Tryd.underlying22]
  have he : Tryd.prog.elem 22 = 5 := by simp [Program.elem, Tryd.underlying22]
  rw [run_slice_lh w 22 _ _ _ ht' .i64 .i64 _ _ (by omega) (by omega) (by omega), he, size5]
  simp [Result.andThen, sliced, cutP]

theorem Piece.take {w : World} {p : Option Addr} {c : Nat} {xs : List Nat} (h : Piece w p c xs) (a : Nat) : Piece w p c (xs.take a) := by
  refine ⟨?_, h.2.1, fun x hx => h.2.2.1 x (List.mem_of_mem_take hx), Nat.le_trans (by simp; omega) h.2.2.2.1, h.2.2.2.2⟩
  rcases h.1 with h0 | ⟨g, o, hp, hc⟩
  · left; simp [h0]
  · exact Or.inr ⟨g, o, hp, fun i hi => by
      have hi' : i < a ∧ i < xs.length := by rw [List.length_take] at hi; omega
      rw [hc i hi'.2]
      simp [List.getD, hi'.1]⟩

theorem Piece.from {w : World} {p : Option Addr} {c : Nat} {xs : List Nat} (h : Piece w p c xs) (l : Nat) (_hl : l ≤ xs.length) : Piece w (cutP p l c) (c - l) (xs.drop l) := by
  refine ⟨bi_from h.1 l c h.2.2.2.1, fun e => ?_, fun x hx => h.2.2.1 x (List.mem_of_mem_drop hx), by have := h.2.2.2.1; simp; omega, by have := h.2.2.2.2; omega⟩
  cases p with
  | none => have := h.2.1 rfl; omega
  | some a => unfold cutP at e; split at e <;> simp at e

/-- an array is no row of bytes -/
theorem own_ne_arr {w : World} {B X : Nat} {v : Value} {n : Nat} {xs vs : List Value} {t : TypeId} (h : w.ownsRow B 5 1 v n xs) (hA : Arr w X t vs) (ht : t ≠ 5) : v.ownBlock ≠ some X := by
  intro e
  rcases h.2 with ⟨rfl, _⟩ | ⟨g, cap, cur, rfl, hb, hg, _⟩
  · simp [Value.ownBlock] at e
  · simp [Value.ownBlock] at e
    subst e
    unfold Arr at hA
    rw [hA] at hg
    simp at hg
    exact ht hg.2

/-- a hash is no row of bytes -/
theorem own_ne {w : World} {B X : Nat} {v : Value} {n : Nat} {xs : List Value} {l : List Nat} (h : w.ownsRow B 5 1 v n xs) (hM : MadeH w X l) : v.ownBlock ≠ some X := by
  obtain ⟨ws, rest, hA, _⟩ := hM
  exact own_ne_arr h hA (by decide)

theorem MadeH.keptR {w w' : World} {g : Nat} {l : List Nat} {r : Option Nat} (h : MadeH w g l) (hg : w.grownBy w' r) (hne : r ≠ some g) : MadeH w' g l := by
  obtain ⟨ws, rest, hA, hR⟩ := h
  exact ⟨ws, rest, (hg.block g hA.lt (fun e => hne e.symm)).trans hA, hR⟩
theorem Arr.keptR {w w' : World} {g : Nat} {t : TypeId} {vs : List Value} {r : Option Nat} (h : Arr w g t vs) (hg : w.grownBy w' r) (hne : r ≠ some g) : Arr w' g t vs := (hg.block g h.lt (fun e => hne e.symm)).trans h

/-- a hash and an array are two -/
theorem made_ne_arr {w : World} {X Y : Nat} {l : List Nat} {t : TypeId} {vs : List Value} (h : MadeH w X l) (hA : Arr w Y t vs) (ht : t ≠ 53) : X ≠ Y := by
  intro e
  subst e
  obtain ⟨ws, rest, hA', _⟩ := h
  unfold Arr at hA hA'
  rw [hA] at hA'
  simp at hA'
  exact ht hA'.2

/-- a row that is laid anew -/
theorem bi_row (w : World) (l : List Nat) : BI (w.alloc (Obj.cells (u8s l).toArray 5)) (some ⟨w.heap.size, 0, none⟩) l :=
  Or.inr ⟨w.heap.size, 0, rfl, fun i hi => by rw [Nat.zero_add]; exact ((Arr.new w 5 (u8s l)).cell i).trans (u8s_at hi)⟩

/-- the digest of pieces that stand in a slice which is laid anew -/
theorem ssum_one (p : Option Addr) (c : Nat) (xs D : List Nat) (v : World) (hp : Piece v p c xs) (hs : xs.length ≤ 100000) (hL : Laid v) (hv : 2 ≤ v.heap.size) (hD : sumF xs = D) :
    Calls Tryd.prog 13 #[.slice (some ⟨v.heap.size, 0, none⟩) 1 1] (v.alloc (Obj.cells #[.slice p xs.length c] 22)) fun e w' => e = .returned (.agg (u8s D).toArray) ∧ Below v.heap.size v w' := by
  have hb : Below v.heap.size v (v.alloc (Obj.cells #[.slice p xs.length c] 22)) := (Below.refl _ _).alloc (Nat.le_refl _) _
  have h := ssum_of (some ⟨v.heap.size, 0, none⟩) 1 1 (fun _ => p) (fun _ => c) (fun _ => xs) D (v.alloc (Obj.cells #[.slice p xs.length c] 22))
    (Or.inr ⟨v.heap.size, 0, rfl, fun i hi => by
      have : i = 0 := by omega
      subst this
      exact cell_of_row _ _ 0 _ _ _ (heap_at v _ _ rfl)⟩)
    (fun i hi => hp.kept hb) (by simpa [joinF] using hs) (by omega) (hL.keptB (B := v.heap.size) hv hb) (by simpa [joinF] using hD)
  exact h.mono fun e w' h => ⟨h.1, hb.trans (h.2.mono hb.size)⟩

def three {α : Type} (a b c : α) : Nat → α
  | 0 => a
  | 1 => b
  | _ => c

theorem ssum_three (p1 p2 p3 : Option Addr) (c1 c2 c3 : Nat) (x1 x2 x3 D : List Nat) (v : World) (h1 : Piece v p1 c1 x1) (h2 : Piece v p2 c2 x2) (h3 : Piece v p3 c3 x3) (hs : x1.length + x2.length + x3.length ≤ 100000) (hL : Laid v) (hv : 2 ≤ v.heap.size) (hD : sumF (x1 ++ x2 ++ x3) = D) :
    Calls Tryd.prog 13 #[.slice (some ⟨v.heap.size, 0, none⟩) 3 3] (v.alloc (Obj.cells #[.slice p1 x1.length c1, .slice p2 x2.length c2, .slice p3 x3.length c3] 22)) fun e w' => e = .returned (.agg (u8s D).toArray) ∧ Below v.heap.size v w' := by
  have hb : Below v.heap.size v (v.alloc (Obj.cells #[.slice p1 x1.length c1, .slice p2 x2.length c2, .slice p3 x3.length c3] 22)) := (Below.refl _ _).alloc (Nat.le_refl _) _
  have h := ssum_of (some ⟨v.heap.size, 0, none⟩) 3 3 (three p1 p2 p3) (three c1 c2 c3) (three x1 x2 x3) D (v.alloc (Obj.cells #[.slice p1 x1.length c1, .slice p2 x2.length c2, .slice p3 x3.length c3] 22))
    (Or.inr ⟨v.heap.size, 0, rfl, fun i hi => by
      match i, hi with
      | 0, _ => exact cell_of_row _ _ 0 _ _ _ (heap_at v _ _ rfl)
      | 1, _ => exact cell_of_row _ _ 1 _ _ _ (heap_at v _ _ rfl)
      | 2, _ => exact cell_of_row _ _ 2 _ _ _ (heap_at v _ _ rfl)⟩)
    (fun i hi => by
      match i, hi with
      | 0, _ => exact h1.kept hb
      | 1, _ => exact h2.kept hb
      | 2, _ => exact h3.kept hb) (by simp [joinF, three]; omega) (by omega) (hL.keptB (B := v.heap.size) hv hb) (by simpa [joinF, three] using hD)
  exact h.mono fun e w' h => ⟨h.1, hb.trans (h.2.mono hb.size)⟩

end Go.Proofs.YtfopjobcjafgaabDoor
