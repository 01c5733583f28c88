/-
  Of at few pieces; a walk: known: some of the chapter's rows come out as they stand there.
-/
import Derived.Test.YtfopjobcjafgaabDoorMB
import Derived.Test.YtfopjobcjafgaabDoorME
import Derived.Test.YtfopjobcjafgaabDoorMH
namespace Go.Proofs.YtfopjobcjafgaabDoor
open Go.RowKit

def two {α : Type} (a b : α) : Nat → α
  | 0 => a
  | _ => b

theorem of_none (p : Option Addr) (c : Nat) (key D : List Nat) (v : World) (hP : Piece v p c key) (hk : key.length ≤ 100000) (hL : Laid v) (hD : macF key [] = D) :
    Calls Tryd.prog 8 #[.slice p key.length c, .slice none 0 0] v fun e w' => e = .returned (.agg (u8s D).toArray) ∧ Below v.heap.size v w' :=
  of_any p c key none 0 0 (fun _ => none) (fun _ => 0) (fun _ => []) D v hP hk (Or.inl rfl) (fun i hi => absurd hi (Nat.not_lt_zero _)) (by simp [joinF]) (by omega) hL hD

theorem of_one (p : Option Addr) (c : Nat) (key : List Nat) (q cc : Nat) (p1 : Option Addr) (c1 : Nat) (x1 D : List Nat) (v : World) (hP : Piece v p c key) (hk : key.length ≤ 100000)
    (h1 : Piece v p1 c1 x1) (hs : x1.length ≤ 90000) (hq0 : v.cell? ⟨q, 0, none⟩ = some (.slice p1 x1.length c1)) (hL : Laid v) (hD : macF key x1 = D) :
    Calls Tryd.prog 8 #[.slice p key.length c, .slice (some ⟨q, 0, none⟩) 1 cc] v fun e w' => e = .returned (.agg (u8s D).toArray) ∧ Below v.heap.size v w' :=
  of_any p c key (some ⟨q, 0, none⟩) 1 cc (fun _ => p1) (fun _ => c1) (fun _ => x1) D v hP hk (Or.inr ⟨q, 0, rfl, fun i hi => by
    have : i = 0 := by omega
    subst this
    exact hq0⟩) (fun _ _ => h1) (by simpa [joinF] using hs) (by omega) hL (by simpa [joinF] using hD)

theorem of_two (p : Option Addr) (c : Nat) (key : List Nat) (q cc : Nat) (p1 p2 : Option Addr) (c1 c2 : Nat) (x1 x2 D : List Nat) (v : World) (hP : Piece v p c key) (hk : key.length ≤ 100000)
    (h1 : Piece v p1 c1 x1) (h2 : Piece v p2 c2 x2) (hs : x1.length + x2.length ≤ 90000) (hq0 : v.cell? ⟨q, 0, none⟩ = some (.slice p1 x1.length c1)) (hq1 : v.cell? ⟨q, 1, none⟩ = some (.slice p2 x2.length c2)) (hL : Laid v) (hD : macF key (x1 ++ x2) = D) :
    Calls Tryd.prog 8 #[.slice p key.length c, .slice (some ⟨q, 0, none⟩) 2 cc] v fun e w' => e = .returned (.agg (u8s D).toArray) ∧ Below v.heap.size v w' :=
  of_any p c key (some ⟨q, 0, none⟩) 2 cc (two p1 p2) (two c1 c2) (two x1 x2) D v hP hk (Or.inr ⟨q, 0, rfl, fun i hi => by
    match i, hi with
    | 0, _ => exact hq0
    | 1, _ => exact hq1⟩) (fun i hi => by
    match i, hi with
    | 0, _ => exact h1
    | 1, _ => exact h2) (by simp [joinF, two]; omega) (by omega) hL (by simpa [joinF, two] using hD)

theorem of_three (p : Option Addr) (c : Nat) (key : List Nat) (q cc : Nat) (p1 p2 p3 : Option Addr) (c1 c2 c3 : Nat) (x1 x2 x3 D : List Nat) (v : World) (hP : Piece v p c key) (hk : key.length ≤ 100000)
    (h1 : Piece v p1 c1 x1) (h2 : Piece v p2 c2 x2) (h3 : Piece v p3 c3 x3) (hs : x1.length + x2.length + x3.length ≤ 90000) (hq0 : v.cell? ⟨q, 0, none⟩ = some (.slice p1 x1.length c1)) (hq1 : v.cell? ⟨q, 1, none⟩ = some (.slice p2 x2.length c2)) (hq2 : v.cell? ⟨q, 2, none⟩ = some (.slice p3 x3.length c3)) (hL : Laid v) (hD : macF key (x1 ++ x2 ++ x3) = D) :
    Calls Tryd.prog 8 #[.slice p key.length c, .slice (some ⟨q, 0, none⟩) 3 cc] v fun e w' => e = .returned (.agg (u8s D).toArray) ∧ Below v.heap.size v w' :=
  of_any p c key (some ⟨q, 0, none⟩) 3 cc (three p1 p2 p3) (three c1 c2 c3) (three x1 x2 x3) D v hP hk (Or.inr ⟨q, 0, rfl, fun i hi => by
    match i, hi with
    | 0, _ => exact hq0
    | 1, _ => exact hq1
    | 2, _ => exact hq2⟩) (fun i hi => by
    match i, hi with
    | 0, _ => exact h1
    | 1, _ => exact h2
    | 2, _ => exact h3) (by simp [joinF, three]; omega) (by omega) hL (by simpa [joinF, three] using hD)

/-- bytes of a block -/
theorem piece_obj {w : World} {g n : Nat} {l : List Nat} {fr : Nat × Nat} (h : w.heap[g]? = some (.cells (u8s l).toArray 5 fr)) (hn : l.length = n) (hb : BytesN l) (hl : n ≤ 1000) : Piece w (some ⟨g, 0, none⟩) n l :=
  ⟨Or.inr ⟨g, 0, rfl, fun i hi => by rw [Nat.zero_add, cell_of_row _ _ _ _ _ _ h]; simpa using u8s_at hi⟩, (fun e => by cases e), hb, by omega, by unfold maxLen; omega⟩

theorem alloc4 (v : World) (A B C D : Obj) : ((((v.alloc A).alloc B).alloc C).alloc D).heap[v.heap.size]? = some A ∧ ((((v.alloc A).alloc B).alloc C).alloc D).heap[v.heap.size + 1]? = some B ∧ ((((v.alloc A).alloc B).alloc C).alloc D).heap[v.heap.size + 1 + 1]? = some C ∧ ((((v.alloc A).alloc B).alloc C).alloc D).heap[v.heap.size + 1 + 1 + 1]? = some D := by
  refine ⟨?_, ?_, ?_, ?_⟩
  · rw [heap_keep _ _ _ (by simp; try omega)]; exact (alloc3 v A B C).1
  · rw [heap_keep _ _ _ (by simp; try omega)]; exact (alloc3 v A B C).2.1
  · rw [heap_keep _ _ _ (by simp)]; exact (alloc3 v A B C).2.2
  · rw [heap_at _ _ _ (by simp)]

def keyO : Obj := Obj.cells (u8s keyT).toArray 5 (3, 4)
def fox1O : Obj := Obj.cells (u8s fox1T).toArray 5 (20, 21)
def fox2O : Obj := Obj.cells (u8s fox2T).toArray 5 (23, 24)
def foxesO (g : Nat) : Obj := Obj.cells #[.slice (some ⟨g, 0, none⟩) 20 20, .slice (some ⟨g + 1, 0, none⟩) 23 23] 22

theorem of_fox (v : World) (hL : Laid v) (hv : 2 ≤ v.heap.size) :
    Calls Tryd.prog 8 #[.slice (some ⟨v.heap.size, 0, none⟩) 3 3, .slice (some ⟨v.heap.size + 1 + 1 + 1, 0, none⟩) 2 2] ((((v.alloc keyO).alloc fox1O).alloc fox2O).alloc (foxesO (v.heap.size + 1)))
      fun e w' => e = .returned (.agg (u8s markFox).toArray) ∧ Below v.heap.size v w' := by
  have hb : Below v.heap.size v ((((v.alloc keyO).alloc fox1O).alloc fox2O).alloc (foxesO (v.heap.size + 1))) := ((((Below.refl _ _).alloc (Nat.le_refl _) _).alloc (by simp) _).alloc (by simp; omega) _).alloc (by simp; omega) _
  have h4 := alloc4 v keyO fox1O fox2O (foxesO (v.heap.size + 1))
  have kb : BytesN keyT := by intro x hx; simp [keyT] at hx; omega
  have f1b : BytesN fox1T := by intro x hx; simp [fox1T] at hx; omega
  have f2b : BytesN fox2T := by intro x hx; simp [fox2T] at hx; omega
  have h := of_two (some ⟨v.heap.size, 0, none⟩) 3 keyT (v.heap.size + 1 + 1 + 1) 2 (some ⟨v.heap.size + 1, 0, none⟩) (some ⟨v.heap.size + 1 + 1, 0, none⟩) 20 23 fox1T fox2T markFox _
    (piece_obj h4.1 rfl kb (by omega)) (by simp [keyT]) (piece_obj h4.2.1 rfl f1b (by omega)) (piece_obj h4.2.2.1 rfl f2b (by omega)) (by simp [fox1T, fox2T])
    (cell_of_row _ _ 0 _ _ _ h4.2.2.2) (cell_of_row _ _ 1 _ _ _ h4.2.2.2) (hL.keptB (B := v.heap.size) hv hb) mark_fox
  exact h.mono fun e w' h => ⟨h.1, hb.trans (h.2.mono hb.size)⟩

def abO : Obj := Obj.cells #[Value.int .u8 97, Value.int .u8 98] 5 (2, 3)
def aO : Obj := Obj.cells #[Value.int .u8 97] 5 (1, 2)

theorem ab_bytes : BytesN [97, 98] := by intro x hx; simp at hx; omega
theorem a_bytes : BytesN [97] := by intro x hx; simp at hx; omega

theorem same_ab (v : World) :
    Calls Tryd.prog 10 #[.slice (some ⟨v.heap.size, 0, none⟩) 2 2, .slice (some ⟨v.heap.size + 1, 0, none⟩) 2 2] ((v.alloc abO).alloc abO) fun e w' => e = .returned (.bool true) ∧ Below v.heap.size v w' := by
  have hb : Below v.heap.size v ((v.alloc abO).alloc abO) := ((Below.refl _ _).alloc (Nat.le_refl _) _).alloc (by simp) _
  have h1 : ((v.alloc abO).alloc abO).heap[v.heap.size]? = some abO := by rw [heap_keep _ _ _ (by simp), heap_at _ _ _ rfl]
  have h2 : ((v.alloc abO).alloc abO).heap[v.heap.size + 1]? = some abO := heap_at _ _ _ (by simp)
  have h := same_any (some ⟨v.heap.size, 0, none⟩) (some ⟨v.heap.size + 1, 0, none⟩) 2 2 [97, 98] [97, 98] _ (piece_obj (l := [97, 98]) h1 rfl ab_bytes (by omega)) (piece_obj (l := [97, 98]) h2 rfl ab_bytes (by omega))
  exact h.mono fun e w' h => ⟨h.1, hb.trans (h.2.mono hb.size)⟩

theorem same_a (v : World) :
    Calls Tryd.prog 10 #[.slice (some ⟨v.heap.size, 0, none⟩) 2 2, .slice (some ⟨v.heap.size + 1, 0, none⟩) 1 1] ((v.alloc abO).alloc aO) fun e w' => e = .returned (.bool false) ∧ Below v.heap.size v w' := by
  have hb : Below v.heap.size v ((v.alloc abO).alloc aO) := ((Below.refl _ _).alloc (Nat.le_refl _) _).alloc (by simp) _
  have h1 : ((v.alloc abO).alloc aO).heap[v.heap.size]? = some abO := by rw [heap_keep _ _ _ (by simp), heap_at _ _ _ rfl]
  have h2 : ((v.alloc abO).alloc aO).heap[v.heap.size + 1]? = some aO := heap_at _ _ _ (by simp)
  have h := same_any (some ⟨v.heap.size, 0, none⟩) (some ⟨v.heap.size + 1, 0, none⟩) 2 1 [97, 98] [97] _ (piece_obj (l := [97, 98]) h1 rfl ab_bytes (by omega)) (piece_obj (l := [97]) h2 rfl a_bytes (by omega))
  exact h.mono fun e w' h => ⟨h.1, hb.trans (h.2.mono hb.size)⟩

end Go.Proofs.YtfopjobcjafgaabDoor
