/-
  Plain: what a joiner tells of a piece, and how it stands then. A walk of the document's answer: Put.
-/
import Derived.Test.YtecpnnnkkofejaaGD
namespace Go.Proofs.Ytecpnnnkkofejaa
open Go.RowKit

/-- a joiner -/
structure Js where
  met : Bool
  done : Bool
  i : Nat
  must : Nat
  l : List Pc
def Js.none : Js := ⟨false, false, 0, 0, []⟩
/-- done with a text -/
def Js.over (i : Nat) : Js := ⟨true, true, i, 0, []⟩
/-- it goes on with this text -/
def Js.meet (s : Js) (x : Pc) : Js := if s.met = false ∨ s.i < x.i then ⟨true, false, x.i, 0, []⟩ else s
def Js.has (s : Js) (a : Int) : Bool := s.l.any fun x => x.a == a
/-- the piece is nothing to it -/
def Js.stop (s : Js) (x : Pc) : Bool := s.done || s.has x.a || (decide (0 < s.must) && decide ((s.must : Int) ≤ x.a))
def Js.hold (s : Js) (x : Pc) : Js := ⟨s.met, s.done, s.i, s.must, s.l ++ [x]⟩
/-- how many there must be -/
def Js.bound (s : Js) (x : Pc) : Js := if x.l = true ∧ s.must = 0 then ⟨s.met, s.done, s.i, x.a.toNat + 1, s.l.filter fun y => decide (y.a < x.a + 1)⟩ else s
def sizeL : List Pc → Nat
  | [] => 0
  | x :: l => x.b.length + sizeL l
def Js.at (s : Js) (a : Int) : List Nat := match s.l.find? fun x => x.a == a with | .some x => x.b | .none => []
/-- the text -/
def Js.whole (s : Js) : Nat → List Nat
  | 0 => []
  | k + 1 => Js.whole s k ++ s.at (k : Int)
/-- what is told: the text, whether, the error -/
def Js.tell (s : Js) (x : Pc) : List Nat × Bool × Int :=
  if x.e ≠ 0 then ([], false, x.e)
  else if s.met = true ∧ x.i < s.i then ([], false, 0)
  else if (s.meet x).stop x = true then ([], false, 0)
  else if 65536 < sizeL (((s.meet x).hold x).bound x).l then ([], false, 3)
  else if (((s.meet x).hold x).bound x).must = 0 ∨ (((s.meet x).hold x).bound x).l.length < (((s.meet x).hold x).bound x).must then ([], false, 0)
  else ((((s.meet x).hold x).bound x).whole (((s.meet x).hold x).bound x).must, true, 0)
/-- how it stands then -/
def Js.next (s : Js) (x : Pc) : Js :=
  if x.e ≠ 0 then s
  else if s.met = true ∧ x.i < s.i then s
  else if (s.meet x).stop x = true then s.meet x
  else if 65536 < sizeL (((s.meet x).hold x).bound x).l then Js.over x.i
  else if (((s.meet x).hold x).bound x).must = 0 ∨ (((s.meet x).hold x).bound x).l.length < (((s.meet x).hold x).bound x).must then ((s.meet x).hold x).bound x
  else Js.over x.i

/-- a joiner in memory -/
def RP (w : World) (B g : Nat) (s : Js) : Prop := ∃ q d ks, RJ w B g s.met s.done s.i (s.must : Int) q d ks ∧ ks.map Pk.x = s.l
theorem RP.kept {w w' : World} {B g : Nat} {s : Js} (h : RP w B g s) (hb : Below w.heap.size w w') : RP w' B g s := by
  obtain ⟨q, d, ks, h1, h2⟩ := h
  exact ⟨q, d, ks, h1.kept hb, h2⟩
/-- .. whose row of pieces is not block N -/
def RPn (w : World) (B g N : Nat) (s : Js) : Prop := ∃ q d ks, RJ w B g s.met s.done s.i (s.must : Int) q d ks ∧ ks.map Pk.x = s.l ∧ ∀ a, q = some a → a.block ≠ N
theorem RPn.rp {w : World} {B g N : Nat} {s : Js} (h : RPn w B g N s) : RP w B g s := by
  obtain ⟨q, d, ks, h1, h2, _⟩ := h
  exact ⟨q, d, ks, h1, h2⟩
theorem RPn.kept {w w' : World} {B g N : Nat} {s : Js} (h : RPn w B g N s) (hb : Below w.heap.size w w') : RPn w' B g N s := by
  obtain ⟨q, d, ks, h1, h2, h3⟩ := h
  exact ⟨q, d, ks, h1.kept hb, h2, h3⟩
theorem RP.far {w : World} {B g : Nat} {s : Js} (h : RP w B g s) : RPn w B g w.heap.size s := by
  obtain ⟨q, d, ks, h1, h2⟩ := h
  refine ⟨q, d, ks, h1, h2, fun a ha e => ?_⟩
  rcases h1.o.2 with ⟨h0, _⟩ | ⟨b, cap, cur, h0, _, hg, _⟩
  · simp at h0
    rw [h0.1] at ha
    cases ha
  · simp at h0
    rw [h0.1] at ha
    cases ha
    rw [show b = w.heap.size from e, Array.getElem?_eq_none (Nat.le_refl _)] at hg
    cases hg
theorem sum_map : ∀ ks : List Pk, sumB ks = sizeL (ks.map Pk.x)
  | [] => rfl
  | k :: l => by simp [sumB, sizeL, sum_map l]
theorem find_map (ks : List Pk) (a : Int) : (ks.map Pk.x).find? (fun x => x.a == a) = (findP ks a).map Pk.x := by
  induction ks with
  | nil => rfl
  | cons k l ih =>
    rw [List.map_cons, List.find?_cons, findP, List.find?_cons]
    rw [findP] at ih
    cases h : k.x.a == a
    · simpa using ih
    · simp
theorem has_map (s : Js) (ks : List Pk) (a : Int) (h : ks.map Pk.x = s.l) : s.has a = (findP ks a).isSome := by
  have h1 := find_map ks a
  rw [h] at h1
  rw [Js.has]
  cases hf : findP ks a with
  | none =>
    rw [hf] at h1
    have h2 := List.find?_eq_none.1 h1
    simp only [Option.isSome_none, List.any_eq_false]
    exact fun x hx => h2 x hx
  | some k =>
    rw [hf] at h1
    simp only [Option.isSome_some, List.any_eq_true]
    have h2 := List.find?_some h1
    exact ⟨k.x, List.mem_of_find?_eq_some h1, h2⟩
theorem at_map (s : Js) (ks : List Pk) (a : Int) (h : ks.map Pk.x = s.l) : (atX ks a).b = s.at a := by
  have h1 := find_map ks a
  rw [h] at h1
  rw [Js.at, h1, atX]
  cases findP ks a <;> rfl

/-- what has grown, and has changed in the blocks of S alone -/
structure Grow (w w' : World) (S : Nat → Prop) : Prop where
  os : w'.os = w.os
  tape : w'.tape = w.tape
  output : w'.output = w.output
  size : w.heap.size ≤ w'.heap.size
  block : ∀ k, k < w.heap.size → ¬ S k → w'.heap[k]? = w.heap[k]?
theorem Grow.refl (w : World) (S : Nat → Prop) : Grow w w S := ⟨rfl, rfl, rfl, Nat.le_refl _, fun _ _ _ => rfl⟩
theorem Grow.below {w w1 w2 : World} {S : Nat → Prop} (h : Grow w w1 S) (hb : Below w1.heap.size w1 w2) : Grow w w2 S :=
  ⟨hb.os.trans h.os, hb.tape.trans h.tape, hb.output.trans h.output, Nat.le_trans h.size hb.size, fun k hk hn => (hb.block k (Nat.lt_of_lt_of_le hk h.size)).trans (h.block k hk hn)⟩
theorem Grow.grown {w w1 w2 : World} {S : Nat → Prop} {r : Option Nat} (h : Grow w w1 S) (hg : w1.grownBy w2 r) (hr : ∀ k, r = some k → k < w.heap.size → S k) : Grow w w2 S :=
  ⟨hg.os.trans h.os, hg.tape.trans h.tape, hg.output.trans h.output, Nat.le_trans h.size hg.size, fun k hk hn => (hg.block k (Nat.lt_of_lt_of_le hk h.size) (fun e => hn (hr k e.symm hk))).trans (h.block k hk hn)⟩
theorem Grow.drew {w w1 : World} {S : Nat → Prop} (h : Grow w w1 S) : Grow w w1.drew S := ⟨h.os, h.tape, h.output, h.size, h.block⟩

/-- what Put may change: the joiner, and rows of pieces -/
def SP (w : World) (B g k : Nat) : Prop := k = g ∨ (B ≤ k ∧ ∃ cs fr, w.heap[k]? = some (.cells cs 25 fr))
theorem grow_row {w wr w' : World} {B g : Nat} {v : Value} {n : Nat} {xs : List Value} (h : Grow w wr (SP w B g)) (ho : wr.ownsRow B 25 4 v n xs) (hg : wr.grownBy w' v.ownBlock) : Grow w w' (SP w B g) :=
  h.grown hg fun k hk hlt => Classical.byContradiction fun hn => by
    have h1 := h.block k hlt hn
    rcases ho.2 with ⟨rfl, _⟩ | ⟨b, cap, cur, rfl, hb, hgt, _⟩
    · simp [Value.ownBlock] at hk
    · simp [Value.ownBlock] at hk
      subst hk
      exact hn (Or.inr ⟨hb, _, _, by rw [← h1]; exact hgt⟩)

/-- what lies in memory: the joiner, the box of the piece, its bytes -/
structure StP (w wr : World) (B g : Nat) (s : Js) (x : Pc) (p : Option Addr) (c : Nat) : Prop where
  j : RPn wr B g w.heap.size s
  b : Arr wr w.heap.size 25 (pcC x p c)
  t : Piece wr p c x.b
  w : Grow w wr (SP w B g)
theorem StP.kept {w wr w' : World} {B g c : Nat} {s : Js} {x : Pc} {p : Option Addr} (h : StP w wr B g s x p c) (hb : Below wr.heap.size wr w') : StP w w' B g s x p c := ⟨h.j.kept hb, h.b.kept hb, h.t.kept hb, h.w.below hb⟩
theorem StP.drew {w wr : World} {B g c : Nat} {s : Js} {x : Pc} {p : Option Addr} (h : StP w wr B g s x p c) : StP w wr.drew B g s x p c := h.kept (Below.refl _ _).drew
theorem StP.box {w wr : World} {B g c : Nat} {s : Js} {x : Pc} {p : Option Addr} (h : StP w wr B g s x p c) : wr.cell? ⟨w.heap.size, 0, none⟩ = some (.int .u64 (x.i : Int)) ∧ wr.cell? ⟨w.heap.size, 1, none⟩ = some (.int .i64 x.a) ∧ wr.cell? ⟨w.heap.size, 2, none⟩ = some (.bool x.l) ∧ wr.cell? ⟨w.heap.size, 3, none⟩ = some (.slice p x.b.length c) := ⟨h.b.cell 0, h.b.cell 1, h.b.cell 2, h.b.cell 3⟩

/-- the joiner's five cells -/
theorem RPn.cells {w : World} {B g N : Nat} {s : Js} (h : RPn w B g N s) : w.cell? ⟨g, 0, none⟩ = some (.bool s.met) ∧ w.cell? ⟨g, 1, none⟩ = some (.bool s.done) ∧ w.cell? ⟨g, 2, none⟩ = some (.int .u64 (s.i : Int)) ∧ w.cell? ⟨g, 3, none⟩ = some (.int .i64 (s.must : Int)) := by
  obtain ⟨q, d, ks, h1, _, _⟩ := h
  exact ⟨h1.j.cell 0, h1.j.cell 1, h1.j.cell 2, h1.j.cell 3⟩
theorem infoJ : (Try.prog.info? 45).map (·.size) = some 5 := by kernel_rfl

/-- how it begins -/
theorem stp_start {w : World} {B g c : Nat} {s : Js} {x : Pc} {p : Option Addr} (h : RP w B g s) (ht : Piece w p c x.b) :
    StP w (w.alloc (Obj.cells #[.int .u64 (x.i : Int), .int .i64 x.a, .bool x.l, .slice p x.b.length c] 25)) B g s x p c :=
  ⟨h.far.kept (pc_box w x p c).2, (pc_box w x p c).1, ht.kept (pc_box w x p c).2, (Grow.refl _ _).below (pc_box w x p c).2⟩

theorem OB.from {w : World} {B C : Nat} {p : Option Addr} {b : List Nat} (h : OB w C p b) (hB : B ≤ C) : OB w B p b := ⟨h.1, fun a ha hn => ⟨Nat.le_trans hB (h.2 a ha hn).1, (h.2 a ha hn).2⟩⟩
/-- the joiner lies apart from the bytes -/
def Apt (p : Option Addr) (b : List Nat) (g : Nat) : Prop := ∀ a, p = some a → b ≠ [] → a.block ≠ g

set_option maxHeartbeats 8000000 in
set_option maxRecDepth 100000 in
theorem rput_no (w : World) (B g c : Nat) (s : Js) (x : Pc) (E : Int) (p : Option Addr) (h : RP w B g s) (ht : Piece w p c x.b) (hE : x.e = E) (h0 : E ≠ 0 ∨ (s.met = true ∧ x.i < s.i)) :
    Calls Try.prog 21 #[.pointer (some ⟨g, 0, none⟩), pcV x p c] w fun e w' => e = .returned (.tuple #[.slice none 0 0, .bool false, .int .i64 E]) ∧ RP w' B g s ∧ Grow w w' (SP w B g) := by
  have A1 := hide (stp_start h ht)
  have HM : Hid (∀ v : World, Calls Try.prog 11 #[pcV x p c] v fun e w' => e = .returned (.int .i64 E) ∧ Below v.heap.size v w') := fun v => by
    have := rpmay_any x p c v
    rwa [hE] at this
  have H0 := hide h0
  clear h ht hE h0
  go_enter Try.func21, Try.ntmps21
  go_upto_region 1 with fail
  generalize w.alloc (Obj.cells #[.int .u64 (x.i : Int), .int .i64 x.a, .bool x.l, .slice p x.b.length c] 25) = w1 at *
  go_wp2_with (refine wpList_exec (by rfl) _ (exec_load_all 25 (.tmp 3) rfl w.heap.size rfl 25 (pcC x p c) _ A1.out.b Try.underlying25 rfl infoPc) ?_)
  refine (HM.out w1).mono ?_
  rintro e w2 ⟨rfl, hb⟩
  have A2 := hide (A1.out.kept hb)
  clear hb A1 HM
  by_cases hE : E = 0
  · subst hE
    obtain ⟨hm, hi⟩ : s.met = true ∧ x.i < s.i := by
      rcases H0.out with h | h
      · exact (h rfl).elim
      · exact h
    have hii : (x.i : Int) < (s.i : Int) := by omega
    obtain ⟨c0, c1, c2, c3⟩ := A2.out.j.cells
    obtain ⟨b0, b1, b2, b3⟩ := A2.out.box
    rw [hm] at c0
    clear H0 hm hi
    go_upto_region 4 with fail
    refine wp_region_held_drew (S := fun v => Hid (v = w2.drew)) (by kernel_rfl) (hide rfl) (fun hHeld => ?_)
    refine take_dstH (i := 0) (d := 21) (v := ?_) rfl rfl (by kernel_rfl) (by kernel_rfl) (by kernel_rfl) (fun _ _ _ h => h) (by rfl) hHeld ?_ ?_
    rotate_left
    · intro wZ hSw; clear hSw; go_simp; first | (with_reducible rfl) | (rw [if_pos (by omega)]; with_reducible rfl) | skip
    try simp only [Act.put, List.setIfInBounds_toArray, List.set_cons_zero, List.set_cons_succ]
    refine take_dstH (i := 1) (d := 22) (v := ?_) rfl rfl (by kernel_rfl) (by kernel_rfl) (by kernel_rfl) (fun _ _ _ h => h) (by rfl) hHeld ?_ ?_
    rotate_left
    · intro wZ hSw; clear hSw; go_simp; first | (with_reducible rfl) | (rw [if_pos (by omega)]; with_reducible rfl) | skip
    try simp only [Act.put, List.setIfInBounds_toArray, List.set_cons_zero, List.set_cons_succ]
    refine take_dstH (i := 2) (d := 23) (v := ?_) rfl rfl (by kernel_rfl) (by kernel_rfl) (by kernel_rfl) (fun _ _ _ h => h) (by rfl) hHeld ?_ ?_
    rotate_left
    · intro wZ hSw; clear hSw; go_simp; first | (with_reducible rfl) | (rw [if_pos (by omega)]; with_reducible rfl) | skip
    try simp only [Act.put, List.setIfInBounds_toArray, List.set_cons_zero, List.set_cons_succ]
    refine take_dstH (i := 3) (d := 24) (v := ?_) rfl rfl (by kernel_rfl) (by kernel_rfl) (by kernel_rfl) (fun _ _ _ h => h) (by rfl) hHeld ?_ ?_
    rotate_left
    · intro wZ hSw; have hfS := (fun (v : World) (hv : Hid (v = w2.drew)) => show v.cell? ⟨g, 0, none⟩ = some (.bool true) from by rw [hv.out]; exact c0) wZ hSw; clear hSw; go_simp; first | (with_reducible rfl) | (rw [if_pos (by omega)]; with_reducible rfl) | skip
    try simp only [Act.put, List.setIfInBounds_toArray, List.set_cons_zero, List.set_cons_succ]
    refine take_dstH (i := 4) (d := 25) (v := ?_) rfl rfl (by kernel_rfl) (by kernel_rfl) (by kernel_rfl) (fun _ _ _ h => h) (by rfl) hHeld ?_ ?_
    rotate_left
    · intro wZ hSw; clear hSw; go_simp; first | (with_reducible rfl) | (rw [if_pos (by omega)]; with_reducible rfl) | skip
    try simp only [Act.put, List.setIfInBounds_toArray, List.set_cons_zero, List.set_cons_succ]
    refine take_dstH (i := 5) (d := 26) (v := ?_) rfl rfl (by kernel_rfl) (by kernel_rfl) (by kernel_rfl) (fun _ _ _ h => h) (by rfl) hHeld ?_ ?_
    rotate_left
    · intro wZ hSw; clear hSw; go_simp; first | (with_reducible rfl) | (rw [if_pos (by omega)]; with_reducible rfl) | skip
    try simp only [Act.put, List.setIfInBounds_toArray, List.set_cons_zero, List.set_cons_succ]
    refine take_dstH (i := 6) (d := 27) (v := ?_) rfl rfl (by kernel_rfl) (by kernel_rfl) (by kernel_rfl) (fun _ _ _ h => h) (by rfl) hHeld ?_ ?_
    rotate_left
    · intro wZ hSw; have hfS := (fun (v : World) (hv : Hid (v = w2.drew)) => show v.cell? ⟨w.heap.size, 0, none⟩ = some (.int .u64 (x.i : Int)) from by rw [hv.out]; exact b0) wZ hSw; clear hSw; go_simp; first | (with_reducible rfl) | (rw [if_pos (by omega)]; with_reducible rfl) | skip
    try simp only [Act.put, List.setIfInBounds_toArray, List.set_cons_zero, List.set_cons_succ]
    refine take_dstH (i := 7) (d := 28) (v := ?_) rfl rfl (by kernel_rfl) (by kernel_rfl) (by kernel_rfl) (fun _ _ _ h => h) (by rfl) hHeld ?_ ?_
    rotate_left
    · intro wZ hSw; clear hSw; go_simp; first | (with_reducible rfl) | (rw [if_pos (by omega)]; with_reducible rfl) | skip
    try simp only [Act.put, List.setIfInBounds_toArray, List.set_cons_zero, List.set_cons_succ]
    refine take_dstH (i := 8) (d := 29) (v := ?_) rfl rfl (by kernel_rfl) (by kernel_rfl) (by kernel_rfl) (fun _ _ _ h => h) (by rfl) hHeld ?_ ?_
    rotate_left
    · intro wZ hSw; clear hSw; go_simp; first | (with_reducible rfl) | (rw [if_pos (by omega)]; with_reducible rfl) | skip
    try simp only [Act.put, List.setIfInBounds_toArray, List.set_cons_zero, List.set_cons_succ]
    refine take_dstH (i := 9) (d := 30) (v := ?_) rfl rfl (by kernel_rfl) (by kernel_rfl) (by kernel_rfl) (fun _ _ _ h => h) (by rfl) hHeld ?_ ?_
    rotate_left
    · intro wZ hSw; clear hSw; go_simp; first | (with_reducible rfl) | (rw [if_pos (by omega)]; with_reducible rfl) | skip
    try simp only [Act.put, List.setIfInBounds_toArray, List.set_cons_zero, List.set_cons_succ]
    refine take_dstH (i := 10) (d := 31) (v := ?_) rfl rfl (by kernel_rfl) (by kernel_rfl) (by kernel_rfl) (fun _ _ _ h => h) (by rfl) hHeld ?_ ?_
    rotate_left
    · intro wZ hSw; have hfS := (fun (v : World) (hv : Hid (v = w2.drew)) => show v.cell? ⟨g, 2, none⟩ = some (.int .u64 (s.i : Int)) from by rw [hv.out]; exact c2) wZ hSw; clear hSw; go_simp; first | (with_reducible rfl) | (rw [if_pos (by omega)]; with_reducible rfl) | skip
    try simp only [Act.put, List.setIfInBounds_toArray, List.set_cons_zero, List.set_cons_succ]
    refine take_dstH (i := 11) (d := 32) (v := ?_) rfl rfl (by kernel_rfl) (by kernel_rfl) (by kernel_rfl) (fun _ _ _ h => h) (by rfl) hHeld ?_ ?_
    rotate_left
    · intro wZ hSw; clear hSw; go_simp; first | (with_reducible rfl) | (rw [if_pos (by omega)]; with_reducible rfl) | skip
    try simp only [Act.put, List.setIfInBounds_toArray, List.set_cons_zero, List.set_cons_succ]
    refine take_dstH (i := 12) (d := 33) (v := ?_) rfl rfl (by kernel_rfl) (by kernel_rfl) (by kernel_rfl) (fun _ _ _ h => h) (by rfl) hHeld ?_ ?_
    rotate_left
    · intro wZ hSw; clear hSw; go_simp; first | (with_reducible rfl) | (rw [if_pos (by omega)]; with_reducible rfl) | skip
    try simp only [Act.put, List.setIfInBounds_toArray, List.set_cons_zero, List.set_cons_succ]
    refine wpAnyH_done (by kernel_rfl) ?_ _
    go_wp2
    go_ret3
    exact ⟨rfl, A2.out.drew.j.rp, A2.out.drew.w⟩
  · have hne : (E != 0) = true := by simpa using hE
    clear H0 hE
    go_wp2
    go_ret3
    exact ⟨rfl, A2.out.j.rp, A2.out.w⟩

end Go.Proofs.Ytecpnnnkkofejaa
