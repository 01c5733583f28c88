/-
  Several texts, joined: SH, SN.
-/
import Derived.Test.YtbmjlofehbbkbaaDoorJA
import Derived.Test.YtbmjlofehbbkbaaDoorJB
import Derived.Test.YtbmjlofehbbkbaaDoorJC

/- A walk: the reference's Block: the eight words behind a block is taken into h. -/
namespace Go.Proofs.YtbmjlofehbbkbaaDoor
open Go.RowKit

theorem info22 : (Tryd.prog.info? 120).map (·.size) = some 1 := by kernel_rfl

theorem below_set {B : Nat} {w w' : World} (h : Below B w w') (Y j : Nat) (hY : B ≤ Y) (v : Value) : Below B w (w'.setCell ⟨Y, j, none⟩ v) := h.setCell hY v

/-- what lies in memory while the reference takes a block -/
def RB (w wr : World) (g o : Nat) (h b wl : List Nat) : Prop :=
  Arr wr w.heap.size 121 (u32s h) ∧ Arr wr (w.heap.size + 1) 140 (u32s turnT) ∧ Arr wr (w.heap.size + 1 + 1) 121 (u32s (List.replicate 8 0)) ∧
  Arr wr (w.heap.size + 1 + 1 + 1) 140 (u32s wl) ∧ Bts wr g o b ∧ Below w.heap.size w wr

theorem RB.set {w wr : World} {g o : Nat} {h b wl : List Nat} (r : RB w wr g o h b wl) (hg : g < w.heap.size) (i x : Nat) :
    RB w (wr.setCell ⟨w.heap.size + 1 + 1 + 1, i, none⟩ (.int .u32 ((x : Nat) : Int))) g o h b (wl.set i x) := by
  obtain ⟨h0, h1, h2, h3, h4, h5⟩ := r
  refine ⟨h0.other _ _ (show w.heap.size ≠ w.heap.size + 1 + 1 + 1 by omega), h1.other _ _ (show w.heap.size + 1 ≠ w.heap.size + 1 + 1 + 1 by omega), h2.other _ _ (show w.heap.size + 1 + 1 ≠ w.heap.size + 1 + 1 + 1 by omega), ?_, ?_, h5.setCell (show w.heap.size ≤ w.heap.size + 1 + 1 + 1 by omega) _⟩
  · have := h3.set i (.int .u32 ((x : Nat) : Int))
    rw [u32s_set] at this
    exact this
  · intro j hj
    rw [World.cell?_setCell_other _ _ _ _ (fun e => by have := congrArg Addr.block e; simp at this; omega)]
    exact h4 j hj

theorem RB.drew {w wr : World} {g o : Nat} {h b wl : List Nat} (r : RB w wr g o h b wl) : RB w wr.drew g o h b wl := by
  obtain ⟨h0, h1, h2, h3, h4, h5⟩ := r
  exact ⟨h0, h1, h2, h3, h4, h5.drew⟩

theorem RB.later {w wr wx : World} {g o X : Nat} {h b wl : List Nat} (r : RB w wr g o h b wl) (hg : g < w.heap.size) (hX : w.heap.size + 1 + 1 + 1 < X) (hb : Below X wr wx) : RB w wx g o h b wl := by
  obtain ⟨h0, h1, h2, h3, h4, h5⟩ := r
  exact ⟨h0.below (by omega) hb, h1.below (by omega) hb, h2.below (by omega) hb, h3.below hX hb, h4.keptB (by omega) hb, h5.trans (hb.mono (by omega))⟩

theorem part_get (T : List Nat) (n i j : Nat) (h : T.length = n) (hj : j < i) (hi : i ≤ n) : (part T n i).getD j 0 = T.getD j 0 := by
  simp [part, List.getD, List.getElem?_append, h, show j < min i n by omega, show j < n by omega]


end Go.Proofs.YtbmjlofehbbkbaaDoor

/- Plain facts on the digest: bytes with what stands behind them, blocks taken one after the other, the words' bytes; bytes that are handed in, and appended to a row of the call's own. -/
namespace Go.Proofs.YtbmjlofehbbkbaaDoor
open Go.RowKit

/-- a number of bits, in eight bytes, the highest first -/
def be8 (n : Nat) : Nat → List Nat
  | 0 => []
  | i + 1 => be8 n i ++ [n / 2 ^ (8 * (7 - i)) % 256]

theorem be8_length (n i : Nat) : (be8 n i).length = i := by induction i with
  | zero => rfl
  | succ i ih => simp [be8, ih]

/-- the noughts that are wanted -/
def padZ (n : Nat) : Nat := (119 - n % 64) % 64

/-- bytes, and what stands behind them -/
def padF (bs : List Nat) : List Nat := bs ++ [128] ++ List.replicate (padZ bs.length) 0 ++ be8 (bs.length * 8) 8

theorem padF_length (bs : List Nat) : (padF bs).length = bs.length + 1 + padZ bs.length + 8 := by simp [padF, be8_length]; omega
theorem padF_whole (bs : List Nat) : (padF bs).length % 64 = 0 := by rw [padF_length, padZ]; omega

theorem be8_bytes (n i : Nat) : BytesN (be8 n i) := by
  induction i with
  | zero => intro x hx; simp [be8] at hx
  | succ i ih =>
    intro x hx
    rcases List.mem_append.1 hx with h | h
    · exact ih x h
    · simp at h; subst h; exact Nat.mod_lt _ (by omega)

theorem padF_bytes {bs : List Nat} (h : BytesN bs) : BytesN (padF bs) := by
  intro x hx
  simp only [padF, List.mem_append] at hx
  rcases hx with ((hx | hx) | hx) | hx
  · exact h x hx
  · simp at hx; omega
  · rw [List.eq_of_mem_replicate hx]; omega
  · exact be8_bytes _ _ x hx

/-- so many blocks, one after the other, into the words from which a digest begins -/
def hashTo (l : List Nat) : Nat → List Nat
  | 0 => startT
  | j + 1 => blockF (hashTo l j) ((l.drop (64 * j)).take 64)

theorem startT_words : Words startT := by
  intro x hx
  simp only [startT, List.mem_cons, List.not_mem_nil, or_false] at hx
  omega
theorem hashTo_length (l : List Nat) (j : Nat) : (hashTo l j).length = 8 := by
  cases j with
  | zero => rfl
  | succ j => exact blockF_length _ _
theorem hashTo_words (l : List Nat) (j : Nat) : Words (hashTo l j) := by
  cases j with
  | zero => exact startT_words
  | succ j => exact blockF_words _ _

/-- the words' bytes, the highest first -/
def digestF (h : List Nat) : List Nat := (List.range 32).map fun i => h.getD (i / 4) 0 / 2 ^ (24 - 8 * (i % 4)) % 256
theorem digestF_length (h : List Nat) : (digestF h).length = 32 := by simp [digestF]
theorem digestF_at (h : List Nat) (i : Nat) (hi : i < 32) : (digestF h).getD i 0 = h.getD (i / 4) 0 / 2 ^ (24 - 8 * (i % 4)) % 256 := by
  simp [digestF, List.getD, hi]

/-- the digest of bytes -/
def sumF (bs : List Nat) : List Nat := digestF (hashTo (padF bs) ((padF bs).length / 64))

end Go.Proofs.YtbmjlofehbbkbaaDoor
