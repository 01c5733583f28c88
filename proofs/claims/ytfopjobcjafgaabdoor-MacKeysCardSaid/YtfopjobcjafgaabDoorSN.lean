/-
  Plain facts on the digest: bytes with what stands behind them, blocks taken one after the other, the words' bytes; bytes that are handed in, and appended to a row of the call's own.
-/
import Derived.Test.YtfopjobcjafgaabDoorSH
import Derived.Test.YtfopjobcjafgaabDoorSI
namespace Go.Proofs.YtfopjobcjafgaabDoor
open Go.RowKit

/-- a number of bits, in eight bytes, the highest first -/
def be8 (n : Nat) : Nat → List Nat
  | 0 => []
  | i + 1 => be8 n i ++ [n / 2 ^ (8 * (7 - i)) % 256]

theorem be8_length (n i : Nat) : (be8 n i).length = i := by induction i with
  | zero => rfl
  | succ i ih => simp [be8, ih]

/-- the noughts that are wanted -/
def padZ (n : Nat) : Nat := (119 - n % 64) % 64

/-- bytes, and what stands behind them -/
def padF (bs : List Nat) : List Nat := bs ++ [128] ++ List.replicate (padZ bs.length) 0 ++ be8 (bs.length * 8) 8

theorem padF_length (bs : List Nat) : (padF bs).length = bs.length + 1 + padZ bs.length + 8 := by simp [padF, be8_length]; omega
theorem padF_whole (bs : List Nat) : (padF bs).length % 64 = 0 := by rw [padF_length, padZ]; omega

def BytesN (l : List Nat) : Prop := ∀ x ∈ l, x < 256

theorem be8_bytes (n i : Nat) : BytesN (be8 n i) := by
  induction i with
  | zero => intro x hx; simp [be8] at hx
  | succ i ih =>
    intro x hx
    rcases List.mem_append.1 hx with h | h
    · exact ih x h
    · simp at h; subst h; exact Nat.mod_lt _ (by omega)

theorem padF_bytes {bs : List Nat} (h : BytesN bs) : BytesN (padF bs) := by
  intro x hx
  simp only [padF, List.mem_append] at hx
  rcases hx with ((hx | hx) | hx) | hx
  · exact h x hx
  · simp at hx; omega
  · rw [List.eq_of_mem_replicate hx]; omega
  · exact be8_bytes _ _ x hx

/-- so many blocks, one after the other, into the words from which a digest begins -/
def hashTo (l : List Nat) : Nat → List Nat
  | 0 => startT
  | j + 1 => blockF (hashTo l j) ((l.drop (64 * j)).take 64)

theorem startT_words : Words startT := by
  intro x hx
  simp only [startT, List.mem_cons, List.not_mem_nil, or_false] at hx
  omega
theorem hashTo_length (l : List Nat) (j : Nat) : (hashTo l j).length = 8 := by
  cases j with
  | zero => rfl
  | succ j => exact blockF_length _ _
theorem hashTo_words (l : List Nat) (j : Nat) : Words (hashTo l j) := by
  cases j with
  | zero => exact startT_words
  | succ j => exact blockF_words _ _

/-- the words' bytes, the highest first -/
def digestF (h : List Nat) : List Nat := (List.range 32).map fun i => h.getD (i / 4) 0 / 2 ^ (24 - 8 * (i % 4)) % 256
theorem digestF_length (h : List Nat) : (digestF h).length = 32 := by simp [digestF]
theorem digestF_at (h : List Nat) (i : Nat) (hi : i < 32) : (digestF h).getD i 0 = h.getD (i / 4) 0 / 2 ^ (24 - 8 * (i % 4)) % 256 := by
  simp [digestF, List.getD, hi]

/-- the digest of bytes -/
def sumF (bs : List Nat) : List Nat := digestF (hashTo (padF bs) ((padF bs).length / 64))

/-- bytes that are handed in: none, or an address -/
def BI (w : World) (p : Option Addr) (bs : List Nat) : Prop := bs = [] ∨ ∃ g o, p = some ⟨g, o, none⟩ ∧ Bts w g o bs

theorem BI.kept {w w' : World} {p : Option Addr} {bs : List Nat} (h : BI w p bs) (hb : Below w.heap.size w w') : BI w' p bs := by
  rcases h with h | ⟨g, o, rfl, h⟩
  · exact Or.inl h
  · exact Or.inr ⟨g, o, rfl, h.kept hb⟩

theorem infoU8 : (Tryd.prog.info? 5).map (fun i => (i.zero, i.size, i.bytes)) = some (some (.int .u8 0), 1, 1) := by kernel_rfl

theorem one_u8s (l : List Nat) : ∀ u ∈ u8s l, u.oneCell' = true := by
  intro u hu
  obtain ⟨x, _, rfl⟩ := List.mem_map.1 hu
  rfl

theorem grown_refl (a : World) (r : Option Nat) : a.grownBy a r := ⟨rfl, rfl, rfl, Nat.le_refl _, fun _ _ _ => rfl⟩

/-- 'append(x, y...)': x a row of the call's own, y any bytes -/
theorem wpList_append_bytes {w : World} {ops : Array Oper} {rest : List Oper} {o : Oper} {a : Act} {Q : Exit → Act → World → Prop} (hgd : o.guard = none) (s x : Operand)
    (ho : o.op = .call { callee := .builtin .append, args := #[s, x], argTypes := #[22, 22] })
    (B : Nat) (v : Value) (xs : List Nat) (hs : a.eval s = v) (n : Nat) (hn : xs.length = n) (hown : w.ownsRow B 5 1 v n (u8s xs))
    (p : Option Addr) (m c : Nat) (ys : List Nat) (hm : ys.length = m) (hx : a.eval x = .slice p m c) (hb : BI w p ys) (hp : p = none → c = 0) (hsum : n + m ≤ 1000000) (hB : B ≤ w.heap.size)
    (h : ∀ v' w', w'.ownsRow B 5 1 v' (n + m) (u8s (xs ++ ys)) → w.grownBy w' v.ownBlock → wpList Tryd.prog ops Q rest (a.put o.dst v') w') :
    wpList Tryd.prog ops Q (o :: rest) a w := by
  obtain ⟨i0, hi, hz0, hz1, hz2⟩ := info_parts infoU8
  subst hm hn
  cases p with
  | none =>
    have e0 := hp rfl
    subst e0
    rcases hb with h0 | ⟨b, off, h0, _⟩
    · subst h0
      refine wpList_append_own_none hgd s x 22 ho B 5 i0 1 Tryd.underlying22 hi v _ _ hs hown hx ?_
      exact h v w (by simpa using hown) (grown_refl _ _)
    · cases h0
  | some ad =>
    refine wpList_append_own w hgd s x 22 ho B 5 i0 (.int .u8 0) 1 1 Tryd.underlying22 hi hz0 hz1 hz2 rfl (by decide) v _ _ hs hown ad ys.length c (u8s ys) hx (by simp [u8s]) ?_ (one_u8s _) ?_ (by omega) hB ?_
    · intro j u hj
      have hjn : j < ys.length := by
        have := (List.getElem?_eq_some_iff.1 hj).1
        simpa [u8s] using this
      rcases hb with h0 | ⟨b, off, h0, hcell⟩
      · subst h0; simp at hjn
      · cases h0
        rw [Addr.add_mid, hcell j hjn]
        rw [u8s_at hjn] at hj
        exact hj
    · unfold maxLen; omega
    · intro v' w' h1 h2 _
      exact h v' w' (by rw [show u8s (xs ++ ys) = u8s xs ++ u8s ys by simp [u8s]]; exact h1) h2

end Go.Proofs.YtfopjobcjafgaabDoor
