/-
  Several texts, joined: LZ.
-/
import Derived.Test.YtbmjlofehbbkbaaDoorJP

/- Plain facts: a packet whose tag was changed. -/
namespace Go.Proofs.YtbmjlofehbbkbaaDoor
open Go.RowKit

theorem xor_ne {x y : Nat} (hy : y ≠ 0) : x ^^^ y ≠ x := fun h => hy (by
  have := congrArg (fun z => x ^^^ z) h
  simp only [← Nat.xor_assoc, Nat.xor_self, Nat.zero_xor] at this
  exact this)

/-- a packet with one byte changed -/
def chF1 (L : List Nat) (i y : Nat) : List Nat := L.set i (L.getD i 0 ^^^ y)
theorem chF1_length (L : List Nat) (i y : Nat) : (chF1 L i y).length = L.length := by simp [chF1]
theorem chF1_bytes {L : List Nat} (h : BytesN L) (i : Nat) {y : Nat} (hy : y < 256) : BytesN (chF1 L i y) := fun x hx => by
  rcases List.mem_or_eq_of_mem_set hx with h1 | h1
  · exact h x h1
  · rw [h1]; exact xor_lt8 (getD_byte h i) hy

theorem ch_tag {code mark : List Nat} {x : Nat} {t : List Nat} {i y : Nat} (h1 : t.length + 8 ≤ i) (h2 : i < t.length + 24) (hy : y ≠ 0) :
    paT (chF1 (paF code mark x t) i y) ≠ tgF mark (paA (chF1 (paF code mark x t) i y)) := by
  have hl := paF_length code mark x t
  have hA : paA (chF1 (paF code mark x t) i y) = ahF code x t := by
    rw [paA, chF1_length, chF1, List.take_set_of_le (by omega)]
    exact paA_pa code mark x t
  have hT := paT_pa code mark x t
  rw [hA]
  intro e
  have e2 : paT (chF1 (paF code mark x t) i y) = paT (paF code mark x t) := e.trans hT.symm
  have e3 := congrArg (fun l : List Nat => l.getD (i - (t.length + 8)) 0) e2
  simp only [paT, chF1_length, hl] at e3
  have ek : t.length + 24 - 16 = t.length + 8 := by omega
  have ei : t.length + 8 + (i - (t.length + 8)) = i := by omega
  rw [ek] at e3
  simp only [List.getD_eq_getElem?_getD, List.getElem?_drop, ei, chF1] at e3
  rw [List.getElem?_set_self (by omega)] at e3
  simp only [Option.getD_some] at e3
  rw [← List.getD_eq_getElem?_getD] at e3
  exact xor_ne hy e3

theorem ch_word {code mark : List Nat} {x : Nat} (hx : x < 18446744073709551616) {t : List Nat} {i : Nat} (y : Nat) (h1 : t.length + 8 ≤ i) : rd8 (chF1 (paF code mark x t) i y) = x := by
  have h := rd8_pa code mark hx t
  rw [rd8] at h
  rw [rd8, chF1, List.take_set_of_le (by omega)]
  exact h

end Go.Proofs.YtbmjlofehbbkbaaDoor
