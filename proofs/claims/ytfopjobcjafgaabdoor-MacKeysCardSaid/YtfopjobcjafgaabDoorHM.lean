/-
  Plain facts: a hash that has so many bytes: its words are those behind all whole blocks, what is left stands in the rest; what a piece does to it.
-/
import Derived.Test.YtfopjobcjafgaabDoorSN
namespace Go.Proofs.YtfopjobcjafgaabDoor
open Go.RowKit

theorem hashTo_append (l b : List Nat) : ∀ j, 64 * j ≤ l.length → hashTo (l ++ b) j = hashTo l j := by
  intro j
  induction j with
  | zero => intro _; rfl
  | succ j ih =>
    intro h
    rw [hashTo, hashTo, ih (by omega), List.drop_append_of_le_length (by omega), List.take_append_of_le_length (by simp; omega)]

/-- words and rest of a hash that has these bytes -/
def RepH (l ws rest : List Nat) : Prop :=
  ws = hashTo l (l.length / 64) ∧ rest.length = 64 ∧ BytesN rest ∧ rest.take (l.length % 64) = l.drop (64 * (l.length / 64))

theorem RepH.none : RepH [] startT (List.replicate 64 0) := by
  refine ⟨rfl, by simp, ?_, rfl⟩
  intro x hx
  rw [List.eq_of_mem_replicate hx]; omega

/-- the rest behind a piece's first bytes -/
def restTo (rest b : List Nat) (r m : Nat) : List Nat := rest.take r ++ b.take m ++ rest.drop (r + m)

theorem restTo_length {rest b : List Nat} {r m : Nat} (h : rest.length = 64) (hm : m ≤ b.length) (hr : r + m ≤ 64) : (restTo rest b r m).length = 64 := by
  simp [restTo, h]; omega

theorem restTo_bytes {rest b : List Nat} {r m : Nat} (h : BytesN rest) (hb : BytesN b) : BytesN (restTo rest b r m) := by
  intro x hx
  simp only [restTo, List.mem_append] at hx
  rcases hx with (hx | hx) | hx
  · exact h x (List.mem_of_mem_take hx)
  · exact hb x (List.mem_of_mem_take hx)
  · exact h x (List.mem_of_mem_drop hx)

theorem RepH.part {l ws rest b : List Nat} (h : RepH l ws rest) (hb : BytesN b) {m : Nat} (hm : m ≤ b.length) (hr : l.length % 64 + m < 64) : RepH (l ++ b.take m) ws (restTo rest b (l.length % 64) m) := by
  obtain ⟨hw, hl, hby, ht⟩ := h
  have hlen : (l ++ b.take m).length = l.length + m := by simp; omega
  have h1 : (l.length + m) / 64 = l.length / 64 := by omega
  have h2 : (l.length + m) % 64 = l.length % 64 + m := by omega
  refine ⟨?_, restTo_length hl hm (by omega), restTo_bytes hby hb, ?_⟩
  · rw [hlen, h1, hw, hashTo_append _ _ _ (by omega)]
  · rw [hlen, h1, h2, List.drop_append_of_le_length (by omega), ← ht, restTo]
    rw [List.take_append_of_le_length (by simp [hl]; omega), List.take_of_length_le (by simp [hl]; omega)]

theorem RepH.whole {l ws rest b : List Nat} (h : RepH l ws rest) (hb : BytesN b) {m : Nat} (hm : m ≤ b.length) (hr : l.length % 64 + m = 64) : RepH (l ++ b.take m) (blockF ws (restTo rest b (l.length % 64) m)) (restTo rest b (l.length % 64) m) := by
  obtain ⟨hw, hl, hby, ht⟩ := h
  have hlen : (l ++ b.take m).length = l.length + m := by simp; omega
  have h1 : (l.length + m) / 64 = l.length / 64 + 1 := by omega
  have h2 : (l.length + m) % 64 = 0 := by omega
  refine ⟨?_, restTo_length hl hm (by omega), restTo_bytes hby hb, ?_⟩
  · rw [hlen, h1, hashTo, hashTo_append _ _ _ (by omega), ← hw]
    congr 1
    have e : restTo rest b (l.length % 64) m = l.drop (64 * (l.length / 64)) ++ b.take m := by
      rw [restTo, List.drop_eq_nil_of_le (by omega), List.append_nil, ht]
    rw [List.drop_append_of_le_length (by omega), e]
    exact (List.take_of_length_le (by simp; omega)).symm
  · rw [hlen, h1, h2, List.take_zero, List.drop_eq_nil_of_le (by rw [hlen]; omega)]

end Go.Proofs.YtfopjobcjafgaabDoor
