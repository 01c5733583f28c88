/-
  Plain: the pieces of a text that come in whatever order.
-/
import Derived.Test.YtecpnnnkkofejaaGV
namespace Go.Proofs.Ytecpnnnkkofejaa
open Go.RowKit

/-- how many have come -/
def cntB : List Bool → Nat
  | [] => 0
  | b :: l => (if b then 1 else 0) + cntB l
theorem cnt_le : ∀ l : List Bool, cntB l ≤ l.length
  | [] => Nat.le_refl _
  | b :: l => by have := cnt_le l; simp only [cntB, List.length_cons]; split <;> omega
theorem cnt_set : ∀ (l : List Bool) (a : Nat), l[a]? = some false → cntB (l.set a true) = cntB l + 1
  | [], a, h => by simp at h
  | b :: l, 0, h => by simp at h; subst h; simp [cntB]; omega
  | b :: l, a + 1, h => by
    have := cnt_set l a (by simpa using h)
    simp only [List.set_cons_succ, cntB, this]; omega
theorem cnt_all : ∀ l : List Bool, cntB l = l.length → ∀ m, m < l.length → l[m]? = some true
  | [], _, m, h => by simp at h
  | b :: l, h, m, hm => by
    have h1 := cnt_le l
    simp only [cntB, List.length_cons] at h hm
    cases b
    · simp at h; omega
    · have h2 : cntB l = l.length := by simp at h; omega
      cases m with
      | zero => rfl
      | succ m => exact cnt_all l h2 m (by omega)
theorem cnt_none : ∀ N : Nat, cntB (List.replicate N false) = 0
  | 0 => rfl
  | N + 1 => by rw [List.replicate_succ, cntB, cnt_none N]; rfl

/-- a joiner under way: of these pieces these have come -/
structure Und (i : Nat) (t : List Nat) (s N : Nat) (bs : List Bool) (u : Js) : Prop where
  met : u.met = true
  done : u.done = false
  id : u.i = i
  must : u.must = if bs[N - 1]? = some true then N else 0
  len : u.l.length = cntB bs
  has : ∀ m, m < N → (bs[m]? = some true ↔ cutX i t s m ∈ u.l)
  mem : ∀ y ∈ u.l, ∃ m, m < N ∧ y = cutX i t s m
theorem sizeL_le {l : List Pc} {s : Nat} (h : ∀ y ∈ l, y.b.length ≤ s) : sizeL l ≤ l.length * s := by
  induction l with
  | nil => simp [sizeL]
  | cons y l ih =>
    have h1 := ih fun z hz => h z (by simp [hz])
    have h2 := h y (by simp)
    simp only [sizeL, List.length_cons, Nat.add_mul]
    omega
theorem und_none (i : Nat) (t : List Nat) (s N : Nat) : Und i t s N (List.replicate N false) ⟨true, false, i, 0, []⟩ := by
  have h : ∀ m, (List.replicate N false)[m]? ≠ some true := fun m => by
    rw [List.getElem?_replicate]
    split <;> simp
  exact ⟨rfl, rfl, rfl, by rw [if_neg (h _)], by rw [cnt_none]; rfl, fun m _ => ⟨fun e => (h m e).elim, fun e => by cases e⟩, fun y hy => by cases hy⟩
theorem cut_len (i : Nat) (t : List Nat) (s m : Nat) : (cutX i t s m).b.length ≤ s := by simp [cutX]; omega
theorem cut_i (i : Nat) (t : List Nat) (s m : Nat) : (cutX i t s m).i = i := rfl
theorem cut_a (i : Nat) (t : List Nat) (s m : Nat) : (cutX i t s m).a = (m : Int) := rfl
theorem cut_e {i : Nat} {t : List Nat} {s m : Nat} (hm : m ≤ 255) (hs : s ≤ 1100) : (cutX i t s m).e = 0 := by
  have := cut_len i t s m
  unfold Pc.e
  rw [cut_a, if_neg (by omega), if_neg (by omega)]
/-- the pieces are the text -/
theorem whole_cut {i : Nat} {t : List Nat} {s N : Nat} {bs : List Bool} {u : Js} (h : Und i t s N bs u) (hall : ∀ m, m < N → bs[m]? = some true) : ∀ k, k ≤ N → u.whole k = t.take (k * s)
  | 0, _ => by simp [Js.whole]
  | k + 1, hk => by
    rw [Js.whole, whole_cut h hall k (by omega), Nat.add_mul, Nat.one_mul, List.take_add]
    congr 1
    have hx := (h.has k (by omega)).1 (hall k (by omega))
    rw [Js.at]
    cases hf : u.l.find? fun x => x.a == (k : Int) with
    | none =>
      rw [List.find?_eq_none] at hf
      exact (hf _ hx (by simp [cut_a])).elim
    | some y =>
      obtain ⟨m, _, rfl⟩ := h.mem y (List.mem_of_find?_eq_some hf)
      have := List.find?_some hf
      simp only [cut_a, beq_iff_eq] at this
      have : m = k := by omega
      subst this
      rfl

/-- one of the pieces is put in -/
theorem und_put {i s N : Nat} {t : List Nat} {bs : List Bool} {st u : Js} {m : Nat} (h : Und i t s N bs u) (hl : bs.length = N) (hN : cutN t.length s = N) (hN2 : N ≤ 256) (hs : 1 ≤ s) (hs2 : s ≤ 1100) (ht : t.length ≤ 3000) (hm : m < N)
    (hmt : st.meet (cutX i t s m) = u) (hlow : ¬ (st.met = true ∧ (cutX i t s m).i < st.i)) :
    (bs[m]? = some true → st.tell (cutX i t s m) = ([], false, 0) ∧ st.next (cutX i t s m) = u) ∧
    (bs[m]? = some false → cntB bs + 1 < N → st.tell (cutX i t s m) = ([], false, 0) ∧ Und i t s N (bs.set m true) (st.next (cutX i t s m))) ∧
    (bs[m]? = some false → cntB bs + 1 = N → st.tell (cutX i t s m) = (t, true, 0) ∧ st.next (cutX i t s m) = Js.over i) := by
  have hx : (cutX i t s m).e = 0 := cut_e (by omega) hs2
  have hhas : u.has (cutX i t s m).a = true ↔ bs[m]? = some true := by
    rw [h.has m hm, Js.has, List.any_eq_true]
    constructor
    · rintro ⟨y, hy, hya⟩
      obtain ⟨m', _, rfl⟩ := h.mem y hy
      simp only [cut_a, beq_iff_eq] at hya
      have : m' = m := by omega
      subst this
      exact hy
    · intro hy
      exact ⟨_, hy, by simp⟩
  have hmust : u.must = 0 ∨ u.must = N := by
    rw [h.must]
    split
    · exact Or.inr rfl
    · exact Or.inl rfl
  have hlast : (cutX i t s m).l = decide (m = N - 1) := by
    have h1 := cut_more t.length s (m + 1) (by omega)
    rw [hN] at h1
    show decide (t.length ≤ (m + 1) * s) = _
    rw [Bool.eq_iff_iff]
    simp only [decide_eq_true_eq]
    omega
  have hstop : bs[m]? = some false → u.stop (cutX i t s m) = false := fun hb => by
    have h1 : u.has (cutX i t s m).a = false := by
      cases hh : u.has (cutX i t s m).a
      · rfl
      · have := hhas.1 hh; rw [hb] at this; cases this
    rw [Js.stop, h.done, h1]
    rcases hmust with h0 | h0
    · rw [h0]; simp
    · rw [h0, cut_a, show decide ((N : Int) ≤ (m : Int)) = false from decide_eq_false (by omega)]; simp
  have key : bs[m]? = some false → Und i t s N (bs.set m true) ((u.hold (cutX i t s m)).bound (cutX i t s m)) := fun hb => by
    have hml : m < bs.length := by omega
    have e : ((u.hold (cutX i t s m)).bound (cutX i t s m)) = ⟨u.met, u.done, u.i, if (bs.set m true)[N - 1]? = some true then N else 0, u.l ++ [cutX i t s m]⟩ := by
      unfold Js.bound
      by_cases hc : m = N - 1
      · have h0 : u.must = 0 := by rw [h.must, ← hc, hb]; simp
        rw [if_pos (show (cutX i t s m).l = true ∧ (u.hold (cutX i t s m)).must = 0 from ⟨by rw [hlast]; simpa using hc, h0⟩)]
        have h1 : (bs.set m true)[N - 1]? = some true := by rw [← hc, List.getElem?_set_self hml]
        rw [if_pos h1]
        have h2 : (cutX i t s m).a.toNat + 1 = N := by rw [cut_a, Int.toNat_natCast]; omega
        have h3 : ((u.hold (cutX i t s m)).l.filter fun y => decide (y.a < (cutX i t s m).a + 1)) = u.l ++ [cutX i t s m] := by
          refine List.filter_eq_self.2 fun y hy => ?_
          rcases List.mem_append.1 hy with hy | hy
          · obtain ⟨m', hm', rfl⟩ := h.mem y hy
            have e1 := cut_a i t s m
            have e2 := cut_a i t s m'
            simp only [decide_eq_true_eq]
            omega
          · simp at hy
            subst hy
            simp only [decide_eq_true_eq]
            omega
        rw [h2, h3]
        rfl
      · rw [if_neg (show ¬ ((cutX i t s m).l = true ∧ (u.hold (cutX i t s m)).must = 0) from fun hh => by have := hh.1; rw [hlast] at this; simp at this; exact hc this)]
        rw [List.getElem?_set_ne (by omega), ← h.must]
        rfl
    rw [e]
    refine ⟨h.met, h.done, h.id, rfl, by rw [cnt_set bs m hb, List.length_append, h.len]; rfl, fun k hk => ?_, fun y hy => ?_⟩
    · by_cases hkm : k = m
      · subst hkm
        rw [List.getElem?_set_self hml]
        simp
      · rw [List.getElem?_set_ne (by omega), h.has k hk]
        simp only [List.mem_append, List.mem_singleton]
        refine ⟨Or.inl, fun hh => hh.elim id fun e => ?_⟩
        have := congrArg Pc.a e
        simp only [cut_a] at this
        omega
    · rcases List.mem_append.1 hy with hy | hy
      · exact h.mem y hy
      · simp at hy
        exact ⟨m, hm, hy⟩
  have hsz : ∀ u', Und i t s N (bs.set m true) u' → ¬ 65536 < sizeL u'.l := fun u' hu => by
    have h1 := sizeL_le (l := u'.l) (s := s) fun y hy => by
      obtain ⟨k, _, rfl⟩ := hu.mem y hy
      exact cut_len i t s k
    rw [hu.len] at h1
    have h2 := cnt_le (bs.set m true)
    rw [List.length_set, hl] at h2
    have h3 := Nat.mul_le_mul_right s h2
    have h4 : N * s ≤ 4200 := by
      rw [← hN, cutN]
      split
      · omega
      · have := Nat.div_mul_le_self (t.length + s - 1) s
        omega
    omega
  refine ⟨fun hb => ?_, fun hb hc => ?_, fun hb hc => ?_⟩
  · have hst : (st.meet (cutX i t s m)).stop (cutX i t s m) = true := by
      rw [hmt, Js.stop, hhas.2 hb]; simp
    obtain ⟨e1, e2⟩ := tell_stop hx hlow hst
    exact ⟨e1, by rw [e2, hmt]⟩
  · have hu := key hb
    have hst : (st.meet (cutX i t s m)).stop (cutX i t s m) = false := by rw [hmt]; exact hstop hb
    have hq : (((st.meet (cutX i t s m)).hold (cutX i t s m)).bound (cutX i t s m)).must = 0 ∨ (((st.meet (cutX i t s m)).hold (cutX i t s m)).bound (cutX i t s m)).l.length < (((st.meet (cutX i t s m)).hold (cutX i t s m)).bound (cutX i t s m)).must := by
      rw [hmt, hu.must, hu.len, cnt_set bs m hb]
      split
      · exact Or.inr hc
      · exact Or.inl rfl
    obtain ⟨e1, e2⟩ := tell_some hx hlow hst (by rw [hmt]; exact hsz _ hu) hq
    exact ⟨e1, by rw [e2, hmt]; exact hu⟩
  · have hu := key hb
    have hst : (st.meet (cutX i t s m)).stop (cutX i t s m) = false := by rw [hmt]; exact hstop hb
    have hall : ∀ k, k < N → (bs.set m true)[k]? = some true := fun k hk => cnt_all _ (by rw [cnt_set bs m hb, List.length_set, hc, hl]) k (by rw [List.length_set, hl]; exact hk)
    have hM : ((u.hold (cutX i t s m)).bound (cutX i t s m)).must = N := by rw [hu.must, if_pos (hall (N - 1) (by omega))]
    have hq : ¬ ((((st.meet (cutX i t s m)).hold (cutX i t s m)).bound (cutX i t s m)).must = 0 ∨ (((st.meet (cutX i t s m)).hold (cutX i t s m)).bound (cutX i t s m)).l.length < (((st.meet (cutX i t s m)).hold (cutX i t s m)).bound (cutX i t s m)).must) := by
      rw [hmt, hM, hu.len, cnt_set bs m hb]
      omega
    obtain ⟨e1, e2⟩ := tell_all hx hlow hst (by rw [hmt]; exact hsz _ hu) hq
    refine ⟨?_, e2⟩
    rw [e1, hmt, hM, whole_cut hu hall N (Nat.le_refl _), List.take_of_length_le]
    have := (cut_more t.length s N (by omega))
    rw [hN] at this
    omega

end Go.Proofs.Ytecpnnnkkofejaa
