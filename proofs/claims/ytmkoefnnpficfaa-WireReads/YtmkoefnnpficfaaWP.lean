/-
  Plain facts: what was read as a number, or as a text, put again, is the bytes that were read.
-/
import Derived.Test.YtmkoefnnpficfaaWR
namespace Go.Proofs.Ytmkoefnnpficfaa
open Go.RowKit
variable {A : Nat → Prop}

theorem numH_fuel (f : Nat) : ∀ g m, f ≤ g → m < 128 ^ f → numH g m = numH f m := by
  induction f with
  | zero =>
    intro g m _ hm
    have : m = 0 := by simp at hm; omega
    subst this
    cases g <;> simp [numH]
  | succ f ih =>
    intro g m hg hm
    obtain ⟨g, rfl⟩ : ∃ h, g = h + 1 := ⟨g - 1, by omega⟩
    by_cases h0 : m = 0
    · subst h0; simp [numH]
    · have h1 : m / 128 < 128 ^ f := by rw [Nat.div_lt_iff_lt_mul (by omega), ← Nat.pow_succ]; exact hm
      rw [numH, if_neg h0, numH, if_neg h0, ih g (m / 128) (by omega) h1]

theorem rdN_form : ∀ (bs : List Int) (k n : Nat) (m : Nat) (rest : List Int), (∀ c ∈ bs, 0 ≤ c ∧ c < 256) → (n = 0 → ¬ bs.head? = some 128) → rdN bs k n = some (m, rest) → numF m ++ rest = numH 10 n ++ bs
  | [], k, n, m, rest, _, _, h => by cases k <;> simp [rdN] at h
  | _ :: _, 0, n, m, rest, _, _, h => by simp [rdN] at h
  | c :: r, k + 1, n, m, rest, hb, h0, h => by
    have hc := hb c (by simp)
    rw [rdN] at h
    by_cases hbig : 144115188075855871 < n
    · rw [if_pos hbig] at h; cases h
    · rw [if_neg hbig] at h
      by_cases hlt : c < 128
      · rw [if_pos hlt] at h
        simp only [Option.some.injEq, Prod.mk.injEq] at h
        obtain ⟨rfl, rfl⟩ := h
        have e1 : (n * 128 + (c % 128).toNat) / 128 = n := by omega
        have e2 : (((n * 128 + (c % 128).toNat) % 128 : Nat) : Int) = c := by omega
        rw [numF, e1, e2]; simp
      · rw [if_neg hlt] at h
        have hn' : ¬ (n * 128 + (c % 128).toNat = 0) := by
          intro e
          have : n = 0 := by omega
          apply h0 this
          simp; omega
        have ih := rdN_form r k (n * 128 + (c % 128).toNat) m rest (fun x hx => hb x (List.mem_cons_of_mem _ hx)) (fun e => absurd e hn') h
        have e1 : (n * 128 + (c % 128).toNat) / 128 = n := by omega
        have e2 : (((n * 128 + (c % 128).toNat) % 128 + 128 : Nat) : Int) = c := by omega
        have p9 : (128 : Nat) ^ 9 = 9223372036854775808 := by decide
        have e3 : numH 10 (n * 128 + (c % 128).toNat) = numH 10 n ++ [c] := by
          rw [show (10 : Nat) = 9 + 1 from rfl, numH, if_neg hn', e1, e2, numH_fuel 9 (9 + 1) n (by omega) (by omega)]
        rw [ih, e3]; simp

theorem rdNum_form {bs : List Int} {m : Nat} {rest : List Int} (hb : ∀ c ∈ bs, 0 ≤ c ∧ c < 256) (h : rdNum bs = some (m, rest)) : numF m ++ rest = bs := by
  rw [rdNum] at h
  by_cases h1 : bs.head? = some 128
  · rw [if_pos h1] at h; cases h
  · rw [if_neg h1] at h
    have := rdN_form bs 10 0 m rest hb (fun _ => h1) h
    rw [this]
    have e : numH 10 0 = [] := by simp [numH]
    rw [e]; rfl

theorem rdTxt_form {bs : List Int} {most : Nat} {tx rest : List Int} (hb : ∀ c ∈ bs, 0 ≤ c ∧ c < 256) (h : rdTxt most bs = .ok (tx, rest)) : txtF tx ++ rest = bs ∧ tx.length ≤ most := by
  rw [rdTxt] at h
  split at h
  · cases h
  · rename_i m r1 hm
    by_cases h1 : most < m
    · rw [if_pos h1] at h; cases h
    · rw [if_neg h1] at h
      by_cases h2 : r1.length < m
      · rw [if_pos h2] at h; cases h
      · rw [if_neg h2] at h
        simp only [Except.ok.injEq, Prod.mk.injEq] at h
        obtain ⟨rfl, rfl⟩ := h
        have e : (r1.take m).length = m := by simp; omega
        refine ⟨?_, by omega⟩
        rw [txtF, e, List.append_assoc, List.take_append_drop]
        exact rdNum_form hb hm

theorem rdNum_shorter {bs : List Int} {m : Nat} {rest : List Int} (hb : ∀ c ∈ bs, 0 ≤ c ∧ c < 256) (h : rdNum bs = some (m, rest)) : rest.length ≤ bs.length ∧ bs.take (bs.length - rest.length) = numF m := by
  have h1 := rdNum_form hb h
  rw [← h1]
  simp

theorem rdTxt_shorter {bs : List Int} {most : Nat} {tx rest : List Int} (hb : ∀ c ∈ bs, 0 ≤ c ∧ c < 256) (h : rdTxt most bs = .ok (tx, rest)) : rest.length ≤ bs.length ∧ bs.take (bs.length - rest.length) = txtF tx := by
  have h1 := (rdTxt_form hb h).1
  rw [← h1]
  simp

/-- a number's form, and 'string(..)' of it in whatever world has grown from there -/
theorem num_conv (n : Nat) (hn : n < 18446744073709551616) (w : World) :
    Calls Try.prog 10 #[.int .u64 n] w fun e w' => ∃ p c k, e = .returned (.slice p k c) ∧ Hid (k = (numF n).length) ∧ Below w.heap.size w w' ∧
      (∀ w2, Below w'.heap.size w' w2 → (convert 23 9 (.slice p k c)).run Try.prog w2 = .ok (.string (strOfNums (numF n))) w2) := by
  refine (num_any n hn w).mono ?_
  rintro e w' ⟨v, rfl, hown, hb⟩
  obtain ⟨q, c, rfl, _, _, hq, _⟩ := own_bytes hown (numF_bytes n)
  exact ⟨q, c, _, rfl, rfl, hb, fun w2 h2 => conv_any (bytes_kept hq (below_grown h2 none) (fun a _ => by simp)) _ c rfl⟩

/-- a text's form, and 'string(..)' of it in whatever world has grown from there -/
theorem text_conv (p : Option Addr) (cap : Nat) (xs : List Int) (w : World) (ha : Arg w p cap xs) (hl : xs.length ≤ 900000) :
    Calls Try.prog 12 #[.slice p xs.length cap] w fun e w' => ∃ q c k, e = .returned (.slice q k c) ∧ Hid (k = (txtF xs).length) ∧ Below w.heap.size w w' ∧
      (∀ w2, Below w'.heap.size w' w2 → (convert 23 9 (.slice q k c)).run Try.prog w2 = .ok (.string (strOfNums (txtF xs))) w2) := by
  refine (text_any p cap xs w ha hl).mono ?_
  rintro e w' ⟨v, rfl, hown, hb⟩
  obtain ⟨q, c, rfl, _, _, hq, _⟩ := own_bytes hown (txtF_bytes ha.1.1)
  exact ⟨q, c, _, rfl, rfl, hb, fun w2 h2 => conv_any (bytes_kept hq (below_grown h2 none) (fun a _ => by simp)) _ c rfl⟩

theorem own_arg {w : World} {B : Nat} {e : TypeId} {v : Value} {xs : List Int} (h : w.ownsRow B e 1 v xs.length (xs.map (Value.int .u8))) (hb : ∀ x ∈ xs, 0 ≤ x ∧ x < 256) :
    ∃ p cap, v = .slice p xs.length cap ∧ Arg w p cap xs := by
  obtain ⟨p, cap, hv, hl, hm, hby, _⟩ := own_bytes h hb
  refine ⟨p, cap, hv, hby, hl, hm, ?_⟩
  intro hp
  subst hp
  rcases h.2 with ⟨h0, _⟩ | ⟨g, c, cur, h0, _⟩
  · rw [hv] at h0; simp at h0; exact h0.2
  · rw [hv] at h0; simp at h0

/-- Open, and that the copy lies in new memory -/
def Far (w : World) (b L : Nat) : Prop := ∀ p n c a, w.cell? ⟨b, 0, none⟩ = some (.slice p n c) → p = some a → L ≤ a.block

set_option maxHeartbeats 400000 in
set_option maxRecDepth 100000 in
theorem open_far (p : Option Addr) (c : Nat) (xs : List Int) (w : World) (hbig : xs.length ≤ 140737488355328) (hc : BytesIn w p xs) :
    Calls Try.prog 16 #[.slice p xs.length c] w fun e w' => ∃ b, e = .returned (.pointer (some ⟨b, 0, none⟩)) ∧ w.heap.size ≤ b ∧ Rd (fun k => w.heap.size ≤ k ∧ k < b) w' b xs 0 ∧ Below w.heap.size w w' ∧ Far w' b w.heap.size := by
  go_enter Try.func16, Try.ntmps16
  go_wp2_with fail
  refine (clone_any p c xs w hbig hc).mono ?_
  rintro e w1 ⟨v, rfl, hown, hb⟩
  obtain ⟨q, cap, rfl, hl, hm, hby, hblk⟩ := own_bytes hown hc.1
  have HB := hide hby
  have HC := hide hc
  have HK := hide hblk
  clear hown hc hby hblk
  go_wp2
  go_ret
  have hs := hb.size
  refine ⟨_, rfl, hs, rd_new hl hm hbig HB.out (fun a ha => (HK.out a ha).2) (fun a ha => HK.out a ha), hb.alloc hs _, ?_⟩
  intro p' n' c' a' hcell ha'
  simp at hcell
  exact (HK.out a' (by rw [hcell.1]; exact ha')).1

/-- another reader's work leaves a reader as it was -/
theorem Rd.other {w w' : World} {b b1 : Nat} {bs : List Int} {x : Int} (h : Rd A w b bs x) (hg : w.grownBy w' (some b1)) (hne : b1 ≠ b) (hf : Far w b (b1 + 1)) : Rd A w' b bs x := by
  have hlt := h.lt
  obtain ⟨p, cap, h0, h1, f0, f1, hl, hm, hs, hb, hn⟩ := h
  have hk : some b ≠ some b1 := fun e => hne (by simpa using e.symm)
  have hblk := hg.block b hlt hk
  refine ⟨p, cap, (World.cell?_of_block (w := w) hblk).trans h0, (World.cell?_of_block (w := w) hblk).trans h1, (World.frozen?_of_block (w := w) hblk).trans f0, (World.frozen?_of_block (w := w) hblk).trans f1, hl, hm, hs, bytes_kept hb hg ?_, hn⟩
  intro a ha e
  have := hf p _ _ a h0 ha
  simp at e
  omega

/-- whoever writes elsewhere leaves a reader as it was -/
theorem Rd.apart {w w' : World} {b b1 : Nat} {bs : List Int} {x : Int} (h : Rd A w b bs x) (hg : w.grownBy w' (some b1)) (hne : b1 ≠ b) (hA : ∀ k, A k → k ≠ b1) : Rd A w' b bs x := by
  have hlt := h.lt
  obtain ⟨p, cap, h0, h1, f0, f1, hl, hm, hs, hb, hn⟩ := h
  have hk : some b ≠ some b1 := fun e => hne (by simpa using e.symm)
  have hblk := hg.block b hlt hk
  refine ⟨p, cap, (World.cell?_of_block (w := w) hblk).trans h0, (World.cell?_of_block (w := w) hblk).trans h1, (World.frozen?_of_block (w := w) hblk).trans f0, (World.frozen?_of_block (w := w) hblk).trans f1, hl, hm, hs, bytes_kept hb hg ?_, hn⟩
  intro a ha e
  simp at e
  exact hA _ (hn a ha).1 e

end Go.Proofs.Ytmkoefnnpficfaa
