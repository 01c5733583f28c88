/-
  Several texts, joined: WX, KY.
-/
import Derived.Test.YtbmjlofehbbkbaaDoorJA
import Derived.RegionTactic
import Derived.BigRegion
import Derived.Deep.LoopGhost
import Derived.WalkSpells
import Derived.WalkLawsBesides

/- Layer 1 for the layers above it: a fixed number's form; a reader over a copy; a fixed number read, by the program and by the reference. -/
namespace Go.Proofs.YtbmjlofehbbkbaaDoor
open Go.RowKit

/-- the bytes xs lie at p: no byte, or an address with its cells -/
def BytesIn (w : World) (p : Option Addr) (xs : List Int) : Prop :=
  (∀ x ∈ xs, 0 ≤ x ∧ x < 256) ∧ (xs = [] ∨ ∃ b o, p = some ⟨b, o, none⟩ ∧ ∀ i, i < xs.length → w.cell? ⟨b, o + i, none⟩ = some (.int .u8 (xs.getD i 0)))

theorem addr_add (b o j : Nat) : (⟨b, o, none⟩ : Addr).add j = ⟨b, o + j, none⟩ := by
  unfold Addr.add
  split <;> simp_all

set_option maxHeartbeats 2000000 in
set_option maxRecDepth 100000 in
theorem clone_at (a : Addr) (c : Nat) (xs : List Int) (w : World) (hbig : xs.length ≤ 140737488355328) (hc : BytesIn w (some a) xs) :
    Calls Tryd.prog 47 #[.slice (some a) xs.length c] w fun e w' => ∃ v', e = .returned v' ∧ w'.ownsRow w.heap.size 5 1 v' xs.length (xs.map (Value.int .u8)) ∧ v' ≠ .slice none 0 0 ∧ Below w.heap.size w w' := by
  obtain ⟨i0, hi, hz0, hz1, hz2⟩ := info_parts infoU8
  have q22 : ∀ (w : World) (a : Option Addr) (n c n' c' : Nat), (binOp .eql 42 (.slice a n c) (.slice none n' c')).run Tryd.prog w = .ok (.bool a.isNone) w := fun w a n c n' c' => Lib.run_eql_slice_nil w _ _ a n c n' c' Tryd.underlying42
  have A : Hid (BytesIn w (some a) xs) := hc
  clear hc
  generalize hn : xs.length = n at *
  have HN : Hid (xs.length = n) := hn
  clear hn
  go_enter Tryd.func47, Tryd.ntmps47
  go_wp2_with (at_builtin; refine wpList_append_own _ rfl _ _ 42 rfl w.heap.size 5 i0 (.int .u8 0) 1 1 Tryd.underlying42 hi hz0 hz1 hz2 rfl (by decide) _ _ _ rfl (World.ownsRow_made w #[] 0 (Nat.le_refl _) (Nat.zero_le _) rfl) a n c (xs.map (Value.int .u8)) rfl ?qc1 ?qc2 ?qc3 ?qc4 ?qc5 ?qc6 ?_)
  case qc1 => simp; exact HN.out
  case qc2 =>
    intro j u hj
    have hjn : j < xs.length := by
      have := (List.getElem?_eq_some_iff.1 hj).1
      simpa using this
    rcases A.out.2 with h | ⟨b, o, ha, hcell⟩
    · subst h; simp at hjn
    · cases ha
      have h1 := hcell j hjn
      have e : (xs.map (Value.int .u8))[j]? = some (Value.int .u8 (xs.getD j 0)) := by simp [List.getD, List.getElem?_eq_getElem hjn]
      rw [e] at hj
      cases hj
      have hlt := block_lt_of_cell h1
      rw [addr_add, World.cell?_of_block (w := w) (Below.heap_alloc _ _ _ hlt)]
      exact h1
  case qc3 => intro u hu; obtain ⟨x, _, rfl⟩ := List.mem_map.1 hu; rfl
  case qc4 => unfold maxLen; omega
  case qc5 => omega
  case qc6 => simp
  intro v' w1 hown hgrow hnil
  go_wp2
  go_ret
  refine ⟨v', rfl, by simpa using hown, ?_, ?_⟩
  · exact hnil
  · exact ((Below.refl _ w).alloc (Nat.le_refl _) _).grown hgrow (by simp) (by intro k hk; simp [Value.ownBlock] at hk; omega)

set_option maxHeartbeats 400000 in
theorem clone_nil (n c : Nat) (w : World) :
    Calls Tryd.prog 47 #[.slice none n c] w fun e w' => e = .returned (.slice none 0 0) ∧ w' = w := by
  have q22 : ∀ (w : World) (a : Option Addr) (n c n' c' : Nat), (binOp .eql 42 (.slice a n c) (.slice none n' c')).run Tryd.prog w = .ok (.bool a.isNone) w := fun w a n c n' c' => Lib.run_eql_slice_nil w _ _ a n c n' c' Tryd.underlying42
  go_enter Tryd.func47, Tryd.ntmps47
  go_wp2
  go_ret
  exact ⟨rfl, rfl⟩

/-- bytes.Clone, whatever it is given. -/
theorem clone_any (p : Option Addr) (c : Nat) (xs : List Int) (w : World) (hbig : xs.length ≤ 140737488355328) (hc : BytesIn w p xs) :
    Calls Tryd.prog 47 #[.slice p xs.length c] w fun e w' => ∃ v', e = .returned v' ∧ w'.ownsRow w.heap.size 5 1 v' xs.length (xs.map (Value.int .u8)) ∧ Below w.heap.size w w' := by
  cases p with
  | none =>
    rcases hc.2 with h | ⟨b, o, h, _⟩
    · subst h
      exact (clone_nil _ c w).mono fun e w' ⟨he, hw⟩ => ⟨_, he, by rw [hw]; exact World.ownsRow_nil _ _ _ _, by rw [hw]; exact Below.refl _ _⟩
    · cases h
  | some a => exact (clone_at a c xs w hbig hc).mono fun e w' ⟨v', he, ho, _, hb⟩ => ⟨v', he, ho, hb⟩

set_option maxHeartbeats 400000 in
theorem isFixed_any (n : Int) (w : World) :
    Calls Tryd.prog 42 #[.int .i64 n] w fun e w' => e = .returned (.bool (decide (1 ≤ n ∧ n ≤ 8))) ∧ w' = w := by
  by_cases h1 : 1 ≤ n
  · by_cases h2 : n ≤ 8
    · go_enter Tryd.func42, Tryd.ntmps42
      go_wp2
      go_ret
      exact ⟨by simp [h1, h2], rfl⟩
    · have h2' : decide (n ≤ 8) = false := by simpa using h2
      go_enter Tryd.func42, Tryd.ntmps42
      go_wp2
      go_ret
      exact ⟨by simp, rfl⟩
  · have h1' : decide (1 ≤ n) = false := by simpa using h1
    go_enter Tryd.func42, Tryd.ntmps42
    go_wp2
    go_ret
    exact ⟨by simp, rfl⟩

theorem map_set_u8 (ys : List Int) (i : Nat) (x : Int) : (ys.map (Value.int .u8)).set i (.int .u8 x) = (ys.set i x).map (Value.int .u8) := by
  rw [List.map_set]

theorem map_at_u8 {ys : List Int} {i : Nat} (h : i < ys.length) : (ys.map (Value.int .u8))[i]? = some (.int .u8 (ys.getD i 0)) := by
  simp [List.getD, h]

/-- a fixed number's form -/
def fixF : Nat → Nat → List Int
  | 0, _ => []
  | s + 1, n => ((n / 256 ^ s % 256 : Nat) : Int) :: fixF s n

theorem fixF_length (s n : Nat) : (fixF s n).length = s := by induction s with
  | zero => rfl
  | succ s ih => simp [fixF, ih]

theorem fixF_bytes (s n : Nat) : ∀ x ∈ fixF s n, 0 ≤ x ∧ x < 256 := by
  induction s with
  | zero => intro x hx; simp [fixF] at hx
  | succ s ih =>
    intro x hx
    rcases List.mem_cons.1 hx with h | h
    · subst h
      have := Nat.mod_lt (n / 256 ^ s) (show 256 > 0 by omega)
      omega
    · exact ih x h

theorem fix_step (s i n : Nat) (hi : i < s) : ((List.replicate (s - i) (0 : Int) ++ fixF i n).set (s - 1 - i) ((n / 256 ^ i % 256 : Nat) : Int)) = List.replicate (s - (i + 1)) 0 ++ fixF (i + 1) n := by
  obtain ⟨k, rfl⟩ : ∃ k, s = i + 1 + k := ⟨s - (i + 1), by omega⟩
  rw [show i + 1 + k - i = k + 1 by omega, show i + 1 + k - 1 - i = k by omega, show i + 1 + k - (i + 1) = k by omega, fixF, List.replicate_succ', List.append_assoc, List.set_append, if_neg (by simp)]
  simp

theorem shr_fix (n i : Nat) : ((n : Int) / 2 ^ (8 * i) % 256) = ((n / 256 ^ i % 256 : Nat) : Int) := by
  rw [show (256 : Nat) ^ i = 2 ^ (8 * i) by rw [Nat.pow_mul]]
  simp

set_option maxHeartbeats 1000000 in
set_option maxRecDepth 100000 in
theorem fixed_in (n s : Nat) (_hn : n < 18446744073709551616) (h1 : 1 ≤ s) (h8 : s ≤ 8) (w : World) :
    Calls Tryd.prog 30 #[.int .u64 n, .int .i64 s] w fun e w' => ∃ v, e = .returned v ∧ w'.ownsRow w.heap.size 5 1 v s ((fixF s n).map (Value.int .u8)) ∧ Below w.heap.size w w' := by
  obtain ⟨i0, hi, hz0, hz1, hz2⟩ := info_parts infoU8
  have hok : decide ((1 : Int) ≤ (s : Int) ∧ (s : Int) ≤ 8) = true := by simp; omega
  go_enter Tryd.func30, Tryd.ntmps30
  go_wp2_with fail
  refine (isFixed_any _ _).mono ?_
  rintro e w1 ⟨rfl, hw1⟩
  subst hw1
  rw [hok]
  go_wp2_with (at_make; refine wpList_make_full _ rfl _ _ 42 rfl w1.heap.size 5 i0 (.int .u8 0) 1 Tryd.underlying42 hi hz0 hz1 .i64 .i64 _ _ s rfl rfl rfl rfl ?m1 ?m2 ?m3 ?_)
  case m1 => rw [hz2]; omega
  case m2 => unfold maxLen; omega
  case m3 => exact Nat.le_refl _
  intro w2 hown hgrow
  have hown1 : w2.ownsRow w1.heap.size 5 1 (.slice (some ⟨w1.heap.size, 0, none⟩) s s) s ((List.replicate s (0 : Int)).map (Value.int .u8)) := by
    have e : (madeCells #[Value.int .u8 0] s).toList = (List.replicate s (0 : Int)).map (Value.int .u8) := by
      rw [toList_madeCells_one]; simp
    rw [← e]; exact hown
  have HO : Hid (w2.ownsRow w1.heap.size 5 1 (.slice (some ⟨w1.heap.size, 0, none⟩) s s) s ((List.replicate s (0 : Int)).map (Value.int .u8))) := hown1
  have hb : Below w1.heap.size w1 w2 := grown_below hgrow (Nat.le_refl _) (by intro k hk; cases hk)
  have hsz : w1.heap.size < w2.heap.size := by
    obtain ⟨g, cap, hv, _, hg, _⟩ := own_shape hown1 (by omega)
    cases hv; exact hg
  clear hown hgrow hown1
  go_wp2
  go_loopg [6, 13] 8 (fun k _ s13 wr => ∃ (i : Nat), s13 = .int .i64 i ∧ i ≤ s ∧ s - i ≤ k ∧
    wr.ownsRow w1.heap.size 5 1 (.slice (some ⟨w1.heap.size, 0, none⟩) s s) s ((List.replicate (s - i) (0 : Int) ++ fixF i n).map (Value.int .u8)) ∧ Below w1.heap.size w1 wr)
  case atStart => exact ⟨0, rfl, by omega, by omega, by simpa [fixF] using HO.out, hb⟩
  case round =>
    obtain ⟨i, rfl, his, hk, ho, hbr⟩ := hrel
    by_cases hlt : i < s
    · have fj := ho.frozenAt (s - 1 - i)
      have cj := ho.cellAt (s - 1 - i) (by omega)
      have hcj : ∃ x, wr.cell? ⟨w1.heap.size, s - 1 - i, none⟩ = some (.int .u8 x) := by
        refine ⟨_, cj.trans (map_at_u8 ?_)⟩
        simp [fixF_length]; omega
      obtain ⟨x, hx⟩ := hcj
      have HO2 : Hid (wr.ownsRow w1.heap.size 5 1 (.slice (some ⟨w1.heap.size, 0, none⟩) s s) s ((List.replicate (s - i) (0 : Int) ++ fixF i n).map (Value.int .u8))) := ho
      clear ho cj HO
      have ej : ((s : Int) - 1 - (i : Int)).toNat = s - 1 - i := by omega
      go_wp2
      go_roundg (s - (i + 1))
      case measure => omega
      case rel =>
        rw [shr_fix n i]
        refine ⟨i + 1, by go_num, by omega, by omega, ?_, hbr.setCell (Nat.le_refl _) _⟩
        have h2 := (HO2.out.stored (s - 1 - i) (.int .u8 ((n / 256 ^ i % 256 : Nat) : Int))).1
        rw [map_set_u8, fix_step s i n hlt] at h2
        exact h2
    · go_wp2
      go_ret
      have e : i = s := by omega
      subst e
      exact ⟨_, rfl, by simpa using ho, hbr⟩

/-- a reader at block b: what is left, its error -/
def Rd (A : Nat → Prop) (w : World) (b : Nat) (bs : List Int) (x : Int) : Prop :=
  ∃ p cap, w.cell? ⟨b, 0, none⟩ = some (.slice p bs.length cap) ∧ w.cell? ⟨b, 1, none⟩ = some (.int .i64 x) ∧ w.frozen? ⟨b, 0, none⟩ = false ∧ w.frozen? ⟨b, 1, none⟩ = false ∧
    bs.length ≤ cap ∧ cap ≤ maxLen ∧ bs.length ≤ 140737488355328 ∧ BytesIn w p bs ∧ (∀ a, p = some a → A a.block ∧ a.block ≠ b)

variable {A : Nat → Prop}

theorem own_bytes {w : World} {B : Nat} {e : TypeId} {v : Value} {xs : List Int} (h : w.ownsRow B e 1 v xs.length (xs.map (Value.int .u8))) (hb : ∀ x ∈ xs, 0 ≤ x ∧ x < 256) :
    ∃ p cap, v = .slice p xs.length cap ∧ xs.length ≤ cap ∧ cap ≤ maxLen ∧ BytesIn w p xs ∧ ∀ a, p = some a → B ≤ a.block ∧ a.block < w.heap.size := by
  rcases h.2 with ⟨rfl, h0⟩ | ⟨g, cap, cur, hv, hB, hg, hnc, hcm, _, _⟩
  · have : xs = [] := List.eq_nil_of_length_eq_zero h0
    subst this
    exact ⟨none, 0, rfl, Nat.le_refl _, Nat.zero_le _, ⟨hb, Or.inl rfl⟩, fun a h => by cases h⟩
  · have hlt : g < w.heap.size := by
      by_cases hlt : g < w.heap.size
      · exact hlt
      · rw [Array.getElem?_eq_none (by omega)] at hg; cases hg
    subst hv
    refine ⟨some ⟨g, 0, none⟩, cap, rfl, hnc, hcm, ⟨hb, Or.inr ⟨g, 0, rfl, fun i hi => ?_⟩⟩, fun a h => by cases h; exact ⟨hB, hlt⟩⟩
    rw [Nat.zero_add, h.cellAt i (by omega), map_at_u8 hi]

/-- a cell that holds something lies still in a world that has grown, out of the one row -/
theorem bytes_kept {w w' : World} {r : Option Nat} {p : Option Addr} {xs : List Int} (h : BytesIn w p xs) (hg : w.grownBy w' r) (hne : ∀ a, p = some a → some a.block ≠ r) : BytesIn w' p xs := by
  refine ⟨h.1, ?_⟩
  rcases h.2 with h0 | ⟨b, o, rfl, hc⟩
  · exact Or.inl h0
  · exact Or.inr ⟨b, o, rfl, fun i hi => hg.cell (hc i hi) (by have := hne _ rfl; exact this)⟩

theorem Rd.lt {w : World} {b : Nat} {bs : List Int} {x : Int} (h : Rd A w b bs x) : b < w.heap.size := by
  obtain ⟨p, cap, h0, _⟩ := h
  exact block_lt_of_cell h0

/-- a reader is as it was where its block and its bytes' block were not written -/
theorem Rd.kept {w w' : World} {b : Nat} {bs : List Int} {x : Int} (h : Rd A w b bs x) (hg : Below w.heap.size w w') : Rd A w' b bs x := by
  have hlt := h.lt
  obtain ⟨p, cap, h0, h1, f0, f1, hl, hm, hs, hb, hne⟩ := h
  exact ⟨p, cap, (hg.cell hlt).trans h0, (hg.cell hlt).trans h1, (hg.frozen hlt).trans f0, (hg.frozen hlt).trans f1, hl, hm, hs, bytes_kept hb (below_grown hg none) (fun a _ => by simp), hne⟩

theorem rd_new {w : World} {q : Option Addr} {xs : List Int} {cap : Nat} {t : TypeId} (hl : xs.length ≤ cap) (hm : cap ≤ maxLen) (hbig : xs.length ≤ 140737488355328) (hb : BytesIn w q xs) (hq : ∀ a, q = some a → a.block < w.heap.size) (hA : ∀ a, q = some a → A a.block) :
    Rd A (w.alloc (Obj.cells #[.slice q xs.length cap, .int .i64 0] t)) w.heap.size xs 0 := by
  refine ⟨q, cap, ?_, ?_, ?_, ?_, hl, hm, hbig, ?_, fun a ha => ⟨hA a ha, by have := hq a ha; omega⟩⟩
  · simp
  · simp
  · simp
  · simp
  · exact bytes_kept hb (World.grownBy_alloc w _ none) (fun a _ => by simp)

set_option maxHeartbeats 400000 in
set_option maxRecDepth 100000 in
theorem open_any (p : Option Addr) (c : Nat) (xs : List Int) (w : World) (hbig : xs.length ≤ 140737488355328) (hc : BytesIn w p xs) :
    Calls Tryd.prog 37 #[.slice p xs.length c] w fun e w' => ∃ b, e = .returned (.pointer (some ⟨b, 0, none⟩)) ∧ w.heap.size ≤ b ∧ Rd (fun k => w.heap.size ≤ k ∧ k < b) w' b xs 0 ∧ Below w.heap.size w w' := by
  go_enter Tryd.func37, Tryd.ntmps37
  go_wp2_with fail
  refine (clone_any p c xs w hbig hc).mono ?_
  rintro e w1 ⟨v, rfl, hown, hb⟩
  obtain ⟨q, cap, rfl, hl, hm, hby, hblk⟩ := own_bytes hown hc.1
  have HB : Hid (BytesIn w1 q xs) := hby
  have HC : Hid (BytesIn w p xs) := hc
  clear hown hc hby
  go_wp2
  go_ret
  have hs := hb.size
  refine ⟨_, rfl, hs, ?_, hb.alloc hs _⟩
  exact rd_new hl hm hbig HB.out (fun a ha => (hblk a ha).2) (fun a ha => hblk a ha)

theorem w_run_from (w : World) (p : Option Addr) (n cap l : Nat) (h : l ≤ n) :
    (Instr.slice 42 (.slice p n cap) (some (.int .i64 (l : Int))) none none).run Tryd.prog w = .ok (.slice (cutP p l cap) (n - l) (cap - l)) w := by
  have ht' : Tryd.prog.underlying 42 = some (.slice (Tryd.prog.elem 42)) := by simp [Program.elem, Tryd.underlying42]
  have he : Tryd.prog.elem 42 = 5 := by simp [Program.elem, Tryd.underlying42]
  rw [run_slice_l w 42 _ _ _ ht' .i64 _ (by omega) (by omega), he, size5]
  simp [Result.andThen, sliced, cutP]

theorem w_run_upto (w : World) (p : Option Addr) (n cap l : Nat) (h : l ≤ cap) :
    (Instr.slice 42 (.slice p n cap) none (some (.int .i64 (l : Int))) none).run Tryd.prog w = .ok (.slice p l cap) w := by
  have ht' : Tryd.prog.underlying 42 = some (.slice (Tryd.prog.elem 42)) := by simp [Program.elem, Tryd.underlying42]
  have he : Tryd.prog.elem 42 = 5 := by simp [Program.elem, Tryd.underlying42]
  rw [run_slice_h w 42 _ _ _ ht' .i64 _ (by omega) (by omega), he, size5]
  cases p with
  | none => simp [Result.andThen, sliced]
  | some a =>
    have e : a.add 0 = a := by unfold Addr.add; simp
    simp [Result.andThen, sliced, e]

theorem w_bytes_from {w : World} {p : Option Addr} {xs : List Int} (h : BytesIn w p xs) (l cap : Nat) (hc : xs.length ≤ cap) : BytesIn w (cutP p l cap) (xs.drop l) := by
  refine ⟨fun x hx => h.1 x (List.mem_of_mem_drop hx), ?_⟩
  by_cases hl : xs.length ≤ l
  · exact Or.inl (List.drop_eq_nil_of_le hl)
  · rcases h.2 with h0 | ⟨b, o, rfl, hcl⟩
    · subst h0; simp at hl
    · refine Or.inr ⟨b, o + l, ?_, fun i hi => ?_⟩
      · simp [cutP, show cap ≠ l by omega, addr_add]
      · have hi' : l + i < xs.length := by simp at hi; omega
        have := hcl (l + i) hi'
        rw [Nat.add_assoc, this]
        simp [List.getD]

theorem w_bytes_upto {w : World} {p : Option Addr} {xs : List Int} (h : BytesIn w p xs) (l : Nat) : BytesIn w p (xs.take l) := by
  refine ⟨fun x hx => h.1 x (List.mem_of_mem_take hx), ?_⟩
  rcases h.2 with h0 | ⟨b, o, rfl, hcl⟩
  · subst h0; simp
  · refine Or.inr ⟨b, o, rfl, fun i hi => ?_⟩
    have hi' : i < xs.length := by simp at hi; omega
    have hl : i < l := by simp at hi; omega
    rw [hcl i hi']
    simp [List.getD, hl]

/-- the reader behind a store of what is left -/
theorem Rd.stored {w : World} {b : Nat} {bs : List Int} {x : Int} (h : Rd A w b bs x) (l : Nat) (hl : l ≤ bs.length) :
    ∀ p cap, w.cell? ⟨b, 0, none⟩ = some (.slice p bs.length cap) → Rd A (w.setCell ⟨b, 0, none⟩ (.slice (cutP p l cap) (bs.length - l) (cap - l))) b (bs.drop l) x ∧ w.grownBy (w.setCell ⟨b, 0, none⟩ (.slice (cutP p l cap) (bs.length - l) (cap - l))) (some b) := by
  intro p cap hp
  obtain ⟨p', cap', h0, h1, f0, f1, hlc, hm, hs, hb, hne⟩ := h
  rw [h0] at hp
  cases hp
  have hg : w.grownBy (w.setCell ⟨b, 0, none⟩ (.slice (cutP p l cap) (bs.length - l) (cap - l))) (some b) :=
    ⟨rfl, rfl, rfl, by simp, fun k _ hk => heap_setCell_other w ⟨b, 0, none⟩ k _ (fun e => hk (by simp [e]))⟩
  refine ⟨⟨cutP p l cap, cap - l, ?_, ?_, ?_, ?_, by simp; omega, by omega, by simp; omega, ?_, ?_⟩, hg⟩
  · rw [World.cell?_setCell_same _ _ _ h0]; simp
  · rw [World.cell?_setCell_other _ _ _ _ (by simp)]; exact h1
  · rw [World.frozen?_setCell]; exact f0
  · rw [World.frozen?_setCell]; exact f1
  · refine bytes_kept (w_bytes_from hb l cap hlc) hg (fun a ha => ?_)
    obtain ⟨a0, h0', e⟩ := cutP_block ha
    rw [e]
    intro hc
    exact (hne a0 h0').2 (by simpa using hc)
  · intro a ha
    obtain ⟨a0, h0', e⟩ := cutP_block ha
    rw [e]
    exact hne a0 h0'

set_option maxHeartbeats 400000 in
set_option maxRecDepth 100000 in
theorem cut_in (b : Nat) (bs : List Int) (x : Int) (l : Nat) (w : World) (hr : Rd A w b bs x) (hl : l ≤ bs.length) :
    Calls Tryd.prog 59 #[.pointer (some ⟨b, 0, none⟩), .int .i64 l] w fun e w' => ∃ v, e = .returned (.tuple #[v, .int .i64 0]) ∧
      w'.ownsRow w.heap.size 5 1 v l ((bs.take l).map (Value.int .u8)) ∧ Rd A w' b (bs.drop l) x ∧ w.grownBy w' (some b) := by
  have HR : Hid (Rd A w b bs x) := hr
  have hlt := hr.lt
  obtain ⟨p, cap, h0, h1, f0, f1, hlc, hm, hs, hb, hne⟩ := hr
  have HB : Hid (BytesIn w p bs) := hb
  have hbt : (bs.take l).length = l := by simp; omega
  have HT : Hid ((bs.take l).length = l) := hbt
  generalize hn : bs.length = n at *
  have HN : Hid (bs.length = n) := hn
  clear hn hb hne hbt h1 f1
  have hup := fun w => w_run_upto w p n cap l (by omega)
  have hfr := fun w => w_run_from w p n cap l (by omega)
  have hno : decide ((n : Int) < (l : Int)) = false := by simp; omega
  unfold maxLen at hm
  have hcl := clone_any p cap (bs.take l) w (by rw [HT.out]; omega) (w_bytes_upto HB.out l)
  rw [HT.out] at hcl
  have HCL : Hid (Calls Tryd.prog 47 #[.slice p l cap] w fun e w' => ∃ v', e = .returned v' ∧ w'.ownsRow w.heap.size 5 1 v' l ((bs.take l).map (Value.int .u8)) ∧ Below w.heap.size w w') := hcl
  clear hcl
  go_enter Tryd.func59, Tryd.ntmps59
  go_wp2_with fail
  refine HCL.out.mono ?_
  rintro e w1 ⟨v, rfl, hown, hbl⟩
  have c0 := (hbl.cell (p := ⟨b, 0, none⟩) hlt).trans h0
  have g0 := (hbl.frozen (p := ⟨b, 0, none⟩) hlt).trans f0
  have HO : Hid (w1.ownsRow w.heap.size 5 1 v l ((bs.take l).map (Value.int .u8))) := hown
  have HBL : Hid (Below w.heap.size w w1) := hbl
  clear hown hbl h0 f0
  go_wp2
  go_ret2
  have hR1 := HR.out.kept HBL.out
  have hst := hR1.stored l (by rw [HN.out]; exact hl) p cap (by rw [HN.out]; exact c0)
  rw [HN.out] at hst
  refine ⟨v, rfl, ?_, hst.1, grown_trans (below_grown HBL.out _) hst.2⟩
  refine HO.out.kept hst.2 ?_
  by_cases hv : v.ownBlock = none
  · exact Or.inl hv
  · right
    intro e
    have := (HO.out.lt b e).1
    omega

set_option maxHeartbeats 400000 in
set_option maxRecDepth 100000 in
theorem cut_out (b : Nat) (bs : List Int) (x : Int) (l : Int) (w : World) (hr : Rd A w b bs x) (hl : (bs.length : Int) < l) :
    Calls Tryd.prog 59 #[.pointer (some ⟨b, 0, none⟩), .int .i64 l] w fun e w' => e = .returned (.tuple #[.slice none 0 0, .int .i64 4]) ∧ w' = w := by
  obtain ⟨p, cap, h0, h1, f0, f1, hlc, hm, hs, hb, hne⟩ := hr
  clear hb hne h1 f1
  generalize hn : bs.length = n at *
  clear hn
  go_enter Tryd.func59, Tryd.ntmps59
  go_wp2
  go_ret2
  exact ⟨rfl, rfl⟩

theorem ret2_u64 {a b : Int} {v : Value} (h : a = b) : Ending.returned (.tuple #[.int .u64 a, v]) = .returned (.tuple #[.int .u64 b, v]) := by rw [h]

theorem int_u64 {a b : Int} (h : a = b) : Value.int .u64 a = .int .u64 b := by rw [h]

/-- the number that bytes are, the highest first -/
def valF (bs : List Int) : Nat := bs.foldl (fun a c => a * 256 + c.toNat) 0

theorem valF_snoc (bs : List Int) (c : Int) : valF (bs ++ [c]) = valF bs * 256 + c.toNat := by simp [valF]

theorem valF_take {bs : List Int} {i : Nat} (h : i < bs.length) : valF (bs.take (i + 1)) = valF (bs.take i) * 256 + (bs.getD i 0).toNat := by
  rw [List.take_succ_eq_append_getElem h, valF_snoc]
  simp [List.getD, h]

theorem valF_lt {bs : List Int} (hb : ∀ x ∈ bs, 0 ≤ x ∧ x < 256) : ∀ i, i ≤ bs.length → valF (bs.take i) < 256 ^ i := by
  intro i
  induction i with
  | zero => intro _; simp [valF]
  | succ i ih =>
    intro hi
    have h1 := ih (by omega)
    have h2 := hb (bs.getD i 0) (by simp [List.getD, show i < bs.length by omega])
    rw [valF_take (by omega), Nat.pow_succ]
    omega

theorem or_low8 (m : Nat) (c0 : Int) (hm : m < 72057594037927936) (h0 : 0 ≤ c0) (h1 : c0 < 256) : bits .or .u64 ((m : Int) * 256) c0 = (m : Int) * 256 + c0 := by
  obtain ⟨c, rfl⟩ := Int.eq_ofNat_of_zero_le h0
  have hc : c < 256 := by omega
  have h := u64_or_nat (m * 256) c (by omega) (by omega)
  rw [nat_join 8 (m * 256) c (by omega) (by omega)] at h
  simpa using h

def FixPost (A : Nat → Prop) (bs : List Int) (s : Int) (x : Int) (b : Nat) (w : World) (e : Ending) (w' : World) : Prop :=
  (¬ (1 ≤ s ∧ s ≤ 8 ∧ s ≤ bs.length) ∧ e = .returned (.tuple #[.int .u64 0, .int .i64 4]) ∧ w' = w) ∨
  (1 ≤ s ∧ s ≤ 8 ∧ s ≤ bs.length ∧ e = .returned (.tuple #[.int .u64 (valF (bs.take s.toNat) : Nat), .int .i64 0]) ∧ Rd A w' b (bs.drop s.toNat) x ∧ w.grownBy w' (some b))

set_option maxHeartbeats 1000000 in
set_option maxRecDepth 100000 in
theorem fixedR_any (b : Nat) (bs : List Int) (s : Int) (x : Int) (w : World) (hr : Rd A w b bs x) :
    Calls Tryd.prog 49 #[.pointer (some ⟨b, 0, none⟩), .int .i64 s] w fun e w' => FixPost A bs s x b w e w' := by
  have HR : Hid (Rd A w b bs x) := hr
  have hbig : bs.length ≤ 140737488355328 := by obtain ⟨p, cap, _, _, _, _, _, _, h, _⟩ := hr; exact h
  have hby : Hid (∀ y ∈ bs, 0 ≤ y ∧ y < 256) := by obtain ⟨p, cap, _, _, _, _, _, _, _, h, _⟩ := hr; exact h.1
  clear hr
  by_cases hs : 1 ≤ s ∧ s ≤ 8
  · have hok : decide (1 ≤ s ∧ s ≤ 8) = true := by simpa using hs
    obtain ⟨hs1, hs8⟩ := hs
    by_cases hlen : s ≤ bs.length
    · obtain ⟨l, rfl⟩ := Int.eq_ofNat_of_zero_le (show 0 ≤ s by omega)
      go_enter Tryd.func49, Tryd.ntmps49
      go_wp2_with fail
      refine (isFixed_any _ _).mono ?_
      rintro e w1 ⟨rfl, hw1⟩
      subst hw1
      rw [hok]
      clear hok
      go_wp2_with fail
      refine (cut_in b bs x l _ HR.out (by omega)).mono ?_
      rintro e w2 ⟨v, rfl, hown, hrd, hg⟩
      obtain ⟨g, cap, rfl, hBg, hgs, hnc, hcm⟩ := own_shape hown (by omega)
      have HO := hide hown
      have HRD := hide hrd
      have HG := hide hg
      clear hown hrd hg
      have htl : Hid ((bs.take l).length = l) := by show (bs.take l).length = l; simp; omega
      go_wp2
      go_loopg [8, 10, 22] 9 (fun k s8 _ s22 wr => ∃ (i : Nat), s8 = .int .u64 (valF ((bs.take l).take i) : Nat) ∧ s22 = .int .i64 i ∧ i ≤ l ∧ l - i < k ∧ wr = w2)
      case atStart => exact ⟨0, rfl, rfl, by omega, by omega, rfl⟩
      case round =>
        obtain ⟨i, rfl, rfl, hil, hk, rfl⟩ := hrel
        have hby2 : ∀ y ∈ bs.take l, 0 ≤ y ∧ y < 256 := fun y hy => hby.out y (List.mem_of_mem_take hy)
        by_cases hlt : i < l
        · have hci := (HO.out.cellAt i (by omega)).trans (map_at_u8 (by rw [htl.out]; exact hlt))
          have hv := valF_lt hby2 i (by rw [htl.out]; omega)
          have hp : (256 : Nat) ^ i ≤ 256 ^ 7 := Nat.pow_le_pow_right (by omega) (by omega)
          have hv7 : valF ((bs.take l).take i) < 72057594037927936 := Nat.lt_of_lt_of_le hv hp
          have HV : Hid (valF ((bs.take l).take (i + 1)) = valF ((bs.take l).take i) * 256 + ((bs.take l).getD i 0).toNat) := valF_take (by rw [htl.out]; exact hlt)
          have hyb := hby2 ((bs.take l).getD i 0) (by rw [List.getD_eq_getElem?_getD, List.getElem?_eq_getElem (by rw [htl.out]; exact hlt)]; exact List.getElem_mem _)
          clear hp hv hby2
          generalize hm : valF ((bs.take l).take i) = m at *
          generalize hy : (bs.take l).getD i 0 = y at *
          clear hm hy
          have hor := or_low8 m y hv7 hyb.1 hyb.2
          go_wp2
          go_roundg (l - i)
          case measure => omega
          case rel => exact ⟨i + 1, int_u64 (by rw [HV.out]; omega), by go_num, by omega, by omega, rfl⟩
        · have e : i = l := by omega
          subst e
          go_wp2
          go_ret2
          refine Or.inr ⟨hs1, hs8, hlen, ?_, HRD.out, HG.out⟩
          rw [Int.toNat_natCast]
          exact ret2_u64 (by rw [List.take_take, Nat.min_self])
    · go_enter Tryd.func49, Tryd.ntmps49
      go_wp2_with fail
      refine (isFixed_any _ _).mono ?_
      rintro e w1 ⟨rfl, hw1⟩
      subst hw1
      rw [hok]
      clear hok
      go_wp2_with fail
      refine (cut_out b bs x s _ HR.out (by omega)).mono ?_
      rintro e w2 ⟨rfl, hw2⟩
      subst hw2
      go_wp2
      go_loopg [8, 10, 22] 9 (fun _ s8 _ s22 wr => s8 = .int .u64 0 ∧ s22 = .int .i64 0 ∧ wr = w2)
      case atStart => exact ⟨rfl, rfl, rfl⟩
      case round =>
        obtain ⟨rfl, rfl, rfl⟩ := hrel
        go_wp2
        go_ret2
        exact Or.inl ⟨by omega, rfl, rfl⟩
  · have hok : decide (1 ≤ s ∧ s ≤ 8) = false := by simpa using hs
    go_enter Tryd.func49, Tryd.ntmps49
    go_wp2_with fail
    refine (isFixed_any _ _).mono ?_
    rintro e w1 ⟨rfl, hw1⟩
    subst hw1
    rw [hok]
    clear hok
    go_wp2
    go_ret2
    exact Or.inl ⟨by omega, rfl, rfl⟩

/-- where a step failed all stands again, and the error is there -/
theorem Rd.reset {w w1 : World} {b : Nat} {bs bs1 : List Int} {x x1 : Int} (h : Rd A w b bs x) (hg : w.grownBy w1 (some b)) (h1 : Rd A w1 b bs1 x1) (y : Int) :
    ∀ p cap, w.cell? ⟨b, 0, none⟩ = some (.slice p bs.length cap) →
      Rd A ((w1.setCell ⟨b, 0, none⟩ (.slice p bs.length cap)).setCell ⟨b, 1, none⟩ (.int .i64 y)) b bs y ∧ w.grownBy ((w1.setCell ⟨b, 0, none⟩ (.slice p bs.length cap)).setCell ⟨b, 1, none⟩ (.int .i64 y)) (some b) := by
  intro p cap hp
  obtain ⟨p', cap', h0, _, _, _, hlc, hm, hs, hb, hne⟩ := h
  rw [h0] at hp
  cases hp
  obtain ⟨q, cq, c0, c1, f0, f1, _⟩ := h1
  have g1 : w1.grownBy (w1.setCell ⟨b, 0, none⟩ (.slice p bs.length cap)) (some b) := ⟨rfl, rfl, rfl, by simp, fun k _ hk => heap_setCell_other w1 ⟨b, 0, none⟩ k _ (fun e => hk (by simp [e]))⟩
  have g2 : (w1.setCell ⟨b, 0, none⟩ (.slice p bs.length cap)).grownBy ((w1.setCell ⟨b, 0, none⟩ (.slice p bs.length cap)).setCell ⟨b, 1, none⟩ (.int .i64 y)) (some b) :=
    ⟨rfl, rfl, rfl, by simp, fun k _ hk => heap_setCell_other _ ⟨b, 1, none⟩ k _ (fun e => hk (by simp [e]))⟩
  have g := grown_trans hg (grown_trans g1 g2)
  refine ⟨⟨p, cap, ?_, ?_, ?_, ?_, hlc, hm, hs, bytes_kept hb g (fun a ha e => (hne a ha).2 (by simpa using e)), hne⟩, g⟩
  · rw [World.cell?_setCell_other _ _ _ _ (by simp), World.cell?_setCell_same _ _ _ c0]
  · exact World.cell?_setCell_same _ _ _ (u := .int .i64 x1) (by rw [World.cell?_setCell_other _ _ _ _ (by simp)]; exact c1)
  · rw [World.frozen?_setCell, World.frozen?_setCell]; exact f0
  · rw [World.frozen?_setCell, World.frozen?_setCell]; exact f1

set_option maxHeartbeats 1000000 in
set_option maxRecDepth 100000 in
theorem rfix_ok (b : Nat) (bs : List Int) (s : Int) (w : World) (hr : Rd A w b bs 0) :
    Calls Tryd.prog 38 #[.pointer (some ⟨b, 0, none⟩), .int .i64 s] w fun e w' => ∃ (m : Nat) (bs' : List Int) (x : Int), e = .returned (.int .u64 m) ∧ Rd A w' b bs' x ∧ w.grownBy w' (some b) ∧
      ((¬ (1 ≤ s ∧ s ≤ 8 ∧ s ≤ bs.length) ∧ m = 0 ∧ bs' = bs ∧ x = 4) ∨ ((1 ≤ s ∧ s ≤ 8 ∧ s ≤ bs.length) ∧ m = valF (bs.take s.toNat) ∧ bs' = bs.drop s.toNat ∧ x = 0)) := by
  have HR := hide hr
  obtain ⟨p, cap, h0, h1, f0, f1, hlc, hm, hs, hb, hne⟩ := hr
  clear hb hne
  go_enter Tryd.func38, Tryd.ntmps38
  go_wp2_with (go_at_call 48; go_in)
  refine (fixedR_any b bs s 0 _ HR.out).mono ?_
  rintro e w1 (⟨hn, rfl, hw1⟩ | ⟨hs1, hs8, hsl, rfl, hrd, hg⟩)
  · subst hw1
    have HN := hide hn
    have HP := hide h0
    clear hn
    go_wp2
    go_ret
    have hst := HR.out.reset (grown_refl _ _) HR.out 4 p cap HP.out
    exact ⟨0, bs, 4, rfl, hst.1, hst.2, Or.inl ⟨HN.out, rfl, rfl, rfl⟩⟩
  · have HRD := hide hrd
    have HG := hide hg
    clear hrd hg
    go_wp2
    go_ret
    exact ⟨_, _, 0, rfl, HRD.out, HG.out, Or.inr ⟨⟨hs1, hs8, hsl⟩, rfl, rfl, rfl⟩⟩

theorem w_append_bytes {w : World} {ops : Array Oper} {rest : List Oper} {o : Oper} {a : Act} {Q : Exit → Act → World → Prop} (hgd : o.guard = none) (s x : Operand)
    (ho : o.op = .call { callee := .builtin .append, args := #[s, x], argTypes := #[42, 42] })
    (B : Nat) (v : Value) (xs : List Int) (hs : a.eval s = v) (n : Nat) (hn : xs.length = n) (hown : w.ownsRow B 5 1 v n (xs.map (Value.int .u8)))
    (p : Option Addr) (m c : Nat) (ys : List Int) (hm : ys.length = m) (hx : a.eval x = .slice p m c) (hb : BytesIn w p ys) (hp : p = none → c = 0) (hsum : n + m ≤ 1000000) (hB : B ≤ w.heap.size)
    (h : ∀ v' w' zs k, Hid (zs = xs ++ ys) → Hid (zs.length = k) → w'.ownsRow B 5 1 v' k (zs.map (Value.int .u8)) → w.grownBy w' v.ownBlock → Hid (v = .slice none 0 0 ∨ v' ≠ .slice none 0 0) → wpList Tryd.prog ops Q rest (a.put o.dst v') w') :
    wpList Tryd.prog ops Q (o :: rest) a w := by
  obtain ⟨i0, hi, hz0, hz1, hz2⟩ := info_parts infoU8
  subst hm hn
  cases p with
  | none =>
    have e0 := hp rfl
    subst e0
    rcases hb.2 with h0 | ⟨b, off, h0, _⟩
    · subst h0
      refine wpList_append_own_none hgd s x 42 ho B 5 i0 1 Tryd.underlying42 hi v _ _ hs hown hx ?_
      refine h v w xs _ (hide (by simp)) (hide rfl) hown (grown_refl _ _) ?_
      by_cases hv : v = .slice none 0 0
      · exact Or.inl hv
      · exact Or.inr hv
    · cases h0
  | some ad =>
    refine wpList_append_own w hgd s x 42 ho B 5 i0 (.int .u8 0) 1 1 Tryd.underlying42 hi hz0 hz1 hz2 rfl (by decide) v _ _ hs hown ad ys.length c (ys.map (Value.int .u8)) hx (by simp) ?_ ?_ ?_ (by omega) hB ?_
    · intro j u hj
      have hjn : j < ys.length := by
        have := (List.getElem?_eq_some_iff.1 hj).1
        simpa using this
      rcases hb.2 with h0 | ⟨b, off, h0, hcell⟩
      · subst h0; simp at hjn
      · cases h0
        rw [addr_add, hcell j hjn]
        rw [map_at_u8 hjn] at hj
        exact hj
    · intro u hu
      obtain ⟨y, _, rfl⟩ := List.mem_map.1 hu
      rfl
    · unfold maxLen; omega
    · intro v' w' h1 h2 h3
      refine h v' w' (xs ++ ys) _ (hide rfl) (hide (List.length_append)) (by rw [List.map_append]; exact h1) h2 ?_
      by_cases hv : v = .slice none 0 0
      · exact Or.inl hv
      · exact Or.inr fun e => hv (h3.1 e).1

theorem take_next {l : List Int} {k : Nat} {x : Int} (h : l[k]? = some x) : l.take (k + 1) = l.take k ++ [x] := by
  have hk : k < l.length := by
    rcases Nat.lt_or_ge k l.length with h' | h'
    · exact h'
    · rw [List.getElem?_eq_none h'] at h; cases h
  rw [List.take_succ_eq_append_getElem hk]
  rw [List.getElem?_eq_getElem hk] at h
  cases h
  rfl

theorem fixF_get (s n k : Nat) (hk : k < s) : (fixF s n)[k]? = some ((n / 256 ^ (s - 1 - k) % 256 : Nat) : Int) := by
  induction s generalizing k with
  | zero => omega
  | succ s ih =>
    cases k with
    | zero => simp [fixF]
    | succ k =>
      rw [fixF, List.getElem?_cons_succ, ih k (by omega), show s + 1 - 1 - (k + 1) = s - 1 - k by omega]

theorem w_bytes_one (w : World) (x : Int) (t : TypeId) (h0 : 0 ≤ x) (h1 : x < 256) : BytesIn (w.alloc (.cells #[.int .u8 x] t)) (some ⟨w.heap.size, 0, none⟩) [x] := by
  refine ⟨by intro y hy; simp at hy; subst hy; exact ⟨h0, h1⟩, Or.inr ⟨_, _, rfl, ?_⟩⟩
  intro i hi
  have : i = 0 := by simp at hi; omega
  subst this
  simp

set_option maxHeartbeats 1000000 in
set_option maxRecDepth 100000 in
theorem reffix_in (n s : Nat) (_hn : n < 18446744073709551616) (h1 : 1 ≤ s) (h8 : s ≤ 8) (w : World) :
    Calls Tryd.prog 23 #[.int .u64 n, .int .i64 s] w fun e w' => ∃ v, e = .returned v ∧ w'.ownsRow w.heap.size 5 1 v s ((fixF s n).map (Value.int .u8)) ∧ Below w.heap.size w w' := by
  have d1 : decide ((s : Int) < 1) = false := by simp; omega
  have d8 : decide ((8 : Int) < (s : Int)) = false := by simp; omega
  have hget : Hid (∀ k, k < s → (fixF s n)[k]? = some ((n / 256 ^ (s - 1 - k) % 256 : Nat) : Int)) := fun k hk => fixF_get s n k hk
  have hfl : Hid ((fixF s n).length = s) := fixF_length s n
  generalize hFN : fixF s n = F at *
  go_enter Tryd.func23, Tryd.ntmps23
  go_wp2
  go_loopg [5, 6] 12 (fun r s5 s6 wx => ∃ (k : Nat) (j : Int), k ≤ s ∧ s - k < r ∧ s6 = .int .i64 j ∧ j = (s : Int) - 1 - (k : Int) ∧ wx.ownsRow w.heap.size 5 1 s5 k ((F.take k).map (Value.int .u8)) ∧ Below w.heap.size w wx)
  case atStart => exact ⟨0, (s : Int) - 1, by omega, by omega, rfl, by omega, by simpa using World.ownsRow_nil _ _ _ _, Below.refl _ _⟩
  case round =>
    obtain ⟨k, j, hkg, hkr, rfl, hj, ho, hb⟩ := hrel
    have HO := hide ho
    have HB := hide hb
    have hsz := hb.size
    clear ho hb
    by_cases hlt : k < s
    · obtain ⟨i, rfl⟩ : ∃ i : Nat, j = i := ⟨s - 1 - k, by omega⟩
      have hik : s - 1 - k = i := by omega
      have hx := hget.out k hlt
      rw [hik] at hx
      have hnx := take_next hx
      have HNX := hide hnx
      have htl : Hid ((F.take k).length = k) := by
        show (F.take k).length = k
        have := hfl.out
        simp; omega
      have hsm := shr_fix n i
      have hxm : n / 256 ^ i % 256 < 256 := Nat.mod_lt _ (by omega)
      have hi9 : i ≤ 7 := by omega
      have HJ := hide hj
      have HIK := hide hik
      clear hx hnx hj hik
      generalize n / 256 ^ i % 256 = d at *
      go_wp2_with (at_builtin; refine w_append_bytes rfl (.tmp 19) (.tmp 26) rfl w.heap.size _ (F.take k) rfl k htl.out (HO.out.alloc _) (some ⟨wr.heap.size, 0, none⟩) 1 1 [(d : Int)] rfl rfl ?h1 ?h2 ?h3 ?h4 ?_)
      case h1 => exact w_bytes_one wr _ _ (by omega) (by omega)
      case h2 => intro h; cases h
      case h3 => omega
      case h4 => simp; omega
      intro v4 w4 zs4 k4 hz4 hk4 hown4 hg4 _
      have HB4 := hide ((HB.out.alloc HB.out.size _).grown hg4 (by simp; omega) (by intro k hk; exact (HO.out.lt k hk).1))
      have HO4 := hide hown4
      clear hown4 hg4 HO HB
      go_wp2
      go_roundg (s - k)
      case measure => omega
      case rel =>
        refine ⟨k + 1, (i : Int) - 1, by omega, by omega, by go_num, by have := HJ.out; omega, ?_, HB4.out⟩
        have e1 : zs4 = F.take (k + 1) := by rw [hz4.out, HNX.out]
        have e2 : k4 = k + 1 := by rw [← hk4.out, hz4.out, List.length_append, htl.out]; rfl
        rw [← e1, ← e2]
        exact HO4.out
    · have ek : k = s := by omega
      subst ek
      have hjn : j < 0 := by omega
      go_wp2
      go_ret
      refine ⟨_, rfl, ?_, HB.out⟩
      have e1 : F.take k = F := List.take_of_length_le (by rw [hfl.out]; exact Nat.le_refl _)
      have := HO.out
      rw [e1] at this
      exact this

def sFix (s : Int) (bs : List Int) (x : Int) : Nat × List Int × Int :=
  if x = 0 then if 1 ≤ s ∧ s ≤ 8 ∧ s ≤ bs.length then (valF (bs.take s.toNat), bs.drop s.toNat, 0) else (0, bs, 4)
  else (0, bs, x)

theorem Rd.seterr {w : World} {b : Nat} {bs : List Int} {x : Int} (h : Rd A w b bs x) (y : Int) :
    Rd A (w.setCell ⟨b, 1, none⟩ (.int .i64 y)) b bs y ∧ w.grownBy (w.setCell ⟨b, 1, none⟩ (.int .i64 y)) (some b) := by
  obtain ⟨p, cap, h0, h1, f0, f1, hlc, hm, hs, hb, hne⟩ := h
  have g : w.grownBy (w.setCell ⟨b, 1, none⟩ (.int .i64 y)) (some b) := ⟨rfl, rfl, rfl, by simp, fun k _ hk => heap_setCell_other w ⟨b, 1, none⟩ k _ (fun e => hk (by simp [e]))⟩
  refine ⟨⟨p, cap, ?_, World.cell?_setCell_same _ _ _ h1, by rw [World.frozen?_setCell]; exact f0, by rw [World.frozen?_setCell]; exact f1, hlc, hm, hs, bytes_kept hb g (fun a ha e => (hne a ha).2 (by simpa using e)), hne⟩, g⟩
  rw [World.cell?_setCell_other _ _ _ _ (by simp)]
  exact h0


theorem foldl_fixF (s n : Nat) : ∀ a, (fixF s n).foldl (fun a c => a * 256 + c.toNat) a = a * 256 ^ s + n % 256 ^ s := by
  induction s with
  | zero => intro a; simp [fixF, Nat.mod_one]
  | succ s ih =>
    intro a
    rw [fixF, List.foldl_cons, ih, Nat.mod_pow_succ, Nat.pow_succ]
    simp only [Int.toNat_natCast]
    rw [Nat.add_mul, Nat.mul_assoc, Nat.mul_comm 256 (256 ^ s), Nat.mul_comm (n / 256 ^ s % 256)]
    omega

theorem valF_fixF (s n : Nat) : valF ((fixF s n).take s) = n % 256 ^ s := by
  rw [List.take_of_length_le (by rw [fixF_length]; exact Nat.le_refl _), valF, foldl_fixF]
  omega

theorem bytesIn_of {w : World} {p : Option Addr} {c : Nat} {b : List Nat} (h : Piece w p c b) : BytesIn w p (b.map Int.ofNat) := by
  refine ⟨fun x hx => ?_, ?_⟩
  · obtain ⟨y, hy, rfl⟩ := List.mem_map.1 hx
    have := h.2.2.1 y hy
    exact ⟨Int.natCast_nonneg _, Int.ofNat_lt.2 this⟩
  · rcases h.1 with h0 | ⟨g, o, hp, hc⟩
    · exact Or.inl (by rw [h0]; rfl)
    · refine Or.inr ⟨g, o, hp, fun i hi => ?_⟩
      have hi' : i < b.length := by simpa using hi
      rw [hc i hi']
      simp [List.getD, hi']

end Go.Proofs.YtbmjlofehbbkbaaDoor

/- A key of a member: what lies in memory. -/
namespace Go.Proofs.YtbmjlofehbbkbaaDoor
open Go.RowKit

/-- the cells of a key -/
def kCells (code mark : List Nat) : List Value := u8s code ++ u8s mark

def zeroK : List Value := kCells (List.replicate 16 0) (List.replicate 32 0)

theorem infoK : (Tryd.prog.info? 25).map (·.size) = some 48 := by kernel_rfl

theorem builtK0 : Tryd.prog.built 25 [] = some zeroK.toArray := by kernel_rfl

theorem as_range (D : List Nat) (h : D.length = 32) : D = (List.range 32).map fun i => D.getD i 0 := by
  apply List.ext_getElem
  · simp [h]
  · intro i h1 h2
    simp [List.getD, h1]

theorem zeroK_lit : zeroK.toArray = #[Value.int .u8 0, Value.int .u8 0, Value.int .u8 0, Value.int .u8 0, Value.int .u8 0, Value.int .u8 0, Value.int .u8 0, Value.int .u8 0, Value.int .u8 0, Value.int .u8 0, Value.int .u8 0, Value.int .u8 0, Value.int .u8 0, Value.int .u8 0, Value.int .u8 0, Value.int .u8 0, Value.int .u8 0, Value.int .u8 0, Value.int .u8 0, Value.int .u8 0, Value.int .u8 0, Value.int .u8 0, Value.int .u8 0, Value.int .u8 0, Value.int .u8 0, Value.int .u8 0, Value.int .u8 0, Value.int .u8 0, Value.int .u8 0, Value.int .u8 0, Value.int .u8 0, Value.int .u8 0, Value.int .u8 0, Value.int .u8 0, Value.int .u8 0, Value.int .u8 0, Value.int .u8 0, Value.int .u8 0, Value.int .u8 0, Value.int .u8 0, Value.int .u8 0, Value.int .u8 0, Value.int .u8 0, Value.int .u8 0, Value.int .u8 0, Value.int .u8 0, Value.int .u8 0, Value.int .u8 0] := rfl

theorem kCells_length {a b : List Nat} (h1 : a.length = 16) (h2 : b.length = 32) : (kCells a b).toArray.size = 48 := by simp [kCells, u8s, h1, h2]

theorem one_kCells (a b : List Nat) : (kCells a b).toArray.all (·.oneCell') = true := by
  apply all_oneCell_toArray
  intro v hv
  simp only [kCells, List.mem_append] at hv
  rcases hv with hv | hv
  · exact one_mem _ v hv
  · exact one_mem _ v hv

theorem run_all16 (w : World) (g : Nat) : (Instr.sliceAt 22 (.pointer (some ⟨g, 0, none⟩)) none none none).run Tryd.prog w = .ok (.slice (some ⟨g, 0, none⟩) 16 16) w := by
  have hl : Tryd.prog.arrayLen 22 = 16 := by simp [Program.arrayLen, Tryd.underlying22]
  have he : Tryd.prog.elem 22 = 5 := by simp [Program.elem, Tryd.underlying22]
  have ht : Tryd.prog.underlying 22 = some (.array (Tryd.prog.arrayLen 22) (Tryd.prog.elem 22)) := by rw [hl, he]; exact Tryd.underlying22
  rw [run_sliceAt_array_all w 22 ⟨g, 0, none⟩ ht, he, size5, hl]
  simp [Result.andThen, slicedAt, Addr.add_mid]

end Go.Proofs.YtbmjlofehbbkbaaDoor
