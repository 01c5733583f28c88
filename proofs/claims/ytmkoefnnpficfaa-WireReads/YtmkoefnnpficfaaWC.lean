/-
  Walks: wire.Fixed: a fixed number's form in new memory; wire.Open: a reader over a copy; a reader's step 'cut'.
-/
import Derived.Test.YtmkoefnnpficfaaWB
namespace Go.Proofs.Ytmkoefnnpficfaa
open Go.RowKit

/-- a fixed number's form -/
def fixF : Nat → Nat → List Int
  | 0, _ => []
  | s + 1, n => ((n / 256 ^ s % 256 : Nat) : Int) :: fixF s n

theorem fixF_length (s n : Nat) : (fixF s n).length = s := by induction s with
  | zero => rfl
  | succ s ih => simp [fixF, ih]

theorem fixF_bytes (s n : Nat) : ∀ x ∈ fixF s n, 0 ≤ x ∧ x < 256 := by
  induction s with
  | zero => intro x hx; simp [fixF] at hx
  | succ s ih =>
    intro x hx
    rcases List.mem_cons.1 hx with h | h
    · subst h
      have := Nat.mod_lt (n / 256 ^ s) (show 256 > 0 by omega)
      omega
    · exact ih x h

theorem fix_step (s i n : Nat) (hi : i < s) : ((List.replicate (s - i) (0 : Int) ++ fixF i n).set (s - 1 - i) ((n / 256 ^ i % 256 : Nat) : Int)) = List.replicate (s - (i + 1)) 0 ++ fixF (i + 1) n := by
  obtain ⟨k, rfl⟩ : ∃ k, s = i + 1 + k := ⟨s - (i + 1), by omega⟩
  rw [show i + 1 + k - i = k + 1 by omega, show i + 1 + k - 1 - i = k by omega, show i + 1 + k - (i + 1) = k by omega, fixF, List.replicate_succ', List.append_assoc, List.set_append, if_neg (by simp)]
  simp

theorem shr_fix (n i : Nat) : ((n : Int) / 2 ^ (8 * i) % 256) = ((n / 256 ^ i % 256 : Nat) : Int) := by
  rw [show (256 : Nat) ^ i = 2 ^ (8 * i) by rw [Nat.pow_mul]]
  simp

set_option maxHeartbeats 1000000 in
set_option maxRecDepth 100000 in
theorem fixed_in (n s : Nat) (_hn : n < 18446744073709551616) (h1 : 1 ≤ s) (h8 : s ≤ 8) (w : World) :
    Calls Try.prog 11 #[.int .u64 n, .int .i64 s] w fun e w' => ∃ v, e = .returned v ∧ w'.ownsRow w.heap.size 5 1 v s ((fixF s n).map (Value.int .u8)) ∧ Below w.heap.size w w' := by
  obtain ⟨i0, hi, hz0, hz1, hz2⟩ := info_parts info5
  have hok : decide ((1 : Int) ≤ (s : Int) ∧ (s : Int) ≤ 8) = true := by simp; omega
  go_enter Try.func11, Try.ntmps11
  go_wp2_with fail
  refine (isFixed_any _ _).mono ?_
  rintro e w1 ⟨rfl, hw1⟩
  subst hw1
  rw [hok]
  go_wp2_with (at_make; refine wpList_make_full _ rfl _ _ 23 rfl w1.heap.size 5 i0 (.int .u8 0) 1 Try.underlying23 hi hz0 hz1 .i64 .i64 _ _ s rfl rfl rfl rfl ?m1 ?m2 ?m3 ?_)
  case m1 => rw [hz2]; omega
  case m2 => unfold maxLen; omega
  case m3 => exact Nat.le_refl _
  intro w2 hown hgrow
  have hown1 : w2.ownsRow w1.heap.size 5 1 (.slice (some ⟨w1.heap.size, 0, none⟩) s s) s ((List.replicate s (0 : Int)).map (Value.int .u8)) := by
    have e : (madeCells #[Value.int .u8 0] s).toList = (List.replicate s (0 : Int)).map (Value.int .u8) := by
      rw [toList_madeCells_one]; simp
    rw [← e]; exact hown
  have HO : Hid (w2.ownsRow w1.heap.size 5 1 (.slice (some ⟨w1.heap.size, 0, none⟩) s s) s ((List.replicate s (0 : Int)).map (Value.int .u8))) := hown1
  have hb : Below w1.heap.size w1 w2 := grown_below hgrow (Nat.le_refl _) (by intro k hk; cases hk)
  have hsz : w1.heap.size < w2.heap.size := by
    obtain ⟨g, cap, hv, _, hg, _⟩ := own_shape hown1 (by omega)
    cases hv; exact hg
  clear hown hgrow hown1
  go_wp2
  go_loopg [6, 13] 8 (fun k _ s13 wr => ∃ (i : Nat), s13 = .int .i64 i ∧ i ≤ s ∧ s - i ≤ k ∧
    wr.ownsRow w1.heap.size 5 1 (.slice (some ⟨w1.heap.size, 0, none⟩) s s) s ((List.replicate (s - i) (0 : Int) ++ fixF i n).map (Value.int .u8)) ∧ Below w1.heap.size w1 wr)
  case atStart => exact ⟨0, rfl, by omega, by omega, by simpa [fixF] using HO.out, hb⟩
  case round =>
    obtain ⟨i, rfl, his, hk, ho, hbr⟩ := hrel
    by_cases hlt : i < s
    · have fj := ho.frozenAt (s - 1 - i)
      have cj := ho.cellAt (s - 1 - i) (by omega)
      have hcj : ∃ x, wr.cell? ⟨w1.heap.size, s - 1 - i, none⟩ = some (.int .u8 x) := by
        refine ⟨_, cj.trans (map_at_u8 ?_)⟩
        simp [fixF_length]; omega
      obtain ⟨x, hx⟩ := hcj
      have HO2 : Hid (wr.ownsRow w1.heap.size 5 1 (.slice (some ⟨w1.heap.size, 0, none⟩) s s) s ((List.replicate (s - i) (0 : Int) ++ fixF i n).map (Value.int .u8))) := ho
      clear ho cj HO
      have ej : ((s : Int) - 1 - (i : Int)).toNat = s - 1 - i := by omega
      go_wp2
      go_roundg (s - (i + 1))
      case measure => omega
      case rel =>
        rw [shr_fix n i]
        refine ⟨i + 1, by go_num, by omega, by omega, ?_, hbr.setCell (Nat.le_refl _) _⟩
        have h2 := (HO2.out.stored (s - 1 - i) (.int .u8 ((n / 256 ^ i % 256 : Nat) : Int))).1
        rw [map_set_u8, fix_step s i n hlt] at h2
        exact h2
    · go_wp2
      go_ret
      have e : i = s := by omega
      subst e
      exact ⟨_, rfl, by simpa using ho, hbr⟩

set_option maxHeartbeats 400000 in
theorem fixed_out (n : Nat) (s : Int) (h : ¬ (1 ≤ s ∧ s ≤ 8)) (w : World) :
    Calls Try.prog 11 #[.int .u64 n, .int .i64 s] w fun e w' => e = .returned (.slice none 0 0) ∧ w' = w := by
  have hok : decide (1 ≤ s ∧ s ≤ 8) = false := by simpa using h
  go_enter Try.func11, Try.ntmps11
  go_wp2_with fail
  refine (isFixed_any _ _).mono ?_
  rintro e w1 ⟨rfl, hw1⟩
  subst hw1
  rw [hok]
  go_wp2
  go_ret
  exact ⟨rfl, rfl⟩

/-- a reader at block b: what is left, its error -/
def Rd (A : Nat → Prop) (w : World) (b : Nat) (bs : List Int) (x : Int) : Prop :=
  ∃ p cap, w.cell? ⟨b, 0, none⟩ = some (.slice p bs.length cap) ∧ w.cell? ⟨b, 1, none⟩ = some (.int .i64 x) ∧ w.frozen? ⟨b, 0, none⟩ = false ∧ w.frozen? ⟨b, 1, none⟩ = false ∧
    bs.length ≤ cap ∧ cap ≤ maxLen ∧ bs.length ≤ 140737488355328 ∧ BytesIn w p bs ∧ (∀ a, p = some a → A a.block ∧ a.block ≠ b)

variable {A : Nat → Prop}

theorem own_bytes {w : World} {B : Nat} {e : TypeId} {v : Value} {xs : List Int} (h : w.ownsRow B e 1 v xs.length (xs.map (Value.int .u8))) (hb : ∀ x ∈ xs, 0 ≤ x ∧ x < 256) :
    ∃ p cap, v = .slice p xs.length cap ∧ xs.length ≤ cap ∧ cap ≤ maxLen ∧ BytesIn w p xs ∧ ∀ a, p = some a → B ≤ a.block ∧ a.block < w.heap.size := by
  rcases h.2 with ⟨rfl, h0⟩ | ⟨g, cap, cur, hv, hB, hg, hnc, hcm, _, _⟩
  · have : xs = [] := List.eq_nil_of_length_eq_zero h0
    subst this
    exact ⟨none, 0, rfl, Nat.le_refl _, Nat.zero_le _, ⟨hb, Or.inl rfl⟩, fun a h => by cases h⟩
  · have hlt : g < w.heap.size := by
      by_cases hlt : g < w.heap.size
      · exact hlt
      · rw [Array.getElem?_eq_none (by omega)] at hg; cases hg
    subst hv
    refine ⟨some ⟨g, 0, none⟩, cap, rfl, hnc, hcm, ⟨hb, Or.inr ⟨g, 0, rfl, fun i hi => ?_⟩⟩, fun a h => by cases h; exact ⟨hB, hlt⟩⟩
    rw [Nat.zero_add, h.cellAt i (by omega), map_at_u8 hi]

/-- a cell that holds something lies still in a world that has grown, out of the one row -/
theorem bytes_kept {w w' : World} {r : Option Nat} {p : Option Addr} {xs : List Int} (h : BytesIn w p xs) (hg : w.grownBy w' r) (hne : ∀ a, p = some a → some a.block ≠ r) : BytesIn w' p xs := by
  refine ⟨h.1, ?_⟩
  rcases h.2 with h0 | ⟨b, o, rfl, hc⟩
  · exact Or.inl h0
  · exact Or.inr ⟨b, o, rfl, fun i hi => hg.cell (hc i hi) (by have := hne _ rfl; exact this)⟩

theorem below_grown {w w' : World} (h : Below w.heap.size w w') (r : Option Nat) : w.grownBy w' r := ⟨h.os, h.tape, h.output, h.size, fun k hk _ => h.block k hk⟩

theorem Rd.lt {w : World} {b : Nat} {bs : List Int} {x : Int} (h : Rd A w b bs x) : b < w.heap.size := by
  obtain ⟨p, cap, h0, _⟩ := h
  exact block_lt_of_cell h0

/-- a reader is as it was where its block and its bytes' block were not written -/
theorem Rd.kept {w w' : World} {b : Nat} {bs : List Int} {x : Int} (h : Rd A w b bs x) (hg : Below w.heap.size w w') : Rd A w' b bs x := by
  have hlt := h.lt
  obtain ⟨p, cap, h0, h1, f0, f1, hl, hm, hs, hb, hne⟩ := h
  exact ⟨p, cap, (hg.cell hlt).trans h0, (hg.cell hlt).trans h1, (hg.frozen hlt).trans f0, (hg.frozen hlt).trans f1, hl, hm, hs, bytes_kept hb (below_grown hg none) (fun a _ => by simp), hne⟩

theorem rd_new {w : World} {q : Option Addr} {xs : List Int} {cap : Nat} {t : TypeId} (hl : xs.length ≤ cap) (hm : cap ≤ maxLen) (hbig : xs.length ≤ 140737488355328) (hb : BytesIn w q xs) (hq : ∀ a, q = some a → a.block < w.heap.size) (hA : ∀ a, q = some a → A a.block) :
    Rd A (w.alloc (Obj.cells #[.slice q xs.length cap, .int .i64 0] t)) w.heap.size xs 0 := by
  refine ⟨q, cap, ?_, ?_, ?_, ?_, hl, hm, hbig, ?_, fun a ha => ⟨hA a ha, by have := hq a ha; omega⟩⟩
  · simp
  · simp
  · simp
  · simp
  · exact bytes_kept hb (World.grownBy_alloc w _ none) (fun a _ => by simp)

set_option maxHeartbeats 400000 in
set_option maxRecDepth 100000 in
theorem open_any (p : Option Addr) (c : Nat) (xs : List Int) (w : World) (hbig : xs.length ≤ 140737488355328) (hc : BytesIn w p xs) :
    Calls Try.prog 16 #[.slice p xs.length c] w fun e w' => ∃ b, e = .returned (.pointer (some ⟨b, 0, none⟩)) ∧ w.heap.size ≤ b ∧ Rd (fun k => w.heap.size ≤ k ∧ k < b) w' b xs 0 ∧ Below w.heap.size w w' := by
  go_enter Try.func16, Try.ntmps16
  go_wp2_with fail
  refine (clone_any p c xs w hbig hc).mono ?_
  rintro e w1 ⟨v, rfl, hown, hb⟩
  obtain ⟨q, cap, rfl, hl, hm, hby, hblk⟩ := own_bytes hown hc.1
  have HB : Hid (BytesIn w1 q xs) := hby
  have HC : Hid (BytesIn w p xs) := hc
  clear hown hc hby
  go_wp2
  go_ret
  have hs := hb.size
  refine ⟨_, rfl, hs, ?_, hb.alloc hs _⟩
  exact rd_new hl hm hbig HB.out (fun a ha => (hblk a ha).2) (fun a ha => hblk a ha)

/-- 'left[l:]' -/
def cutP (p : Option Addr) (l cap : Nat) : Option Addr := if cap = l then p else p.map (·.add l)

theorem size5 (w : World) : (Go.sizeOf 5).run Try.prog w = .ok 1 w := by
  obtain ⟨i0, hi, hz0, hz1, hz2⟩ := info_parts info5
  simp [Go.sizeOf, typeInfo, hi, hz1]

theorem run_from (w : World) (p : Option Addr) (n cap l : Nat) (h : l ≤ n) :
    (Instr.slice 23 (.slice p n cap) (some (.int .i64 (l : Int))) none none).run Try.prog w = .ok (.slice (cutP p l cap) (n - l) (cap - l)) w := by
  have ht' : Try.prog.underlying 23 = some (.slice (Try.prog.elem 23)) := by simp [Program.elem, Try.underlying23]
  have he : Try.prog.elem 23 = 5 := by simp [Program.elem, Try.underlying23]
  rw [run_slice_l w 23 _ _ _ ht' .i64 _ (by omega) (by omega), he, size5]
  simp [Result.andThen, sliced, cutP]

theorem run_upto (w : World) (p : Option Addr) (n cap l : Nat) (h : l ≤ cap) :
    (Instr.slice 23 (.slice p n cap) none (some (.int .i64 (l : Int))) none).run Try.prog w = .ok (.slice p l cap) w := by
  have ht' : Try.prog.underlying 23 = some (.slice (Try.prog.elem 23)) := by simp [Program.elem, Try.underlying23]
  have he : Try.prog.elem 23 = 5 := by simp [Program.elem, Try.underlying23]
  rw [run_slice_h w 23 _ _ _ ht' .i64 _ (by omega) (by omega), he, size5]
  cases p with
  | none => simp [Result.andThen, sliced]
  | some a =>
    have e : a.add 0 = a := by unfold Addr.add; simp
    simp [Result.andThen, sliced, e]

theorem bytes_from {w : World} {p : Option Addr} {xs : List Int} (h : BytesIn w p xs) (l cap : Nat) (hc : xs.length ≤ cap) : BytesIn w (cutP p l cap) (xs.drop l) := by
  refine ⟨fun x hx => h.1 x (List.mem_of_mem_drop hx), ?_⟩
  by_cases hl : xs.length ≤ l
  · exact Or.inl (List.drop_eq_nil_of_le hl)
  · rcases h.2 with h0 | ⟨b, o, rfl, hcl⟩
    · subst h0; simp at hl
    · refine Or.inr ⟨b, o + l, ?_, fun i hi => ?_⟩
      · simp [cutP, show cap ≠ l by omega, addr_add]
      · have hi' : l + i < xs.length := by simp at hi; omega
        have := hcl (l + i) hi'
        rw [Nat.add_assoc, this]
        simp [List.getD]

theorem bytes_upto {w : World} {p : Option Addr} {xs : List Int} (h : BytesIn w p xs) (l : Nat) : BytesIn w p (xs.take l) := by
  refine ⟨fun x hx => h.1 x (List.mem_of_mem_take hx), ?_⟩
  rcases h.2 with h0 | ⟨b, o, rfl, hcl⟩
  · subst h0; simp
  · refine Or.inr ⟨b, o, rfl, fun i hi => ?_⟩
    have hi' : i < xs.length := by simp at hi; omega
    have hl : i < l := by simp at hi; omega
    rw [hcl i hi']
    simp [List.getD, hl]

theorem cutP_block {p : Option Addr} {l cap : Nat} {a : Addr} (h : cutP p l cap = some a) : ∃ a0, p = some a0 ∧ a.block = a0.block := by
  cases p with
  | none => simp [cutP] at h
  | some a0 =>
    refine ⟨a0, rfl, ?_⟩
    unfold cutP at h
    split at h
    · cases h; rfl
    · simp at h; subst h; unfold Addr.add; split <;> rfl

/-- the reader behind a store of what is left -/
theorem Rd.stored {w : World} {b : Nat} {bs : List Int} {x : Int} (h : Rd A w b bs x) (l : Nat) (hl : l ≤ bs.length) :
    ∀ p cap, w.cell? ⟨b, 0, none⟩ = some (.slice p bs.length cap) → Rd A (w.setCell ⟨b, 0, none⟩ (.slice (cutP p l cap) (bs.length - l) (cap - l))) b (bs.drop l) x ∧ w.grownBy (w.setCell ⟨b, 0, none⟩ (.slice (cutP p l cap) (bs.length - l) (cap - l))) (some b) := by
  intro p cap hp
  obtain ⟨p', cap', h0, h1, f0, f1, hlc, hm, hs, hb, hne⟩ := h
  rw [h0] at hp
  cases hp
  have hg : w.grownBy (w.setCell ⟨b, 0, none⟩ (.slice (cutP p l cap) (bs.length - l) (cap - l))) (some b) :=
    ⟨rfl, rfl, rfl, by simp, fun k _ hk => heap_setCell_other w ⟨b, 0, none⟩ k _ (fun e => hk (by simp [e]))⟩
  refine ⟨⟨cutP p l cap, cap - l, ?_, ?_, ?_, ?_, by simp; omega, by omega, by simp; omega, ?_, ?_⟩, hg⟩
  · rw [World.cell?_setCell_same _ _ _ h0]; simp
  · rw [World.cell?_setCell_other _ _ _ _ (by simp)]; exact h1
  · rw [World.frozen?_setCell]; exact f0
  · rw [World.frozen?_setCell]; exact f1
  · refine bytes_kept (bytes_from hb l cap hlc) hg (fun a ha => ?_)
    obtain ⟨a0, h0', e⟩ := cutP_block ha
    rw [e]
    intro hc
    exact (hne a0 h0').2 (by simpa using hc)
  · intro a ha
    obtain ⟨a0, h0', e⟩ := cutP_block ha
    rw [e]
    exact hne a0 h0'


set_option maxHeartbeats 400000 in
set_option maxRecDepth 100000 in
theorem cut_in (b : Nat) (bs : List Int) (x : Int) (l : Nat) (w : World) (hr : Rd A w b bs x) (hl : l ≤ bs.length) :
    Calls Try.prog 38 #[.pointer (some ⟨b, 0, none⟩), .int .i64 l] w fun e w' => ∃ v, e = .returned (.tuple #[v, .int .i64 0]) ∧
      w'.ownsRow w.heap.size 5 1 v l ((bs.take l).map (Value.int .u8)) ∧ Rd A w' b (bs.drop l) x ∧ w.grownBy w' (some b) := by
  have HR : Hid (Rd A w b bs x) := hr
  have hlt := hr.lt
  obtain ⟨p, cap, h0, h1, f0, f1, hlc, hm, hs, hb, hne⟩ := hr
  have HB : Hid (BytesIn w p bs) := hb
  have hbt : (bs.take l).length = l := by simp; omega
  have HT : Hid ((bs.take l).length = l) := hbt
  generalize hn : bs.length = n at *
  have HN : Hid (bs.length = n) := hn
  clear hn hb hne hbt h1 f1
  have hup := fun w => run_upto w p n cap l (by omega)
  have hfr := fun w => run_from w p n cap l (by omega)
  have hno : decide ((n : Int) < (l : Int)) = false := by simp; omega
  unfold maxLen at hm
  have hcl := clone_any p cap (bs.take l) w (by rw [HT.out]; omega) (bytes_upto HB.out l)
  rw [HT.out] at hcl
  have HCL : Hid (Calls Try.prog 31 #[.slice p l cap] w fun e w' => ∃ v', e = .returned v' ∧ w'.ownsRow w.heap.size 5 1 v' l ((bs.take l).map (Value.int .u8)) ∧ Below w.heap.size w w') := hcl
  clear hcl
  go_enter Try.func38, Try.ntmps38
  go_wp2_with fail
  refine HCL.out.mono ?_
  rintro e w1 ⟨v, rfl, hown, hbl⟩
  have c0 := (hbl.cell (p := ⟨b, 0, none⟩) hlt).trans h0
  have g0 := (hbl.frozen (p := ⟨b, 0, none⟩) hlt).trans f0
  have HO : Hid (w1.ownsRow w.heap.size 5 1 v l ((bs.take l).map (Value.int .u8))) := hown
  have HBL : Hid (Below w.heap.size w w1) := hbl
  clear hown hbl h0 f0
  go_wp2
  go_ret2
  have hR1 := HR.out.kept HBL.out
  have hst := hR1.stored l (by rw [HN.out]; exact hl) p cap (by rw [HN.out]; exact c0)
  rw [HN.out] at hst
  refine ⟨v, rfl, ?_, hst.1, grown_trans (below_grown HBL.out _) hst.2⟩
  refine HO.out.kept hst.2 ?_
  by_cases hv : v.ownBlock = none
  · exact Or.inl hv
  · right
    intro e
    have := (HO.out.lt b e).1
    omega

set_option maxHeartbeats 400000 in
set_option maxRecDepth 100000 in
theorem cut_out (b : Nat) (bs : List Int) (x : Int) (l : Int) (w : World) (hr : Rd A w b bs x) (hl : (bs.length : Int) < l) :
    Calls Try.prog 38 #[.pointer (some ⟨b, 0, none⟩), .int .i64 l] w fun e w' => e = .returned (.tuple #[.slice none 0 0, .int .i64 4]) ∧ w' = w := by
  obtain ⟨p, cap, h0, h1, f0, f1, hlc, hm, hs, hb, hne⟩ := hr
  clear hb hne h1 f1
  generalize hn : bs.length = n at *
  clear hn
  go_enter Try.func38, Try.ntmps38
  go_wp2
  go_ret2
  exact ⟨rfl, rfl⟩

end Go.Proofs.Ytmkoefnnpficfaa
