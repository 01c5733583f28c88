/-
  Walks: a code point's form.
-/
import Derived.Test.YtijjifdgmffenaaDoorUB
import Derived.Test.YtijjifdgmffenaaDoorBR
import Derived.Test.YtijjifdgmffenaaDoorBB
import Derived.Test.YtijjifdgmffenaaDoorBE
import Derived.Laws.BitsAllLaws
namespace Go.Proofs.YtijjifdgmffenaaDoor
open Go.RowKit

/-- the program's table, as its text lays it -/
def grT : List Int := [-1, 127, 2047, 65535, 1114111]
def LaidU (w : World) : Prop := w.rangeAt 0 0 (i32s grT)
theorem LaidU.at {w : World} (h : LaidU w) {k : Nat} (hk : k < 5) : w.cell? ⟨0, k, none⟩ = some (.int .i32 (grT.getD k 0)) := by
  have := h k _ (i32s_at (l := grT) (by exact hk))
  simpa using this
theorem LaidU.size {w : World} (h : LaidU w) : 1 ≤ w.heap.size := by
  have := block_lt_of_cell (h.at (k := 0) (by omega))
  exact this
theorem LaidU.keptB {B : Nat} {w w' : World} (h : LaidU w) (hB : 1 ≤ B) (hb : Below B w w') : LaidU w' :=
  fun j v hv => (hb.cell (p := ⟨0, 0 + j, none⟩) (show 0 < B by omega)).trans (h j v hv)
theorem LaidU.kept {w w' : World} (h : LaidU w) (hb : Below w.heap.size w w') : LaidU w' := h.keptB h.size hb
theorem LaidU.grown {w w' : World} {g : Nat} (h : LaidU w) (hg : w.grownBy w' (some g)) (h0 : 0 < g) : LaidU w' :=
  fun j v hv => by
    have h1 := h j v hv
    have hb := hg.block 0 (by have := h.size; omega) (by intro e; cases e; omega)
    unfold World.cell? at h1 ⊢
    rw [hb]
    exact h1

theorem wrap_i32 (n : Int) (h0 : 0 ≤ n) (h1 : n < 2147483648) : IntKind.i32.wrap n = n := by
  simp [IntKind.wrap, IntKind.bits, IntKind.signed]
  omega
theorem ofInt_i32 (a : Nat) (ha : a < 2147483648) : (BitVec.ofInt 32 (a : Int)).toNat = a := by
  rw [BitVec.ofInt_natCast, BitVec.toNat_ofNat]; exact Nat.mod_eq_of_lt (by omega)
theorem i32_and (a b : Nat) (ha : a < 2147483648) (hb : b < 2147483648) : bits .and .i32 (a : Int) (b : Int) = ((a &&& b : Nat) : Int) := by
  have hx : a &&& b < 2 ^ 31 := Nat.and_lt_two_pow _ (by omega)
  show IntKind.i32.wrap ((BitVec.ofInt 32 (a : Int) &&& BitVec.ofInt 32 (b : Int)).toNat : Int) = _
  rw [BitVec.toNat_and, ofInt_i32 a ha, ofInt_i32 b hb, wrap_i32 _ (by omega) (by omega)]
theorem i32_or (a b : Nat) (ha : a < 2147483648) (hb : b < 2147483648) : bits .or .i32 (a : Int) (b : Int) = ((a ||| b : Nat) : Int) := by
  have hx : a ||| b < 2 ^ 31 := Nat.or_lt_two_pow (by omega) (by omega)
  show IntKind.i32.wrap ((BitVec.ofInt 32 (a : Int) ||| BitVec.ofInt 32 (b : Int)).toNat : Int) = _
  rw [BitVec.toNat_or, ofInt_i32 a ha, ofInt_i32 b hb, wrap_i32 _ (by omega) (by omega)]

set_option maxHeartbeats 2000000 in
theorem isPoint_any (c : Int) (w : World) (hL : LaidU w) : Calls Tryd.prog 22 #[.int .i32 c] w fun e w' => e = .returned (.bool (decide (IsPt c))) ∧ w' = w := by
  have c4 : w.cell? ⟨0, 4, none⟩ = some (.int .i32 1114111) := hL.at (k := 4) (by omega)
  clear hL
  by_cases h0 : 0 ≤ c
  · have d0 : decide (0 ≤ c) = true := decide_eq_true h0
    by_cases h1 : c ≤ 1114111
    · have d1 : decide (c ≤ 1114111) = true := decide_eq_true h1
      by_cases h2 : c < 55296
      · have d2 : decide (c < 55296) = true := decide_eq_true h2
        rw [decide_eq_true (show IsPt c from ⟨h0, h1, Or.inl h2⟩)]
        clear h0 h1 h2
        go_enter Tryd.func22, Tryd.ntmps22
        go_wp2
        go_ret
        exact ⟨rfl, rfl⟩
      · have d2 : decide (c < 55296) = false := decide_eq_false h2
        have hd : decide (IsPt c) = decide (57343 < c) := by
          unfold IsPt
          simp only [h0, h1, h2, true_and, false_or]
        rw [hd]
        clear h0 h1 h2 hd
        go_enter Tryd.func22, Tryd.ntmps22
        go_wp2
        go_ret
        exact ⟨rfl, rfl⟩
    · have d1 : decide (c ≤ 1114111) = false := decide_eq_false h1
      rw [decide_eq_false (show ¬ IsPt c from fun h => h1 h.2.1)]
      clear h0 h1
      go_enter Tryd.func22, Tryd.ntmps22
      go_wp2
      go_ret
      exact ⟨rfl, rfl⟩
  · have d0 : decide (0 ≤ c) = false := decide_eq_false h0
    rw [decide_eq_false (show ¬ IsPt c from fun h => h0 h.1)]
    clear h0
    go_enter Tryd.func22, Tryd.ntmps22
    go_wp2
    go_ret
    exact ⟨rfl, rfl⟩

theorem part_nums (x : Nat) (hx : x < 2147483648) : bits .and .i32 (x : Int) 63 = ((x % 64 : Nat) : Int) := by
  have h := i32_and x 63 hx (by omega)
  rw [show (63 : Int) = ((63 : Nat) : Int) from rfl, h, nat_mask6]
theorem or_128 (r : Nat) (h : r < 64) : bits .or .u8 128 (r : Int) = ((128 + r : Nat) : Int) := by
  have h1 := u8_or_nat 128 r (by omega) (by omega)
  rw [show (128 : Int) = ((128 : Nat) : Int) from rfl, h1, nat_join 7 128 r (by decide) (by omega)]
theorem or_192 (r : Nat) (h : r < 64) : bits .or .u8 192 (r : Int) = ((192 + r : Nat) : Int) := by
  have h1 := u8_or_nat 192 r (by omega) (by omega)
  rw [show (192 : Int) = ((192 : Nat) : Int) from rfl, h1, nat_join 6 192 r (by decide) (by omega)]
theorem or_224 (r : Nat) (h : r < 32) : bits .or .u8 224 (r : Int) = ((224 + r : Nat) : Int) := by
  have h1 := u8_or_nat 224 r (by omega) (by omega)
  rw [show (224 : Int) = ((224 : Nat) : Int) from rfl, h1, nat_join 5 224 r (by decide) (by omega)]
theorem or_240 (r : Nat) (h : r < 16) : bits .or .u8 240 (r : Int) = ((240 + r : Nat) : Int) := by
  have h1 := u8_or_nat 240 r (by omega) (by omega)
  rw [show (240 : Int) = ((240 : Nat) : Int) from rfl, h1, nat_join 4 240 r (by decide) (by omega)]

set_option maxHeartbeats 2000000 in
theorem part_any (c k : Nat) (x : Nat) (w : World) (hc : c < 1114112) (hk : k = 0 ∧ x = c ∨ k = 1 ∧ x = c / 64 ∨ k = 2 ∧ x = c / 4096) : Calls Tryd.prog 23 #[.int .i32 (c : Int), .int .i64 (k : Int)] w fun e w' => e = .returned (.int .u8 ((128 + x % 64 : Nat) : Int)) ∧ w' = w := by
  obtain ⟨r, hr⟩ : ∃ r, r = x % 64 := ⟨_, rfl⟩
  obtain ⟨s, hs⟩ : ∃ s, s = 128 + r := ⟨_, rfl⟩
  have hx : x < 1114112 := by omega
  have h1 : bits .and .i32 (x : Int) 63 = (r : Int) := by rw [hr]; exact part_nums x (by omega)
  have h2 : (r : Int) % 256 = (r : Int) := by omega
  have h3 : bits .or .u8 128 (r : Int) = (s : Int) := by rw [hs]; exact or_128 r (by omega)
  rw [← hr, ← hs]
  rcases hk with ⟨rfl, rfl⟩ | ⟨rfl, hx1⟩ | ⟨rfl, hx1⟩
  · clear hr hs hx hc
    go_enter Tryd.func23, Tryd.ntmps23
    go_wp2
    go_ret
    exact ⟨rfl, rfl⟩
  · have h4 : (c : Int) / 64 = (x : Int) := by omega
    clear hr hs hx hc hx1
    go_enter Tryd.func23, Tryd.ntmps23
    go_wp2
    go_ret
    exact ⟨rfl, rfl⟩
  · have h4 : (c : Int) / 4096 = (x : Int) := by omega
    clear hr hs hx hc hx1
    go_enter Tryd.func23, Tryd.ntmps23
    go_wp2
    go_ret
    exact ⟨rfl, rfl⟩

theorem lit_bytes {w : World} {g n : Nat} {l : List Nat} {t : TypeId} {f : Nat × Nat} (h : w.heap[g]? = some (.cells (u8s l).toArray t f)) (hb : BytesN l) (hn : l.length = n) (hc : n ≤ 1000) : Piece w (some ⟨g, 0, none⟩) n l :=
  ⟨Or.inr ⟨g, 0, rfl, fun i hi => by rw [Nat.zero_add, cell_of_row w g i _ t f h]; simpa using u8s_at hi⟩, (fun e => by cases e), hb, by omega, by unfold maxLen; omega⟩

/-- what a form is told as -/
def FormP (w : World) (c : Int) (e : Ending) (w' : World) : Prop := ∃ p L cap, e = .returned (.slice p L cap) ∧ (formF (ptF c)).length = L ∧ Piece w' p cap (formF (ptF c)) ∧ Below w.heap.size w w'

theorem formF_bytes {n : Nat} (h : n < 1114112) : BytesN (formF n) := by
  intro y hy
  unfold formF at hy
  split at hy
  · simp only [List.mem_cons, List.not_mem_nil, or_false] at hy; omega
  · split at hy
    · simp only [List.mem_cons, List.not_mem_nil, or_false] at hy; omega
    · split at hy
      · simp only [List.mem_cons, List.not_mem_nil, or_false] at hy; omega
      · simp only [List.mem_cons, List.not_mem_nil, or_false] at hy; omega
theorem formP_of {w : World} {c : Int} {l : List Nat} {g n : Nat} {t : TypeId} {f : Nat × Nat} (w' : World) (hf : formF (ptF c) = l) (hn : l.length = n) (hg : w'.heap[g]? = some (.cells (u8s l).toArray t f)) (hb : Below w.heap.size w w') (hn4 : n ≤ 4) : FormP w c (.returned (.slice (some ⟨g, 0, none⟩) n n)) w' := by
  subst hf
  exact ⟨_, _, _, rfl, hn, lit_bytes hg (formF_bytes (ptF_lt c)) hn (by omega), hb⟩

set_option maxHeartbeats 4000000 in
theorem form_pt (n : Nat) (w : World) (hL : LaidU w) (hn : IsPt (n : Int)) : Calls Tryd.prog 9 #[.int .i32 (n : Int)] w (FormP w (n : Int)) := by
  have c1 : w.cell? ⟨0, 1, none⟩ = some (.int .i32 127) := hL.at (k := 1) (by omega)
  have c2 : w.cell? ⟨0, 2, none⟩ = some (.int .i32 2047) := hL.at (k := 2) (by omega)
  have c3 : w.cell? ⟨0, 3, none⟩ = some (.int .i32 65535) := hL.at (k := 3) (by omega)
  have hp : n < 1114112 := by have := hn.2.1; omega
  have HI := hide (isPoint_any (n : Int) w hL)
  rw [decide_eq_true hn] at HI
  have HP := hide (fun (k x : Nat) (hk : k = 0 ∧ x = n ∨ k = 1 ∧ x = n / 64 ∨ k = 2 ∧ x = n / 4096) => part_any n k x w hp hk)
  have hid := ptF_id hn
  clear hL hn
  by_cases h1 : n ≤ 127
  · have d1 : decide ((n : Int) ≤ 127) = true := decide_eq_true (by omega)
    have e1 : (n : Int) % 256 = (n : Int) := by omega
    have HF : Hid (formF (ptF (n : Int)) = [n]) := by show _ = _; rw [hid]; unfold formF; rw [if_pos (by omega)]
    clear h1 hid hp HP
    go_enter Tryd.func9, Tryd.ntmps9
    go_wp2_with (refine HI.out.mono ?_; rintro r w1 ⟨rfl, rfl⟩)
    go_ret
    exact formP_of _ HF.out rfl (heap_alloc_new _ _) ((Below.refl _ _).alloc (Nat.le_refl _) _) (by omega)
  · have d1 : decide ((n : Int) ≤ 127) = false := decide_eq_false (by omega)
    obtain ⟨z, hz⟩ : ∃ z, z = 128 + n % 64 := ⟨_, rfl⟩
    by_cases h2 : n ≤ 2047
    · have d2 : decide ((n : Int) ≤ 2047) = true := decide_eq_true (by omega)
      obtain ⟨a, ha⟩ : ∃ a, a = n / 64 := ⟨_, rfl⟩
      obtain ⟨s, hs⟩ : ∃ s, s = 192 + a := ⟨_, rfl⟩
      have e1 : (n : Int) / 64 = (a : Int) := by omega
      have e2 : (a : Int) % 256 = (a : Int) := by omega
      have e3 : bits .or .u8 192 (a : Int) = (s : Int) := by rw [hs]; exact or_192 a (by omega)
      have HF : Hid (formF (ptF (n : Int)) = [s, z]) := by show _ = _; rw [hid]; unfold formF; rw [if_neg (by omega), if_pos (by omega), hs, ha, hz]
      have HP0 := hide (HP.out 0 n (Or.inl ⟨rfl, rfl⟩))
      rw [← hz] at HP0
      clear h1 h2 hid hp HP ha hs hz
      go_enter Tryd.func9, Tryd.ntmps9
      go_wp2_with (refine HI.out.mono ?_; rintro r w1 ⟨rfl, rfl⟩)
      refine HP0.out.mono ?_
      rintro r w1 ⟨rfl, rfl⟩
      go_wp2_with fail
      go_ret
      exact formP_of _ HF.out rfl (heap_alloc_new _ _) ((Below.refl _ _).alloc (Nat.le_refl _) _) (by omega)
    · have d2 : decide ((n : Int) ≤ 2047) = false := decide_eq_false (by omega)
      obtain ⟨y, hy⟩ : ∃ y, y = 128 + n / 64 % 64 := ⟨_, rfl⟩
      by_cases h3 : n ≤ 65535
      · have d3 : decide ((n : Int) ≤ 65535) = true := decide_eq_true (by omega)
        obtain ⟨a, ha⟩ : ∃ a, a = n / 4096 := ⟨_, rfl⟩
        obtain ⟨s, hs⟩ : ∃ s, s = 224 + a := ⟨_, rfl⟩
        have e1 : (n : Int) / 4096 = (a : Int) := by omega
        have e2 : (a : Int) % 256 = (a : Int) := by omega
        have e3 : bits .or .u8 224 (a : Int) = (s : Int) := by rw [hs]; exact or_224 a (by omega)
        have HF : Hid (formF (ptF (n : Int)) = [s, y, z]) := by show _ = _; rw [hid]; unfold formF; rw [if_neg (by omega), if_neg (by omega), if_pos (by omega), hs, ha, hy, hz]
        have HP0 := hide (HP.out 0 n (Or.inl ⟨rfl, rfl⟩))
        have HP1 := hide (HP.out 1 (n / 64) (Or.inr (Or.inl ⟨rfl, rfl⟩)))
        rw [← hz] at HP0
        rw [← hy] at HP1
        clear h1 h2 h3 hid hp HP ha hs hz hy
        go_enter Tryd.func9, Tryd.ntmps9
        go_wp2_with (refine HI.out.mono ?_; rintro r w1 ⟨rfl, rfl⟩)
        refine HP1.out.mono ?_
        rintro r w1 ⟨rfl, rfl⟩
        go_wp2_with fail
        refine HP0.out.mono ?_
        rintro r w1 ⟨rfl, rfl⟩
        go_wp2_with fail
        go_ret
        exact formP_of _ HF.out rfl (heap_alloc_new _ _) ((Below.refl _ _).alloc (Nat.le_refl _) _) (by omega)
      · have d3 : decide ((n : Int) ≤ 65535) = false := decide_eq_false (by omega)
        obtain ⟨a, ha⟩ : ∃ a, a = n / 262144 := ⟨_, rfl⟩
        obtain ⟨s, hs⟩ : ∃ s, s = 240 + a := ⟨_, rfl⟩
        obtain ⟨x, hx⟩ : ∃ x, x = 128 + n / 4096 % 64 := ⟨_, rfl⟩
        have e1 : (n : Int) / 262144 = (a : Int) := by omega
        have e2 : (a : Int) % 256 = (a : Int) := by omega
        have e3 : bits .or .u8 240 (a : Int) = (s : Int) := by rw [hs]; exact or_240 a (by omega)
        have HF : Hid (formF (ptF (n : Int)) = [s, x, y, z]) := by show _ = _; rw [hid]; unfold formF; rw [if_neg (by omega), if_neg (by omega), if_neg (by omega), hs, ha, hx, hy, hz]
        have HP0 := hide (HP.out 0 n (Or.inl ⟨rfl, rfl⟩))
        have HP1 := hide (HP.out 1 (n / 64) (Or.inr (Or.inl ⟨rfl, rfl⟩)))
        have HP2 := hide (HP.out 2 (n / 4096) (Or.inr (Or.inr ⟨rfl, rfl⟩)))
        rw [← hz] at HP0
        rw [← hy] at HP1
        rw [← hx] at HP2
        clear h1 h2 h3 hid hp HP ha hs hz hy hx
        go_enter Tryd.func9, Tryd.ntmps9
        go_wp2_with (refine HI.out.mono ?_; rintro r w1 ⟨rfl, rfl⟩)
        refine HP2.out.mono ?_
        rintro r w1 ⟨rfl, rfl⟩
        go_wp2_with fail
        refine HP1.out.mono ?_
        rintro r w1 ⟨rfl, rfl⟩
        go_wp2_with fail
        refine HP0.out.mono ?_
        rintro r w1 ⟨rfl, rfl⟩
        go_wp2_with fail
        go_ret
        exact formP_of _ HF.out rfl (heap_alloc_new _ _) ((Below.refl _ _).alloc (Nat.le_refl _) _) (by omega)

set_option maxHeartbeats 4000000 in
theorem form_bad (c : Int) (w : World) (hL : LaidU w) (hn : ¬ IsPt c) : Calls Tryd.prog 9 #[.int .i32 c] w (FormP w c) := by
  have c1 : w.cell? ⟨0, 1, none⟩ = some (.int .i32 127) := hL.at (k := 1) (by omega)
  have c2 : w.cell? ⟨0, 2, none⟩ = some (.int .i32 2047) := hL.at (k := 2) (by omega)
  have c3 : w.cell? ⟨0, 3, none⟩ = some (.int .i32 65535) := hL.at (k := 3) (by omega)
  have HI := hide (isPoint_any c w hL)
  rw [decide_eq_false hn] at HI
  have HP1 : Hid (Calls Tryd.prog 23 #[.int .i32 65533, .int .i64 1] w fun e w' => e = .returned (.int .u8 191) ∧ w' = w) := part_any 65533 1 1023 w (by omega) (Or.inr (Or.inl ⟨rfl, rfl⟩))
  have HP0 : Hid (Calls Tryd.prog 23 #[.int .i32 65533, .int .i64 0] w fun e w' => e = .returned (.int .u8 189) ∧ w' = w) := part_any 65533 0 65533 w (by omega) (Or.inl ⟨rfl, rfl⟩)
  have e3 : bits .or .u8 224 15 = 239 := or_224 15 (by omega)
  have HF : Hid (formF (ptF c) = [239, 191, 189]) := by show _ = _; rw [ptF_bad hn]; rfl
  clear hL hn
  go_enter Tryd.func9, Tryd.ntmps9
  go_wp2_with (refine HI.out.mono ?_; rintro r w1 ⟨rfl, rfl⟩)
  refine HP1.out.mono ?_
  rintro r w1 ⟨rfl, rfl⟩
  go_wp2_with fail
  refine HP0.out.mono ?_
  rintro r w1 ⟨rfl, rfl⟩
  go_wp2_with fail
  go_ret
  exact formP_of _ HF.out rfl (heap_alloc_new _ _) ((Below.refl _ _).alloc (Nat.le_refl _) _) (by omega)

/-- a code point's form -/
theorem form_any (c : Int) (w : World) (hL : LaidU w) : Calls Tryd.prog 9 #[.int .i32 c] w (FormP w c) := by
  by_cases h : IsPt c
  · obtain ⟨n, rfl⟩ := Int.eq_ofNat_of_zero_le h.1
    exact form_pt n w hL h
  · exact form_bad c w hL h

end Go.Proofs.YtijjifdgmffenaaDoor
