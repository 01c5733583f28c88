/-
  Walks: a byte taken.
-/
import Derived.Test.YtijjifdgmffenaaDoorUF
import Derived.WalkMore
import Derived.ScopeJumps
namespace Go.Proofs.YtijjifdgmffenaaDoor
open Go.RowKit

/-- numbers of the mathematics as runes -/
def ints (l : List Nat) : List Int := l.map Int.ofNat
theorem ints_append (a b : List Nat) : ints (a ++ b) = ints a ++ ints b := by simp [ints]
theorem ints_length (a : List Nat) : (ints a).length = a.length := by simp [ints]

/-- below B all stays as it was, but block g -/
structure Kp (B g : Nat) (w w' : World) : Prop where
  os : w'.os = w.os
  tape : w'.tape = w.tape
  output : w'.output = w.output
  size : w.heap.size ≤ w'.heap.size
  block : ∀ k, k < B → k ≠ g → w'.heap[k]? = w.heap[k]?
theorem Kp.refl (B g : Nat) (w : World) : Kp B g w w := ⟨rfl, rfl, rfl, Nat.le_refl _, fun _ _ _ => rfl⟩
theorem Kp.trans {B g : Nat} {a b c : World} (h : Kp B g a b) (k : Kp B g b c) : Kp B g a c :=
  ⟨k.os.trans h.os, k.tape.trans h.tape, k.output.trans h.output, Nat.le_trans h.size k.size, fun i hi hg => (k.block i hi hg).trans (h.block i hi hg)⟩
theorem Kp.below {B C g : Nat} {a b c : World} (h : Kp B g a b) (hBC : B ≤ C) (k : Below C b c) : Kp B g a c :=
  h.trans ⟨k.os, k.tape, k.output, k.size, fun i hi _ => k.block i (Nat.lt_of_lt_of_le hi hBC)⟩
theorem Kp.grown {B g : Nat} {a b c : World} {r : Option Nat} (h : Kp B g a b) (k : b.grownBy c r) (hB : B ≤ b.heap.size) (hr : ∀ k, r = some k → B ≤ k ∨ k = g) : Kp B g a c :=
  h.trans ⟨k.os, k.tape, k.output, k.size, fun i hi hg => k.block i (Nat.lt_of_lt_of_le hi hB) (fun e => by rcases hr i e.symm with h1 | h1 <;> omega)⟩
theorem Kp.row {B g : Nat} {a b : World} (h : Kp B g a b) (us : Array Value) : Kp B g a (b.setRow g us) :=
  h.trans ⟨rfl, rfl, rfl, by simp, fun k _ hk => setRow_other b g k us hk⟩
theorem Kp.rowAbove {B g k : Nat} {a b : World} (h : Kp B g a b) (hk : B ≤ k) (us : Array Value) : Kp B g a (b.setRow k us) :=
  h.trans ⟨rfl, rfl, rfl, by simp, fun i hi _ => setRow_other b k i us (by omega)⟩
theorem Kp.to_grown {g : Nat} {w w' : World} (h : Kp w.heap.size g w w') : w.grownBy w' (some g) :=
  ⟨h.os, h.tape, h.output, h.size, fun k hk hg => h.block k hk (fun e => hg (by rw [e]))⟩
theorem LaidU.kp {B g : Nat} {w w' : World} (h : LaidU w) (hB : 0 < B) (hg : 0 < g) (k : Kp B g w w') : LaidU w' :=
  fun j v hv => by
    have h1 := h j v hv
    have hb := k.block 0 hB (by omega)
    unfold World.cell? at h1 ⊢
    rw [hb]
    exact h1

/-- what lies in memory while a byte is taken -/
structure TkS (w w1 : World) (B g : Nat) (d e : Dc) (b n n1 : Nat) (v1 : Value) (xs xs1 : List Int) : Prop where
  ha : Arr w1 g 41 (dcC e)
  ho : w1.ownsRow B 21 1 v1 n1 (i32s xs1)
  hn : xs1.length = n1
  hk : Kp B g w w1
  hB : B ≤ w1.heap.size
  hok : e.ok
  hst : (e = d ∧ xs1 = xs ∧ n1 = n) ∨ (e = Dc.no ∧ d.h ≠ 0 ∧ d.may b = false ∧ xs1 = xs ++ [65533] ∧ n1 = n + 1)
theorem TkS.kept {w w1 w2 : World} {B g : Nat} {d e : Dc} {b n n1 : Nat} {v1 : Value} {xs xs1 : List Int} (h : TkS w w1 B g d e b n n1 v1 xs xs1) (hb : Below w1.heap.size w1 w2) : TkS w w2 B g d e b n n1 v1 xs xs1 :=
  ⟨h.ha.kept hb, own_below h.ho hb, h.hn, h.hk.below h.hB hb, Nat.le_trans h.hB hb.size, h.hok, h.hst⟩
/-- what a byte that is no second one comes to -/
def Dc.last (e : Dc) (b : Nat) : Dc × List Nat := if e.may b then (if (e.next b).l = 0 then (Dc.no, [(e.next b).v]) else (e.next b, [])) else (Dc.no, [65533])
theorem TkS.told {w w1 : World} {B g : Nat} {d e : Dc} {b n n1 : Nat} {v1 : Value} {xs xs1 : List Int} (h : TkS w w1 B g d e b n n1 v1 xs xs1) (he : e.may b = true ∨ e.h = 0) {s : Dc} {t : List Nat} (hl : e.last b = (s, t)) :
    (d.step b).1 = s ∧ xs ++ ints (d.step b).2 = xs1 ++ ints t ∧ n + (d.step b).2.length = n1 + t.length := by
  rcases h.hst with ⟨rfl, rfl, rfl⟩ | ⟨rfl, h1, h2, rfl, rfl⟩
  · have e1 : e.step b = e.last b := by
      unfold Dc.step Dc.last
      split
      · rfl
      · rename_i h0
        rcases he with he | he
        · exact absurd he h0
        · rw [if_pos he]
    rw [e1, hl]
    exact ⟨rfl, rfl, rfl⟩
  · have e1 : step0 b = Dc.no.last b := rfl
    have e2 : d.step b = ((step0 b).1, 65533 :: (step0 b).2) := by
      unfold Dc.step
      rw [h2, if_neg h1]
      rfl
    rw [e2, e1, hl]
    refine ⟨rfl, ?_, ?_⟩
    · show xs ++ ints ([65533] ++ t) = _
      rw [ints_append, ← List.append_assoc]
      rfl
    · show n + (t.length + 1) = n + 1 + t.length
      omega
/-- how many times it may jump -/
def muT (g : Nat) (w : World) : Nat := match w.cell? ⟨g, 0, none⟩ with | some (.int _ q) => q.toNat | _ => 0
theorem muT_of {g : Nat} {w : World} {e : Dc} (h : Arr w g 41 (dcC e)) : muT g w = e.h := by
  unfold muT
  rw [h.cell 0]
  rfl
theorem wp_scope_again {P : Program} {Q : Exit → Act → World → Prop} {a : Act} {w : World} (l : Nat) (rest : Code) (J : Act → World → Prop) (μ : Act → World → Nat) (h0 : J a w)
    (pass : ∀ a w, J a w → rest.wp P (Exit.jump l (fun a' w' => J a' w' ∧ μ a' w' < μ a w) Q) a w) : (Code.scope (.seq (.label l) rest)).wp P Q a w := by
  refine wp_scope_jumps (rest := .seq .skip rest) l J μ (by simp [findLabel]) ?_ ?_
  · refine wp_seq (wp_label ?_)
    refine wp_mono (pass a w h0) ?_
    intro e a' w' h
    cases e <;> first | exact h | exact ⟨h.1, h.2.1⟩
  · intro a w h
    exact wp_seq (wp_skip (pass a w h))
theorem ni_one {w : World} {p : Nat} {t : TypeId} {f : Nat × Nat} {x : Int} (h : w.heap[p]? = some (.cells #[.int .i32 x] t f)) : NI w (some ⟨p, 0, none⟩) [x] := by
  refine Or.inr ⟨p, 0, rfl, fun i hi => ?_⟩
  have h0 : i = 0 := by simp at hi; omega
  subst h0
  rw [cell_of_row w p 0 _ t f h]
  rfl

theorem own_ge {w : World} {B : Nat} {e : TypeId} {v : Value} {n : Nat} {us : List Value} (h : w.ownsRow B e 1 v n us) (k : Nat) (hk : v.ownBlock = some k) : B ≤ k := by
  rcases h.2 with ⟨rfl, _⟩ | ⟨g, cap, cur, rfl, hB, _⟩
  · cases hk
  · cases hk; exact hB
/-- what lies in memory behind a store -/
structure Af (w w4 : World) (B g n1 : Nat) (v1 : Value) (xs1 : List Int) (M : Dc) : Prop where
  ha : Arr w4 g 41 (dcC M)
  ho : w4.ownsRow B 21 1 v1 n1 (i32s xs1)
  hk : Kp B g w w4
  hB : B ≤ w4.heap.size
theorem TkS.af {w w1 : World} {B g : Nat} {d e : Dc} {b n n1 : Nat} {v1 : Value} {xs xs1 : List Int} (h : TkS w w1 B g d e b n n1 v1 xs xs1) : Af w w1 B g n1 v1 xs1 e := ⟨h.ha, h.ho, h.hk, h.hB⟩
theorem Af.store {w w1 : World} {B g n1 : Nat} {v1 : Value} {xs1 : List Int} {e : Dc} (h : Af w w1 B g n1 v1 xs1 e) (hg : g < B) (M : Dc) : Af w (w1.setRow g (dcC M).toArray) B g n1 v1 xs1 M := by
  refine ⟨h.ha.row _, h.ho.kept (grown_rowU w1 g _) ?_, h.hk.row _, Nat.le_trans h.hB (by simp)⟩
  by_cases hv : v1.ownBlock = none
  · exact Or.inl hv
  · refine Or.inr fun e => ?_
    have := own_ge h.ho g e
    omega
theorem Af.append {w w4 w5 : World} {B g n1 m : Nat} {v1 v5 : Value} {xs1 ys : List Int} {M : Dc} {o : Obj} (h : Af w w4 B g n1 v1 xs1 M) (hg : g < B) (ho : w5.ownsRow B 21 1 v5 (n1 + m) (i32s (xs1 ++ ys))) (hw : (w4.alloc o).grownBy w5 v1.ownBlock) : Af w w5 B g (n1 + m) v5 (xs1 ++ ys) M := by
  have hs : w4.heap.size ≤ (w4.alloc o).heap.size := by simp
  refine ⟨(hw.block g (Nat.lt_of_lt_of_le h.ha.lt hs) fun e => ?_).trans (h.ha.alloc o), ho, (h.hk.below h.hB ((Below.refl _ _).alloc (Nat.le_refl _) _)).grown hw (Nat.le_trans h.hB hs) fun k hk => Or.inl (own_ge h.ho k hk), Nat.le_trans h.hB (Nat.le_trans hs hw.size)⟩
  have := own_ge h.ho g e.symm
  omega

set_option maxHeartbeats 8000000 in
set_option maxRecDepth 100000 in
theorem take_any (d : Dc) (b B g n : Nat) (v : Value) (xs : List Int) (w : World) (hd : d.ok) (hb : b < 256) (hL : LaidU w) (hA : Arr w g 41 (dcC d)) (hgB : g < B) (hg0 : 0 < g) (hB : B ≤ w.heap.size) (hown : w.ownsRow B 21 1 v n (i32s xs)) (hn : xs.length = n) (hn2 : n ≤ 100000) :
    Calls Tryd.prog 27 #[.pointer (some ⟨g, 0, none⟩), v, .int .u8 (b : Int)] w fun e w' => ∃ v', e = .returned v' ∧ w'.ownsRow B 21 1 v' (n + (d.step b).2.length) (i32s (xs ++ ints (d.step b).2)) ∧ Arr w' g 41 (dcC (d.step b).1) ∧ Kp B g w w' := by
  have HL := hide (And.intro hL (And.intro hg0 (Nat.lt_trans hg0 hgB)))
  have HG := hide hgB
  have HB0 := hide hb
  have HN0 := hide hn2
  have HT0 : Hid (TkS w w B g d d b n n v xs xs) := ⟨hA, hown, hn, Kp.refl _ _ _, hB, hd, Or.inl ⟨rfl, rfl, rfl⟩⟩
  clear hd hb hL hA hgB hg0 hB hown hn hn2
  go_enter Tryd.func27, Tryd.ntmps27
  go_wp2
  refine wp_scope_again 0 _ (fun a' w' => ∃ e v1 xs1 n1, TkS w w' B g d e b n n1 v1 xs xs1 ∧ ∃ u7 u8 u9 u10 u11 u12 u13 u14 u15 u16 u17 u18 u19 u20 u21 u22 u23 u24 u25 u26 u27 u28 u29 u30 u31 u32 u33 u34 u35 u36 u37 u38 u39 u40 u41 u42 u43 u44 u45 u46 u47 u48 u49 u50 u51 u52, a' = { tmps := #[.pointer (some ⟨g, 0, none⟩), v1, .int .u8 (b : Int), undef, undef, undef, .slice none 0 0, u7, u8, u9, u10, u11, u12, u13, u14, u15, u16, u17, u18, u19, u20, u21, u22, u23, u24, u25, u26, u27, u28, u29, u30, u31, u32, u33, u34, u35, u36, u37, u38, u39, u40, u41, u42, u43, u44, u45, u46, u47, u48, u49, u50, u51, u52], defers := [] }) (fun _ w' => muT g w') ⟨d, v, xs, n, HT0.out, _, _, _, _, _, _, _, _, _, _, _, _, _, _, _, _, _, _, _, _, _, _, _, _, _, _, _, _, _, _, _, _, _, _, _, _, _, _, _, _, _, _, _, _, _, _, rfl⟩ ?_
  clear HT0
  rintro a1 w1 ⟨e, v1, xs1, n1, hT, u7, u8, u9, u10, u11, u12, u13, u14, u15, u16, u17, u18, u19, u20, u21, u22, u23, u24, u25, u26, u27, u28, u29, u30, u31, u32, u33, u34, u35, u36, u37, u38, u39, u40, u41, u42, u43, u44, u45, u46, u47, u48, u49, u50, u51, u52, rfl⟩
  have HLD : Hid (LaidU w1) := HL.out.1.kp HL.out.2.2 HL.out.2.1 hT.hk
  have HBH := hide (behind_any e b w1 hT.hok HB0.out HLD.out)
  obtain ⟨N, hN⟩ : ∃ N, e.next b = N := ⟨_, rfl⟩
  obtain ⟨m, hm⟩ : ∃ m, e.may b = m := ⟨_, rfl⟩
  have HLA : Hid (e.last b = if m then (if N.l = 0 then (Dc.no, [N.v]) else (N, [])) else (Dc.no, [65533])) := by show _ = _; unfold Dc.last; rw [hN, hm]
  rw [hN, hm] at HBH
  have HM := hide hm
  have HNN := hide hN
  have HT := hide hT
  clear hT hm hN HLD
  have y0 : w1.cell? ⟨g, 0, none⟩ = some (.int .i64 (e.h : Int)) := HT.out.ha.cell 0
  have y1 : w1.cell? ⟨g, 1, none⟩ = some (.int .i64 (e.l : Int)) := HT.out.ha.cell 1
  have y2 : w1.cell? ⟨g, 2, none⟩ = some (.int .i32 (e.v : Int)) := HT.out.ha.cell 2
  go_wp2_with fail
  refine HBH.out.mono ?_
  rintro r w2 ⟨rfl, hbw⟩
  have HMU : Hid (muT g w1 = e.h) := muT_of HT.out.ha
  have HT2 := hide (HT.out.kept hbw)
  clear y0 y1 y2 HBH HT hbw
  go_upto_region 3 with fail
  have HT3 : Hid (TkS w (w2.alloc (Obj.cells (dcC N).toArray 41)) B g d e b n n1 v1 xs xs1) := HT2.out.kept ((Below.refl _ _).alloc (Nat.le_refl _) _)
  have HX : Hid (Arr (w2.alloc (Obj.cells (dcC N).toArray 41)) w2.heap.size 41 (dcC N)) := Arr.new _ _ _
  have HXB : Hid (g < w2.heap.size ∧ B ≤ w2.heap.size) := ⟨HT2.out.ha.lt, HT2.out.hB⟩
  clear HT2
  simp only [dcC] at HT3 HX
  generalize w2.alloc (Obj.cells #[Value.int .i64 (N.h : Int), Value.int .i64 (N.l : Int), Value.int .i32 (N.v : Int)] 41) = w3 at *
  generalize w2.heap.size = X at *
  have HN1 : Hid (xs1.length = n1) := HT3.out.hn
  have HSZ : Hid (n1 + 1 ≤ 17592186044416) := by
    have h1 := HN0.out
    show n1 + 1 ≤ _
    rcases HT3.out.hst with ⟨_, _, h⟩ | ⟨_, _, _, _, h⟩ <;> omega
  have HA := hide HT3.out.af
  cases m
  · have HE : Hid (e.last b = (Dc.no, [65533])) := HLA.out
    clear HLA
    obtain ⟨q, hq⟩ : ∃ q : Int, q = (e.h : Int) := ⟨_, rfl⟩
    have z0 : w3.cell? ⟨g, 0, none⟩ = some (.int .i64 q) := by rw [hq]; exact HA.out.ha.cell 0
    by_cases hh : e.h = 0
    · as_aux_lemma =>
      obtain ⟨t1, t2, t3⟩ := HT3.out.told (Or.inr hh) HE.out
      have dh : decide (0 < q) = false := decide_eq_false (by omega)
      have HEN : Hid (e = Dc.no) := by
        show _ = _
        rcases HT3.out.hok with h | ⟨h, _⟩
        · exact h
        · omega
      rw [HEN.out] at HA
      have HTT := hide (And.intro t1 (And.intro t2 t3))
      clear hq t1 t2 t3 hh HT3 HE HX HXB HM HNN
      go_wp2_with (refine wpList_append_runes rfl _ _ rfl B v1 xs1 rfl n1 HN1.out (own_below HA.out.ho ((Below.refl _ _).alloc (Nat.le_refl _) _)) (some ⟨_, 0, none⟩) 1 1 [65533] rfl rfl (ni_one (heap_alloc_new _ _)) (fun h => by cases h) HSZ.out (Nat.le_trans HA.out.hB (by simp)) ?_; intro v5 w5 ho5 hw5; have HA5 := hide (HA.out.append HG.out ho5 hw5); clear ho5 hw5)
      try simp only [Exit.jump]
      go_ret
      rw [HTT.out.1, HTT.out.2.1, HTT.out.2.2]
      exact ⟨v5, rfl, HA5.out.ho, HA5.out.ha, HA5.out.hk⟩
    · as_aux_lemma =>
      have dh : decide (0 < q) = true := decide_eq_true (by omega)
      have HHH := hide hh
      clear hq hh HX HXB HE
      have HAO := HA
      clear HA
      have HA := hide (HAO.out.store HG.out Dc.no)
      go_upto_region 11 with (refine wpList_store_row rfl 41 _ _ rfl g (dcC Dc.no).toArray rfl rfl 41 _ HAO.out.ha infoDc rfl (one_dcC _) ?_)
      generalize w3.setRow g (dcC Dc.no).toArray = w4 at *
      go_wp2_with (refine wpList_append_runes rfl _ _ rfl B v1 xs1 rfl n1 HN1.out (own_below HA.out.ho ((Below.refl _ _).alloc (Nat.le_refl _) _)) (some ⟨_, 0, none⟩) 1 1 [65533] rfl rfl (ni_one (heap_alloc_new _ _)) (fun h => by cases h) HSZ.out (Nat.le_trans HA.out.hB (by simp)) ?_; intro v5 w5 ho5 hw5; have HA5 := hide (HA.out.append HG.out ho5 hw5); clear ho5 hw5)
      go_step3
      try simp only [Exit.jump]
      refine ⟨rfl, ⟨Dc.no, v5, _, _, ⟨HA5.out.ha, HA5.out.ho, ?_, HA5.out.hk, HA5.out.hB, no_ok, Or.inr ?_⟩, _, _, _, _, _, _, _, _, _, _, _, _, _, _, _, _, _, _, _, _, _, _, _, _, _, _, _, _, _, _, _, _, _, _, _, _, _, _, _, _, _, _, _, _, _, _, rfl⟩, ?_⟩
      · simp [HN1.out]
      · rcases HT3.out.hst with ⟨h1, h2, h3⟩ | ⟨h1, _⟩
        · refine ⟨rfl, ?_, ?_, by rw [h2], by rw [h3]⟩
          · rw [← h1]; exact HHH.out
          · rw [← h1]; exact HM.out
        · exact absurd (by rw [h1]; rfl) HHH.out
      · rw [HMU.out, muT_of HA5.out.ha]
        exact Nat.pos_of_ne_zero HHH.out
  · have HE : Hid (e.last b = if N.l = 0 then (Dc.no, [N.v]) else (N, [])) := HLA.out
    clear HLA
    by_cases hl : N.l = 0
    · as_aux_lemma =>
      obtain ⟨t1, t2, t3⟩ := HT3.out.told (Or.inl HM.out) (HE.out.trans (if_pos hl))
      have HTT := hide (And.intro t1 (And.intro t2 t3))
      have z1 : w3.cell? ⟨X, 1, none⟩ = some (.int .i64 0) := (HX.out.cell 1).trans (by rw [hl]; rfl)
      clear t1 t2 t3 hl HT3 HE HM HNN
      have HAO := HA
      clear HA
      have HA := hide (HAO.out.store HG.out Dc.no)
      go_upto_region 5 with (refine wpList_store_row rfl 41 _ _ rfl g (dcC Dc.no).toArray rfl rfl 41 _ HAO.out.ha infoDc rfl (one_dcC _) ?_)
      have z2 : (w3.setRow g (dcC Dc.no).toArray).cell? ⟨X, 2, none⟩ = some (.int .i32 (N.v : Int)) := (HX.out.rowOther g _ (by have := HXB.out.1; omega)).cell 2
      generalize w3.setRow g (dcC Dc.no).toArray = w4 at *
      go_wp2_with (refine wpList_append_runes rfl _ _ rfl B v1 xs1 rfl n1 HN1.out (own_below HA.out.ho ((Below.refl _ _).alloc (Nat.le_refl _) _)) (some ⟨_, 0, none⟩) 1 1 [(N.v : Int)] rfl rfl (ni_one (heap_alloc_new _ _)) (fun h => by cases h) HSZ.out (Nat.le_trans HA.out.hB (by simp)) ?_; intro v5 w5 ho5 hw5; have HA5 := hide (HA.out.append HG.out ho5 hw5); clear ho5 hw5)
      try simp only [Exit.jump]
      go_ret
      rw [HTT.out.1, HTT.out.2.1, HTT.out.2.2]
      exact ⟨v5, rfl, HA5.out.ho, HA5.out.ha, HA5.out.hk⟩
    · as_aux_lemma =>
      obtain ⟨t1, t2, t3⟩ := HT3.out.told (Or.inl HM.out) (HE.out.trans (if_neg hl))
      have HTT := hide (And.intro t1 (And.intro t2 t3))
      have z1 : w3.cell? ⟨X, 1, none⟩ = some (.int .i64 (N.l : Int)) := HX.out.cell 1
      have d1 : ((N.l : Int) == 0) = false := by simp; omega
      clear t1 t2 t3 hl HT3 HE HM HNN
      have x0 : w3.cell? ⟨X, 0, none⟩ = some (.int .i64 (N.h : Int)) := HX.out.cell 0
      have x2 : w3.cell? ⟨X, 2, none⟩ = some (.int .i32 (N.v : Int)) := HX.out.cell 2
      go_wp2_with (refine wpList_store_row rfl 41 _ _ rfl g (dcC N).toArray rfl rfl 41 _ HA.out.ha infoDc rfl (one_dcC _) ?_)
      try simp only [Exit.jump]
      go_ret
      have HA5 := HA.out.store HG.out N
      rw [HTT.out.1, HTT.out.2.1, HTT.out.2.2]
      exact ⟨v1, rfl, by simpa [ints] using HA5.ho, HA5.ha, HA5.hk⟩
end Go.Proofs.YtijjifdgmffenaaDoor
