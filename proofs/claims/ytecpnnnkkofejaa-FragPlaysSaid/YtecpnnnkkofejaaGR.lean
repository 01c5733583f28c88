/-
  A walk of the law's: the known rows of layer 8.
-/
import Derived.Test.YtecpnnnkkofejaaGQ
namespace Go.Proofs.Ytecpnnnkkofejaa
open Go.RowKit Go.Maps

/-- bytes that a constant's row holds -/
theorem piece_lit {w : World} {g c : Nat} {l : List Nat} {t : TypeId} {f : Nat × Nat} (h : w.heap[g]? = some (.cells (u8s l).toArray t f)) (hb : BytesN l) (hlc : l.length ≤ c) (hc : c ≤ maxLen) : Piece w (some ⟨g, 0, none⟩) c l := by
  refine ⟨Or.inr ⟨g, 0, rfl, fun i hi => ?_⟩, fun e => (by cases e), hb, hlc, hc⟩
  rw [Nat.zero_add, cell_of_row w g i _ t f h]
  simpa using u8s_at hi
/-- a joiner lies apart from bytes -/
theorem apt_of {w : World} {B g : Nat} {p : Option Addr} {b : List Nat} {t : TypeId} {vs : List Value} (h : OB w B p b) (hg : Arr w g t vs) (ht : t ≠ 5) : Apt p b g := by
  intro a ha hn e
  obtain ⟨_, cs, fr, h2⟩ := h.2 a ha hn
  unfold Arr at hg
  rw [e, hg] at h2
  simp at h2
  exact ht h2.2.1
theorem PP.arr {w : World} {g : Nat} {s : Js} (h : PP w g s) : ∃ vs, Arr w g 55 vs := by
  obtain ⟨⟨q, ks, h1, _⟩, _⟩ := h
  exact ⟨_, h1.j⟩
/-- a row of pieces, one of them read -/
theorem pk_at {w : World} {g j : Nat} {ks : List Pk} {k : Pk} (h : Arr w g 25 (pkC ks)) (hk : ks[j]? = some k) : w.rangeAt g (j * 4) k.C := by
  intro t v hv
  have ht : t < 4 := by
    have := (List.getElem?_eq_some_iff.1 hv).1
    simpa [Pk.C] using this
  rw [h.cell, show j * 4 + t = 4 * j + t by omega, pkC_get ks j t ht, hk]
  exact hv

def abT : List Nat := [97, 98, 99, 100, 101]
def kx (m : Nat) : Pc := cutX 7 abT 2 m
def ky : Pc := ⟨7, 1, true, [120]⟩
theorem abT_bytes : BytesN abT := by intro x hx; simp only [abT, List.mem_cons, List.not_mem_nil, or_false] at hx; omega
theorem ky_bytes : BytesN [120] := by intro x hx; simp only [List.mem_cons, List.not_mem_nil, or_false] at hx; omega
theorem ky_form : ky.form = [7, 3, 120] := by rfl
theorem ky_str : (strF [7, 3, 120]).toList = [7, 3, 120] := by rw [ByteArray.toList_eq]; rfl
theorem ab_str : (strF abT).toList = [97, 98, 99, 100, 101] := by rw [ByteArray.toList_eq]; rfl
def js1 : Js := Js.none.next (kx 2)
def js2 : Js := js1.next (kx 0)
theorem js3_tell : js2.tell (kx 1) = (abT, true, 0) := by rfl
theorem js3_id : (js2.next (kx 1)).i = 7 := by rfl
theorem js1_fits : js1.fits 1 := next_fits (n := 0) ⟨Nat.zero_le _, Nat.zero_le _, Nat.zero_le _⟩ _
theorem js2_fits : js2.fits 2 := next_fits js1_fits _

theorem next_id (x : Pc) (m : Nat) (k : Pk) (i s : Nat) (t : List Nat) (w : World) (B : Nat) (h : CutP w B i s t m k) (hx : cutX i t s m = x) : ∃ p c, k = ⟨x, p, c⟩ ∧ Piece w p c x.b ∧ OB w B p x.b := by
  obtain ⟨y, p, c⟩ := k
  obtain ⟨h1, h2, h3⟩ := h
  simp only at h1 h2 h3
  subst h1
  rw [hx] at h2 h3 ⊢
  exact ⟨p, c, rfl, h2, h3⟩

/-- what is put in: a row of pieces, a joiner, and the piece that is taken -/
structure KS (w wr : World) (g gj : Nat) (ks : List Pk) (s : Js) : Prop where
  a : Arr wr g 25 (pkC ks)
  j : PP wr gj s
  e : ∀ k ∈ ks, Piece wr k.p k.c k.x.b ∧ OB wr w.heap.size k.p k.x.b
  b : Below w.heap.size w wr
  l : w.heap.size ≤ gj
theorem KS.kept {w wr w' : World} {g gj : Nat} {ks : List Pk} {s : Js} (h : KS w wr g gj ks s) (hb : Below wr.heap.size wr w') : KS w w' g gj ks s :=
  ⟨h.a.kept hb, h.j.kept hb, fun k hk => ⟨(h.e k hk).1.kept hb, (h.e k hk).2.kept hb⟩, h.b.trans (hb.mono h.b.size), h.l⟩
theorem KS.put {w wr w' : World} {g gj : Nat} {ks : List Pk} {s s' : Js} (h : KS w wr g gj ks s) (hg : wr.grownBy w' (some gj)) (hj : PP w' gj s') : KS w w' g gj ks s' := by
  obtain ⟨vs, hv⟩ := h.j.arr
  have hne : gj ≠ g := arr_ne hv h.a (by decide)
  refine ⟨h.a.keptR hg (by simpa using hne), hj, fun k hk => ?_, h.b.grown hg h.b.size (fun j hj => by cases hj; exact h.l), h.l⟩
  have h2 := (h.e k hk).2.keptR hg hv (by decide)
  exact ⟨⟨h2.1.1, (h.e k hk).1.2⟩, h2⟩
/-- a piece of the row is put in -/
theorem KS.take {w wr : World} {g gj n : Nat} {ks : List Pk} {s : Js} (h : KS w wr g gj ks s) {k : Pk} (hk : k ∈ ks) (hf : s.fits n) (hn : n ≤ 5000) :
    Calls Try.prog 20 #[.pointer (some ⟨gj, 0, none⟩), .agg k.C.toArray] wr fun e w' => ∃ q d, e = .returned (.tuple #[.slice q (s.tell k.x).1.length d, .bool (s.tell k.x).2.1, .int .i64 (s.tell k.x).2.2]) ∧ BR w' q (s.tell k.x).1 ∧ KS w w' g gj ks (s.next k.x) ∧ (s.next k.x).fits (n + 1) := by
  obtain ⟨vs, hv⟩ := h.j.arr
  refine (put_any wr gj k.c n s k.x k.p h.j (h.e k hk).1 (apt_of (h.e k hk).2 hv (by decide)) hf hn).mono ?_
  rintro e w' ⟨q, d, he, hb, hj, hg⟩
  exact ⟨q, d, he, hb.1, h.put hg hj, next_fits hf _⟩
theorem KS.at {w wr : World} {g gj j : Nat} {ks : List Pk} {s : Js} (h : KS w wr g gj ks s) {k : Pk} (hk : ks[j]? = some k) : wr.rangeAt g (j * 4) k.C := pk_at h.a hk

set_option maxHeartbeats 8000000 in
set_option maxRecDepth 100000 in
theorem known_of (w : World) (x0 x1 x2 : Pc) (s1 s2 s3 : Js) (T1 T2 T3 : List Nat × Bool × Int) (h1 : cutX 7 abT 2 0 = x0) (h2 : cutX 7 abT 2 1 = x1) (h3 : cutX 7 abT 2 2 = x2) (t1 : Js.none.tell x2 = T1) (t2 : s1.tell x0 = T2) (t3 : s2.tell x1 = T3)
    (n1 : Js.none.next x2 = s1) (n2 : s1.next x0 = s2) (n3 : s2.next x1 = s3) (hT : T3 = (abT, true, 0)) (h7 : s3.i = 7) :
    Calls Try.prog 9 #[] w fun e w' => e = .returned (.bool true) ∧ Below w.heap.size w w' := by
  have kc := fun (w : World) (C : Array Value) (n c : Nat) => Lib.run_convert_bytes_const (P := Try.prog) w 23 5 C n c Try.underlying23 Try.underlying5
  have X0 := hide h1
  have X1 := hide h2
  have X2 := hide h3
  have U1 := hide t1
  have U2 := hide t2
  have U3 := hide t3
  have N1 := hide n1
  have N2 := hide n2
  have N3 := hide n3
  have HT := hide hT
  have H7 := hide h7
  clear h1 h2 h3 t1 t2 t3 n1 n2 n3 hT h7
  go_enter Try.func9, Try.ntmps9
  go_wp2_with fail
  have hP : Piece (w.alloc (Obj.cells (u8s abT).toArray 5 (5, 6))) (some ⟨w.heap.size, 0, none⟩) 5 abT := piece_lit (heap_alloc_new w _) abT_bytes (by decide) (by decide)
  have B1 : Below w.heap.size w (w.alloc (Obj.cells (u8s abT).toArray 5 (5, 6))) := (Below.refl _ _).alloc (Nat.le_refl _) _
  refine (pcut_ok 7 5 2 3 abT _ 5 _ hP rfl (by omega) (by omega) (by omega) (by decide) (by decide)).mono ?_
  rintro e w2 ⟨g, ks, rfl, _, hA, hkl, hcut, hb⟩
  obtain ⟨k0, e0, c0⟩ := hcut 0 (by omega)
  obtain ⟨k1, e1, c1⟩ := hcut 1 (by omega)
  obtain ⟨k2, e2, c2⟩ := hcut 2 (by omega)
  have hks : ks = [k0, k1, k2] := by
    apply List.ext_getElem?
    intro i
    match i with
    | 0 => rw [e0]; rfl
    | 1 => rw [e1]; rfl
    | 2 => rw [e2]; rfl
    | i + 3 => rw [List.getElem?_eq_none (by omega)]; rfl
  obtain ⟨p0, d0, rfl, a0, b0⟩ := next_id x0 0 k0 7 2 abT w2 _ c0 X0.out
  obtain ⟨p1, d1, rfl, a1, b1⟩ := next_id x1 1 k1 7 2 abT w2 _ c1 X1.out
  obtain ⟨p2, d2, rfl, a2, b2⟩ := next_id x2 2 k2 7 2 abT w2 _ c2 X2.out
  have A2 := hide hA
  have E2 : Hid (∀ k ∈ ks, Piece w2 k.p k.c k.x.b ∧ OB w2 w.heap.size k.p k.x.b) := by
    show ∀ k ∈ ks, _
    rw [hks]
    intro k hk
    simp only [List.mem_cons, List.not_mem_nil, or_false] at hk
    rcases hk with rfl | rfl | rfl
    · exact ⟨a0, b0.from B1.size⟩
    · exact ⟨a1, b1.from B1.size⟩
    · exact ⟨a2, b2.from B1.size⟩
  have B2 : Hid (Below w.heap.size w w2) := B1.trans (hb.mono B1.size)
  have HK := hide (And.intro e0 (And.intro e1 e2))
  clear hP B1 hA hkl hcut hb e0 e1 e2 c0 c1 c2 a0 a1 a2 b0 b1 b2 X0 X1 X2 hks
  go_wp2_with fail
  have hP : Piece (w2.alloc (Obj.cells (u8s [120]).toArray 5 (1, 2))) (some ⟨w2.heap.size, 0, none⟩) 1 [120] := piece_lit (heap_alloc_new w2 _) ky_bytes (by decide) (by decide)
  have B3 : Below w2.heap.size w2 (w2.alloc (Obj.cells (u8s [120]).toArray 5 (1, 2))) := (Below.refl _ _).alloc (Nat.le_refl _) _
  refine (pform_any ky (some ⟨w2.heap.size, 0, none⟩) 1 _ rfl (by decide) hP).mono ?_
  rintro e w4 ⟨v, rfl, ho, hb⟩
  rw [ky_form] at ho
  obtain ⟨pf, df, rfl, hpf, _⟩ := own_piece_n (n := 3) ho rfl (by intro x hx; simp only [List.mem_cons, List.not_mem_nil, or_false] at hx; omega)
  have hb4 : Below w2.heap.size w2 w4 := B3.trans (hb.mono B3.size)
  have A4 := hide (A2.out.kept hb4)
  have E4 : Hid (∀ k ∈ ks, Piece w4 k.p k.c k.x.b ∧ OB w4 w.heap.size k.p k.x.b) := fun k hk => ⟨(E2.out k hk).1.kept hb4, (E2.out k hk).2.kept hb4⟩
  have B4 : Hid (Below w.heap.size w w4) := B2.out.trans (hb4.mono B2.out.size)
  have P4 := hide hpf
  clear hP B3 ho hb hb4 hpf A2 E2 B2 kc
  go_wp2_with fail
  refine (new_any w4).mono ?_
  rintro e w5 ⟨gj, rfl, hgj, hj, hb⟩
  have K5 : Hid (KS w w5 g gj ks Js.none) := ⟨A4.out.kept hb, hj, fun k hk => ⟨(E4.out k hk).1.kept hb, (E4.out k hk).2.kept hb⟩, B4.out.trans (hb.mono B4.out.size), Nat.le_trans B4.out.size hgj⟩
  have P5 := hide (P4.out.kept hb)
  clear hgj hj hb A4 E4 B4 P4
  have cv := conv_any P5.out.1 (c := df) 3 rfl
  have n2 : (strF [7, 3, 120]).toList = [7, 3, 120] := ky_str
  have L5 : Hid (w5.rangeAt g 8 (Pk.mk x2 p2 d2).C) := K5.out.at (j := 2) HK.out.2.2
  have M0 : Hid ((⟨x0, p0, d0⟩ : Pk) ∈ ks ∧ (⟨x1, p1, d1⟩ : Pk) ∈ ks ∧ (⟨x2, p2, d2⟩ : Pk) ∈ ks) := ⟨List.mem_of_getElem? HK.out.1, List.mem_of_getElem? HK.out.2.1, List.mem_of_getElem? HK.out.2.2⟩
  go_wp2_with (refine wpList_exec (by rfl) _ (exec_load_mid 25 (.tmp 45) rfl g 8 rfl (Pk.mk x2 p2 d2).C _ L5.out Try.underlying25 rfl infoPc) ?_)
  refine (K5.out.take (n := 0) M0.out.2.2 ⟨Nat.zero_le _, Nat.zero_le _, Nat.zero_le _⟩ (by omega)).mono ?_
  rintro e w6 ⟨q, d, rfl, _, hk6, hf6⟩
  simp only at hk6 hf6
  rw [N1.out] at hk6 hf6
  have K6 := hide hk6
  have F6 := hide hf6
  have L6 : Hid (w6.rangeAt g 0 (Pk.mk x0 p0 d0).C) := hk6.at (j := 0) HK.out.1
  clear hk6 hf6 K5 L5 P5 cv n2 N1 U1
  simp only
  generalize (Js.none.tell x2).1.length = l1 at *
  generalize (Js.none.tell x2).2.1 = l2 at *
  generalize (Js.none.tell x2).2.2 = l3 at *
  go_wp2_with (refine wpList_exec (by rfl) _ (exec_load_mid 25 (.tmp 50) rfl g 0 rfl (Pk.mk x0 p0 d0).C _ L6.out Try.underlying25 rfl infoPc) ?_)
  refine (K6.out.take M0.out.1 F6.out (by omega)).mono ?_
  rintro e w7 ⟨q', d', rfl, _, hk7, hf7⟩
  simp only at hk7 hf7
  rw [N2.out] at hk7 hf7
  have K7 := hide hk7
  have F7 := hide hf7
  have L7 : Hid (w7.rangeAt g 4 (Pk.mk x1 p1 d1).C) := hk7.at (j := 1) HK.out.2.1
  clear hk7 hf7 K6 F6 L6 N2 U2
  simp only
  generalize (s1.tell x0).1.length = m1 at *
  generalize (s1.tell x0).2.1 = m2 at *
  generalize (s1.tell x0).2.2 = m3 at *
  go_wp2_with (refine wpList_exec (by rfl) _ (exec_load_mid 25 (.tmp 56) rfl g 4 rfl (Pk.mk x1 p1 d1).C _ L7.out Try.underlying25 rfl infoPc) ?_)
  refine (K7.out.take M0.out.2.1 F7.out (by omega)).mono ?_
  rintro e w8 ⟨q8, d8, rfl, hbr, hk8, _⟩
  simp only at hk8 hbr
  simp only
  rw [U3.out, HT.out] at hbr ⊢
  rw [N3.out] at hk8
  have K8 := hide hk8
  have HI := hide (id_any w8 gj s3 hk8.j)
  rw [H7.out] at HI
  have cv := conv_any hbr.1 (c := d8) 5 rfl
  have n2 : (strF abT).toList = [97, 98, 99, 100, 101] := ab_str
  clear hk8 hbr K7 F7 L7 N3 U3
  generalize strF abT = sab at *
  simp only [show abT.length = 5 from rfl]
  go_wp2_with fail
  refine HI.out.mono ?_
  rintro e w9 ⟨rfl, rfl⟩
  go_wp2
  go_ret
  exact ⟨rfl, K8.out.b⟩

theorem known_any (w : World) : Calls Try.prog 9 #[] w fun e w' => e = .returned (.bool true) ∧ Below w.heap.size w w' :=
  known_of w _ _ _ _ _ _ _ _ _ rfl rfl rfl rfl rfl rfl rfl rfl rfl js3_tell js3_id

end Go.Proofs.Ytecpnnnkkofejaa
