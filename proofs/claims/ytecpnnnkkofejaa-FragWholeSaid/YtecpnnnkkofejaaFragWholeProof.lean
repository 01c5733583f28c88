/-
  FragWhole: in whatever order a text's pieces come, and however often, behind pieces of texts with lesser numbers, it is told just once, when the last of them came, as it was: the law returns true. No condition.
-/
import Derived.Test.YtecpnnnkkofejaaGW
namespace Go.Proofs.Ytecpnnnkkofejaa
namespace FragWholeProof
open Go.ChangeShapes Go.WideShapes Go.ChangeAt Go.WideMaps Go.WideElems Go.RowKit Go.Maps
set_option linter.unusedVariables false
set_option linter.unusedSimpArgs false

theorem apt_low {w : World} {p : Option Addr} {c g : Nat} {b : List Nat} (h : Piece w p c b) (hg : w.heap.size ≤ g) : Apt p b g := by
  intro a ha hn e
  rcases h.1 with h0 | ⟨g', o, hp, hc⟩
  · exact hn h0
  · rw [ha] at hp
    cases hp
    have := block_lt_of_cell (hc 0 (List.length_pos_iff.2 hn))
    simp only at e this
    omega
theorem next_i {s : Js} {x : Pc} (hx : x.e = 0) (hl : ¬ (s.met = true ∧ x.i < s.i)) : (s.next x).i = x.i := by
  have hm := meet_id hl
  by_cases hs : (s.meet x).stop x = true
  · rw [(tell_stop hx hl hs).2, hm]
  · have hs' : (s.meet x).stop x = false := by simpa using hs
    by_cases hz : 65536 < sizeL (((s.meet x).hold x).bound x).l
    · rw [(tell_much hx hl hs' hz).2]; rfl
    · by_cases hq : (((s.meet x).hold x).bound x).must = 0 ∨ (((s.meet x).hold x).bound x).l.length < (((s.meet x).hold x).bound x).must
      · rw [(tell_some hx hl hs' hz hq).2, (bound_id _ _).1, hm]
      · rw [(tell_all hx hl hs' hz hq).2]; rfl
theorem next_low {s : Js} {x : Pc} (hm : s.met = true) (hi : x.i < s.i) : s.next x = s := by
  by_cases hx : x.e = 0
  · exact (tell_low hx ⟨hm, hi⟩).2
  · exact (tell_err hx).2
theorem cnt_of_all : ∀ l : List Bool, (∀ m, m < l.length → l[m]? = some true) → cntB l = l.length
  | [], _ => rfl
  | b :: l, h => by
    have h0 := h 0 (by simp)
    simp at h0
    subst h0
    have := cnt_of_all l fun m hm => by
      have := h (m + 1) (by simp; omega)
      simpa using this
    simp only [cntB, this, List.length_cons]
    simp; omega

def bls (l : List Bool) : List Value := l.map Value.bool
theorem bls_at {l : List Bool} {m : Nat} {b : Bool} (h : l[m]? = some b) : (bls l)[m]? = some (.bool b) := by simp [bls, h]
theorem bls_set (l : List Bool) (m : Nat) (b : Bool) : (bls l).set m (.bool b) = bls (l.set m b) := by simp [bls, List.map_set]
theorem infoBool : (Try.prog.info? 4).map (fun i => (i.zero, i.size, i.bytes)) = some (some (.bool false), 1, 1) := by kernel_rfl
theorem made_bool (N : Nat) : (madeCells #[Value.bool false] (N * 1)).toList = bls (List.replicate N false) := by
  rw [Nat.mul_one, toList_madeCells_one]; simp [bls]
/-- 'make([]bool, n)' -/
theorem wpList_make_bool {w : World} {ops : Array Oper} {rest : List Oper} {o : Oper} {a : Act} {Q : Exit → Act → World → Prop} (hgd : o.guard = none) (l c : Operand)
    (ho : o.op = .makeSlice 57 l c) (N : Nat) (hl : a.eval l = .int .i64 (N : Int)) (hc : a.eval c = .int .i64 (N : Int)) (hN : N ≤ 1000000)
    (h : ∀ w', Arr w' w.heap.size 4 (bls (List.replicate N false)) → Below w.heap.size w w' → wpList Try.prog ops Q rest (a.put o.dst (.slice (some ⟨w.heap.size, 0, none⟩) N N)) w') :
    wpList Try.prog ops Q (o :: rest) a w := by
  obtain ⟨i0, hi, hz0, hz1, hz2⟩ := info_parts infoBool
  refine wpList_make_full _ hgd l c 57 ho w.heap.size 4 i0 (.bool false) 1 Try.underlying57 hi hz0 hz1 .i64 .i64 (N : Int) (N : Int) N hl hc rfl rfl (by rw [hz2]; omega) (by unfold maxLen; omega) (Nat.le_refl _) ?_
  intro w' hown hg
  refine h w' ?_ (grown_below hg (Nat.le_refl _) (fun k hk => by cases hk))
  rcases hown.2 with ⟨h0, _⟩ | ⟨g, cap, cur, h0, _, hgt, _, _, hsz, ht⟩
  · cases h0
  · cases h0
    unfold Arr
    rw [hgt]
    have : cur = (bls (List.replicate N false)).toArray := by
      apply Array.ext'
      show cur.toList = bls _
      rw [← made_bool, ← show cur.toList.take (N * 1) = cur.toList from List.take_of_length_le (by simp [hsz])]
      exact ht
    rw [this]

/-- a piece of the row is put in -/
theorem ks_take {w wr : World} {g gj n : Nat} {ks : List Pk} {s : Js} (h : KS w wr g gj ks s) {k : Pk} (hk : k ∈ ks) (hf : s.fits n) (hn : n ≤ 5000) :
    Calls Try.prog 20 #[.pointer (some ⟨gj, 0, none⟩), .agg k.C.toArray] wr fun e w' => ∃ q d, e = .returned (.tuple #[.slice q (s.tell k.x).1.length d, .bool (s.tell k.x).2.1, .int .i64 (s.tell k.x).2.2]) ∧ BR w' q (s.tell k.x).1 ∧ KS w w' g gj ks (s.next k.x) ∧ (s.next k.x).fits (n + 1) ∧ wr.grownBy w' (some gj) := by
  obtain ⟨vs, hv⟩ := h.j.arr
  refine (put_any wr gj k.c n s k.x k.p h.j (h.e k hk).1 (apt_of (h.e k hk).2 hv (by decide)) hf hn).mono ?_
  rintro e w' ⟨q, d, he, hb, hj, hg⟩
  exact ⟨q, d, he, by first | exact hb | exact hb.1, h.put hg hj, next_fits hf _, hg⟩
theorem ks_give {w wr : World} {g gj n c : Nat} {ks : List Pk} {s : Js} (h : KS w wr g gj ks s) (y : Pc) (p : Option Addr) (hp : Piece wr p c y.b) (ha : Apt p y.b gj) (hf : s.fits n) (hn : n ≤ 5000) :
    Calls Try.prog 20 #[.pointer (some ⟨gj, 0, none⟩), pcV y p c] wr fun e w' => (∃ v, e = .returned v) ∧ KS w w' g gj ks (s.next y) ∧ (s.next y).fits (n + 1) ∧ wr.grownBy w' (some gj) := by
  refine (put_any wr gj c n s y p h.j hp ha hf hn).mono ?_
  rintro e w' ⟨q, d, rfl, hb, hj, hg⟩
  exact ⟨⟨_, rfl⟩, h.put hg hj, next_fits hf _, hg⟩

/-- how far it has come -/
def Come (i : Nat) (t : List Nat) (s N : Nat) (j : Nat) (bs : List Bool) (st : Js) : Prop :=
  (j = 0 ∧ bs = List.replicate N false ∧ st.met = true ∧ st.i < i) ∨ (0 < j ∧ st.met = true ∧ st.i = i ∧ ((cntB bs < N ∧ Und i t s N bs st) ∨ (cntB bs = N ∧ st = Js.over i)))
theorem come_put {i s N j m : Nat} {t : List Nat} {bs : List Bool} {st : Js} (h : Come i t s N j bs st) (hl : bs.length = N) (hN : cutN t.length s = N) (hN2 : N ≤ 256) (hs : 1 ≤ s) (hs2 : s ≤ 1100) (ht : t.length ≤ 3000) (hm : m < N) :
    Come i t s N (j + 1) (bs.set m true) (st.next (cutX i t s m)) ∧
      ((st.tell (cutX i t s m) = (t, true, 0) ∧ cntB (bs.set m true) = N ∧ cntB bs < N) ∨ (st.tell (cutX i t s m) = ([], false, 0) ∧ (cntB (bs.set m true) < N ∨ cntB bs = N))) := by
  have hx : (cutX i t s m).e = 0 := cut_e (by omega) hs2
  have hlow : ¬ (st.met = true ∧ (cutX i t s m).i < st.i) := by
    rintro ⟨_, h1⟩
    rw [cut_i] at h1
    rcases h with ⟨_, _, _, h2⟩ | ⟨_, _, h2, _⟩ <;> omega
  have hmt := next_met (s := st) hx
  have hni : (st.next (cutX i t s m)).i = i := next_i hx hlow
  have under : ∀ u, Und i t s N bs u → st.meet (cutX i t s m) = u → cntB bs < N → Come i t s N (j + 1) (bs.set m true) (st.next (cutX i t s m)) ∧
      ((st.tell (cutX i t s m) = (t, true, 0) ∧ cntB (bs.set m true) = N ∧ cntB bs < N) ∨ (st.tell (cutX i t s m) = ([], false, 0) ∧ (cntB (bs.set m true) < N ∨ cntB bs = N))) := fun u hu hme hc => by
    obtain ⟨p1, p2, p3⟩ := und_put hu hl hN hN2 hs hs2 ht hm hme hlow
    cases hb : bs[m]? with
    | none => rw [List.getElem?_eq_none_iff] at hb; omega
    | some b =>
      cases b
      · have hcs := cnt_set bs m hb
        by_cases hcn : cntB bs + 1 = N
        · obtain ⟨e1, e2⟩ := p3 hb hcn
          exact ⟨Or.inr ⟨by omega, hmt, hni, Or.inr ⟨by omega, e2⟩⟩, Or.inl ⟨e1, by omega, hc⟩⟩
        · obtain ⟨e1, e2⟩ := p2 hb (by omega)
          exact ⟨Or.inr ⟨by omega, hmt, hni, Or.inl ⟨by omega, e2⟩⟩, Or.inr ⟨e1, Or.inl (by omega)⟩⟩
      · obtain ⟨e1, e2⟩ := p1 hb
        have hbs : bs.set m true = bs := by
          apply List.ext_getElem?
          intro k
          by_cases hk : k = m
          · subst hk; rw [List.getElem?_set_self (by omega), hb]
          · rw [List.getElem?_set_ne (by omega)]
        rw [hbs]
        refine ⟨Or.inr ⟨by omega, hmt, hni, Or.inl ⟨hc, by rw [e2]; exact hu⟩⟩, Or.inr ⟨e1, Or.inl hc⟩⟩
  rcases h with ⟨h0, hb0, h1, h2⟩ | ⟨h0, h1, h2, h3⟩
  · subst hb0
    refine under _ (und_none i t s N) ?_ (by rw [cnt_none]; omega)
    exact if_pos (Or.inr (by rw [cut_i]; exact h2))
  · rcases h3 with ⟨hc, hu⟩ | ⟨hc, hu⟩
    · refine under st hu ?_ hc
      refine if_neg ?_
      rintro (e | e)
      · rw [h1] at e; cases e
      · rw [cut_i] at e; omega
    · have hst : (st.meet (cutX i t s m)).stop (cutX i t s m) = true := by
        have : st.meet (cutX i t s m) = st := if_neg (by
          rintro (e | e)
          · rw [h1] at e; cases e
          · rw [cut_i] at e; omega)
        rw [this, hu]; rfl
      have hme : st.meet (cutX i t s m) = st := if_neg (by
          rintro (e | e)
          · rw [h1] at e; cases e
          · rw [cut_i] at e; omega)
      obtain ⟨e1, e2⟩ := tell_stop hx hlow hst
      have hall := cnt_all bs (by omega)
      have hbs : bs.set m true = bs := by
        apply List.ext_getElem?
        intro k
        by_cases hk : k = m
        · subst hk; rw [List.getElem?_set_self (by omega), hall k (by omega)]
        · rw [List.getElem?_set_ne (by omega)]
      rw [hbs]
      exact ⟨Or.inr ⟨by omega, hmt, hni, Or.inr ⟨hc, by rw [e2, hme]; exact hu⟩⟩, Or.inr ⟨e1, Or.inr hc⟩⟩
theorem come_len {i s N j : Nat} {t : List Nat} {bs : List Bool} {st : Js} (h : Come i t s N j bs st) (hj : 0 < j) : st.l.length ≤ N := by
  rcases h with ⟨h0, _⟩ | ⟨_, _, _, ⟨hc, hu⟩ | ⟨_, hu⟩⟩
  · omega
  · rw [hu.len]; omega
  · rw [hu]; simp [Js.over]

theorem ks_other {w wr w' : World} {g gj gc : Nat} {ks : List Pk} {s : Js} {vs : List Value} (h : KS w wr g gj ks s) (hg : wr.grownBy w' (some gc)) (hA : Arr wr gc 4 vs) (hl : w.heap.size ≤ gc) : KS w w' g gj ks s := by
  have hne1 : gc ≠ g := arr_ne hA h.a (by decide)
  obtain ⟨⟨q, ks', hj, hm⟩, hz⟩ := h.j
  have hne2 : gc ≠ gj := arr_ne hA hj.j (by decide)
  refine ⟨h.a.keptR hg (by simpa using hne1), ⟨⟨q, ks', hj.row hA (by decide) hne2 hg, hm⟩, hz⟩, fun k hk => ?_, h.b.grown hg h.b.size (fun j hj => by cases hj; exact hl), h.l⟩
  have h2 := (h.e k hk).2.keptR hg hA (by decide)
  exact ⟨⟨h2.1.1, (h.e k hk).1.2⟩, h2⟩
theorem set_same {bs : List Bool} {a : Nat} (h : bs[a]? = some true) : bs.set a true = bs := by
  apply List.ext_getElem?
  intro k
  by_cases hk : k = a
  · subst hk
    have hl : k < bs.length := (List.getElem?_eq_some_iff.1 h).1
    rw [List.getElem?_set_self hl, h]
  · rw [List.getElem?_set_ne (by omega)]

set_option maxHeartbeats 8000000 in
set_option maxRecDepth 100000 in
theorem walk_ok (i k s n N lo ol c oc c4 : Nat) (p op p4 : Option Addr) (xs old : List Nat) (os : List Int) (w : World) (hik : i = k + 1) (hi2 : i < 18446744073709551616) (hx : Piece w p c xs) (hn : xs.length = n) (ho : IPiece w op oc os) (hlo : os.length = lo) (h4 : Piece w p4 c4 old) (hol : old.length = ol)
    (hn3 : n ≤ 3000) (hlo4 : lo ≤ 400) (hol1 : ol ≤ 1000) (s1 : 1 ≤ s) (s2 : s ≤ 1100) (hq : (n + s - 1) / s ≤ 256) (hN : cutN n s = N) :
    Calls Try.prog 7 #[.int .u64 (i : Int), .slice p n c, .int .i64 (s : Int), .slice op lo oc, .slice p4 ol c4] w fun e w' => e = .returned (.bool true) ∧ Below w.heap.size w w' := by
  have HK := hide (known_any w)
  have HX := hide hx
  have HN := hide hn
  have HO := hide ho
  have HLO := hide hlo
  have H4 := hide h4
  have HOL := hide hol
  have HIK := hide hik
  have hi0 : ((i : Int) == 0) = false := by simp; omega
  have hk1 : (i : Int) - 1 = (k : Int) := by omega
  have hn3' : ¬ (3000 : Int) < (n : Int) := by omega
  have hlo' : ¬ (400 : Int) < (lo : Int) := by omega
  have hol' : ¬ (1000 : Int) < (ol : Int) := by omega
  have HC := hide (fun v (hp : Piece v p c xs) => pcut_ok i n s N xs p c v hp HN.out s1 s2 (by omega) hq hN)
  have HNN := hide hN
  have hN0 : 0 < N := by rw [← hN]; exact cutN_pos n s (by omega)
  have hN1 : N ≤ 256 := by
    rw [← hN, cutN]
    split <;> omega
  clear hx hn ho hlo h4 hol hik hq hN
  go_enter Try.func7, Try.ntmps7
  go_wp2_with fail
  refine HK.out.mono ?_
  rintro e w1 ⟨rfl, hb⟩
  have B1 := hide hb
  clear hb HK
  go_wp2_with fail
  refine (HC.out w1 (HX.out.kept B1.out)).mono ?_
  rintro e w2 ⟨g, ks, rfl, hgl, hA, hkl, hcut, hb⟩
  have A2 := hide hA
  have HKL := hide hkl
  have E2 : Hid (∀ y ∈ ks, Piece w2 y.p y.c y.x.b ∧ OB w2 w.heap.size y.p y.x.b) := fun y hy => by
    obtain ⟨m, hm⟩ := List.getElem?_of_mem hy
    have hmN : m < N := by
      rw [← hkl]
      exact (List.getElem?_eq_some_iff.1 hm).1
    obtain ⟨y', h1, h2⟩ := hcut m hmN
    rw [hm] at h1
    cases h1
    exact ⟨h2.2.1, h2.2.2.from B1.out.size⟩
  have HXM : Hid (∀ m, m < N → ∃ y, ks[m]? = some y ∧ y.x = cutX i xs s m) := fun m hm => by
    obtain ⟨y, h1, h2⟩ := hcut m hm
    exact ⟨y, h1, h2.1⟩
  have B2 := hide (B1.out.trans (hb.mono B1.out.size))
  clear hA hkl hcut hb hgl B1 HC
  go_wp2_with fail
  refine (new_any w2).mono ?_
  rintro e w3 ⟨gj, rfl, hgj, hj, hb⟩
  have K3 : Hid (KS w w3 g gj ks Js.none) := ⟨A2.out.kept hb, hj, fun k hk => ⟨(E2.out k hk).1.kept hb, (E2.out k hk).2.kept hb⟩, B2.out.trans (hb.mono B2.out.size), Nat.le_trans B2.out.size hgj⟩
  clear hgj hj hb A2 E2 B2
  have hNe : ((N : Int) == 0) = false := by simp; omega
  obtain ⟨y0, hy0⟩ : ∃ y : Pc, y = ⟨k, 1, false, old⟩ := ⟨_, rfl⟩
  have HG0 := hide (ks_give K3.out y0 p4 (c := c4) (n := 0) (by rw [hy0]; exact H4.out.kept K3.out.b) (by rw [hy0]; exact apt_low H4.out K3.out.l) ⟨Nat.zero_le _, Nat.zero_le _, Nat.zero_le _⟩ (by omega))
  have HY0 : Hid ((Js.none.next y0).met = true ∧ (Js.none.next y0).i < i) := by
    have he : y0.e = 0 := by
      rw [hy0]
      unfold Pc.e
      rw [if_neg (show ¬ ((1 : Int) < 0 ∨ (255 : Int) < 1) by omega), if_neg (by show ¬ 1100 < old.length; have := HOL.out; omega)]
    refine ⟨next_met he, ?_⟩
    rw [next_i he (by rintro ⟨h, _⟩; cases h), hy0]
    have := HIK.out
    show k < i
    omega
  have hv0 : pcV y0 p4 c4 = .agg #[.int .u64 (k : Int), .int .i64 1, .bool false, .slice p4 ol c4] := by rw [hy0, ← HOL.out]
  rw [hv0] at HG0
  clear hy0 hv0
  go_wp2_with fail
  refine HG0.out.mono ?_
  rintro e w4 ⟨⟨v4, rfl⟩, hk4, hf4, _⟩
  have K4 := hide hk4
  have F4 := hide hf4
  clear hk4 hf4 HG0 K3
  generalize Js.none.next y0 = st0 at *
  go_wp2_with (at_make; refine wpList_make_bool rfl (.tmp 70) (.tmp 70) rfl N rfl rfl (by omega) ?_)
  intro w5 hA hb
  have A5 := hide hA
  have K5 := hide (K4.out.kept hb)
  have hgne : Hid (w4.heap.size ≠ gj) := by
    obtain ⟨vs, hv⟩ := K4.out.j.arr
    have := hv.lt
    show _ ≠ _
    omega
  obtain ⟨gc, hgc⟩ : ∃ gc, w4.heap.size = gc := ⟨_, rfl⟩
  have HGC : Hid (w.heap.size ≤ gc) := by show _ ≤ _; rw [← hgc]; exact K4.out.b.size
  rw [hgc] at A5 hgne
  simp only [hgc]
  clear hA hb K4 hgc
  go_wp2_with fail
  have C5 : Hid (Come i xs s N 0 (List.replicate N false) st0) := Or.inl ⟨rfl, rfl, HY0.out.1, HY0.out.2⟩
  clear HY0
  go_loopg [15, 16, 17] (lo + N + 1) (fun f s15 s16 s17 wr => ∃ (j L td : Nat) (bs : List Bool) (st : Js), s17 = .int .i64 (j : Int) ∧ s15 = .int .i64 (L : Int) ∧ s16 = .int .i64 (td : Int) ∧ j ≤ lo + N ∧ lo + N - j < f ∧ L ≤ N ∧ td ≤ 1 ∧
    Hid (bs.length = N) ∧ Hid (L + cntB bs = N) ∧ Hid (td = if L = 0 then 1 else 0) ∧ Hid (Arr wr gc 4 (bls bs)) ∧ Hid (KS w wr g gj ks st) ∧ Hid (st.fits (2 * j + 1)) ∧ Hid (Come i xs s N j bs st) ∧ Hid (∀ m, m < N → m + lo < j → bs[m]? = some true))
  case atStart => exact ⟨0, N, 0, List.replicate N false, st0, rfl, rfl, rfl, by omega, by omega, by omega, by omega, hide (by simp), hide (by rw [cnt_none]; rfl), hide (by rw [if_neg (by omega)]), A5, K5, F4, C5, hide (fun m _ h => by omega)⟩
  case round =>
    obtain ⟨j, L, td, bs, st, rfl, rfl, rfl, hj, hf, hL, htd, HBL, HCN, HTD, HA, HKS, HF, HCM, HAL⟩ := hrel
    by_cases hjn : j < lo + N
    · go_upto_if 90 with fail
      go_cut [18] (fun s18 wc => ∃ a : Nat, s18 = .int .i64 (a : Int) ∧ a < N ∧ Hid (j < lo ∨ a + lo = j) ∧ wc = wr)
      case first =>
        by_cases hjl : j < lo
        · obtain ⟨bo, oo, rfl, hcell⟩ := (HO.out.kept HKS.out.b).cell (by rw [HLO.out]; omega)
          have co := hcell j (by rw [HLO.out]; exact hjl)
          generalize os.getD j 0 = o at *
          obtain ⟨z, hz⟩ : ∃ z : Nat, IntKind.u64.wrap o = (z : Int) := ⟨(IntKind.u64.wrap o).toNat, by
            rw [(show ∀ n : Int, IntKind.u64.wrap n = n % 18446744073709551616 from fun n => by simp [IntKind.wrap, IntKind.bits, IntKind.signed])]; omega⟩
          have hNw : IntKind.u64.wrap (N : Int) = (N : Int) := by
            rw [(show ∀ n : Int, IntKind.u64.wrap n = n % 18446744073709551616 from fun n => by simp [IntKind.wrap, IntKind.bits, IntKind.signed])]; omega
          obtain ⟨a, ha⟩ : ∃ a, z % N = a := ⟨_, rfl⟩
          have haN : a < N := by rw [← ha]; exact Nat.mod_lt _ hN0
          have hr1 : (z : Int) % (N : Int) = (a : Int) := by rw [← ha, Int.natCast_emod]
          have hr2 : Int.tmod (z : Int) (N : Int) = (a : Int) := by rw [Int.tmod_eq_emod_of_nonneg (by omega), hr1]
          have hNe' : ((N : Int) == 0) = false := hNe
          clear ha hcell
          have hjl' : (j : Int) < (lo : Int) := by omega
          go_wp2
          go_meet
          case rel => exact ⟨a, rfl, haN, Or.inl hjl, rfl⟩
        · go_wp2
          go_meet
          case rel => exact ⟨j - lo, by simp; omega, by omega, Or.inr (by omega), rfl⟩
      case rest =>
        obtain ⟨a, rfl, haN, HAJ, rfl⟩ := hcut
        obtain ⟨bv, hbv⟩ : ∃ b, bs[a]? = some b := ⟨bs[a]'(by rw [HBL.out]; exact haN), List.getElem?_eq_getElem _⟩
        have HBV := hide hbv
        have ca := HA.out.cell a
        have fa := HA.out.frozen a
        rw [bls_at hbv] at ca
        clear hbv
        go_upto_if 105 with fail
        go_cut [15] (fun s15 wd => ∃ L' : Nat, s15 = .int .i64 (L' : Int) ∧ L' ≤ L ∧ Hid (L' + cntB (bs.set a true) = N) ∧ Hid (Arr wd gc 4 (bls (bs.set a true))) ∧ Hid (KS w wd g gj ks st))
        case first =>
          cases bv
          · have hcs := cnt_set bs a HBV.out
            have hle := cnt_le (bs.set a true)
            rw [List.length_set, HBL.out] at hle
            have hL1 : 1 ≤ L := by have := HCN.out; omega
            have HCS := hide hcs
            clear hcs hle
            go_wp2
            go_meet
            case rel =>
              refine ⟨L - 1, by simp; omega, by omega, hide (by have := HCN.out; have := HCS.out; omega), ?_, ?_⟩
              · have h := HA.out.set a (.bool true)
                rw [bls_set] at h
                exact h
              · exact ks_other HKS.out ⟨rfl, rfl, rfl, by simp, fun k _ hk => heap_setCell_other _ ⟨gc, a, none⟩ k _ (fun e => hk (by simp [e]))⟩ HA.out HGC.out
          · go_wp2
            go_meet
            case rel => exact ⟨L, rfl, Nat.le_refl _, by rw [set_same HBV.out]; exact HCN, by rw [set_same HBV.out]; exact HA, HKS⟩
        case rest =>
          obtain ⟨L', rfl, hLL, HCN2, HA2, HKS2⟩ := hcut
          obtain ⟨y, hy, hyx⟩ := HXM.out a haN
          have HY := hide (HKS2.out.at hy)
          have HT := hide (ks_take HKS2.out (List.mem_of_getElem? hy) HF.out (by omega))
          rw [hyx] at HT
          have HP := hide (come_put HCM.out HBL.out (by rw [HN.out]; exact HNN.out) hN1 s1 s2 (by rw [HN.out]; exact hn3) haN)
          have HNX : Hid (∀ m, m < N → m + lo < j + 1 → (bs.set a true)[m]? = some true) := fun m hm h => by
            by_cases hma : m = a
            · subst hma
              rw [List.getElem?_set_self (by rw [HBL.out]; exact hm)]
            · rw [List.getElem?_set_ne (by omega)]
              refine HAL.out m hm ?_
              have := HAJ.out
              omega
          clear hy hyx ca fa HA HKS HF HCM HAL HAJ HBV
          go_wp2_with (refine wpList_exec (by rfl) _ (exec_load_mid 25 (.tmp 115) rfl g (a * 4) rfl y.C _ HY.out Try.underlying25 rfl infoPc) ?_)
          refine HT.out.mono ?_
          rintro e wq ⟨qa, da, rfl, hbr, hk6, hf6, hg6⟩
          have K6 := hide hk6
          have F6 := hide hf6
          have A6 := hide (HA2.out.keptR hg6 (by have := hgne.out; simpa using fun e => this e.symm))
          have C6 := hide HP.out.1
          have HST : Hid ((st.next (cutX i xs s a)).met = true ∧ (st.next (cutX i xs s a)).i = i) := by
            rcases C6.out with ⟨h, _⟩ | ⟨_, h1, h2, _⟩
            · omega
            · exact ⟨h1, h2⟩
          have HLN := hide (come_len C6.out (Nat.succ_pos j))
          have HBR := hide hbr
          have HP2 := hide HP.out.2
          clear hk6 hf6 hg6 hbr HT HA2 HKS2 HP HY
          generalize st.next (cutX i xs s a) = st2 at *
          obtain ⟨y1, hy1⟩ : ∃ y : Pc, y = ⟨k, 0, true, old⟩ := ⟨_, rfl⟩
          have HG1 := hide (fun (v : World) (hb : Below wq.heap.size wq v) => ks_give (K6.out.kept hb) y1 p4 (c := c4) (by rw [hy1]; exact H4.out.kept (K6.out.kept hb).b) (by rw [hy1]; exact apt_low H4.out K6.out.l) F6.out (by omega))
          have HLOW := hide (next_low (s := st2) (x := y1) HST.out.1 (by rw [hy1, HST.out.2]; have := HIK.out; show k < i; omega))
          have hv1 : pcV y1 p4 c4 = .agg #[.int .u64 (k : Int), .int .i64 0, .bool true, .slice p4 ol c4] := by rw [hy1, ← HOL.out]
          rw [hv1] at HG1
          simp only [HLOW.out] at HG1
          clear hy1 hv1 HLOW
          rcases HP2.out with ⟨e1, e2, e3⟩ | ⟨e1, e2⟩
          · rw [e1] at HBR ⊢
            have hL0 : L' = 0 := by have := HCN2.out; omega
            have hLp : L ≠ 0 := by have := HCN.out; omega
            obtain rfl : td = 0 := by rw [HTD.out, if_neg hLp]
            subst hL0
            have hc1 := conv_any HBR.out.1 (c := da) n HN.out
            have hc2 := conv_any (HX.out.kept K6.out.b).1 (c := c) n HN.out
            simp only [HN.out]
            generalize strF xs = sx at *
            clear e1 e2 e3 HP2 HTD HBR hLp
            go_wp2_with fail
            refine (HG1.out wq (Below.refl _ _)).mono ?_
            rintro e wr2 ⟨⟨v7, rfl⟩, hk7, hf7, hg7⟩
            have K7 := hide hk7
            have F7 := hide hf7
            have A7 := hide (A6.out.keptR hg7 (by have := hgne.out; simpa using fun e => this e.symm))
            have HH := hide (hld_any wr2 gj _ st2 K7.out.j F7.out)
            have hl7 : (st2.l.length : Int) ≤ 256 := by have := HLN.out; omega
            have hz7 : (sizeL st2.l : Int) ≤ 65536 := by have := F7.out.1; omega
            generalize st2.l.length = ln7 at *
            generalize sizeL st2.l = sz7 at *
            have hl8 : ¬ (256 : Int) < (ln7 : Int) := by omega
            have hz8 : ¬ (65536 : Int) < (sz7 : Int) := by omega
            clear hk7 hf7 hg7 HG1 A6 K6 F6
            go_wp2_with fail
            refine HH.out.mono ?_
            rintro e wr3 ⟨rfl, hb⟩
            have K8 := hide (K7.out.kept hb)
            have A8 := hide (A7.out.kept hb)
            clear hb HH K7 A7
            go_wp2
            go_roundg (lo + N - j)
            case measure => omega
            case rel => exact ⟨j + 1, 0, 1, bs.set a true, st2, by simp, rfl, by simp, by omega, by omega, by omega, by omega, hide (by rw [List.length_set, HBL.out]), HCN2, hide (by first | rfl | (rw [if_neg (by omega)])), A8, K8, F7, C6, HNX⟩
          · rw [e1]
            rcases e2 with e2 | e2
            · have hLp : 0 < L' := by have := HCN2.out; omega
              obtain rfl : td = 0 := by rw [HTD.out, if_neg (by omega)]
              have hL0 : ((L' : Int) == 0) = false := by simp; omega
              clear e1 e2 HP2 HTD HBR
              simp only [List.length_nil]
              go_wp2_with fail
              refine (HG1.out wq (Below.refl _ _)).mono ?_
              rintro e wr2 ⟨⟨v7, rfl⟩, hk7, hf7, hg7⟩
              have K7 := hide hk7
              have F7 := hide hf7
              have A7 := hide (A6.out.keptR hg7 (by have := hgne.out; simpa using fun e => this e.symm))
              have HH := hide (hld_any wr2 gj _ st2 K7.out.j F7.out)
              have hl7 : (st2.l.length : Int) ≤ 256 := by have := HLN.out; omega
              have hz7 : (sizeL st2.l : Int) ≤ 65536 := by have := F7.out.1; omega
              generalize st2.l.length = ln7 at *
              generalize sizeL st2.l = sz7 at *
              have hl8 : ¬ (256 : Int) < (ln7 : Int) := by omega
              have hz8 : ¬ (65536 : Int) < (sz7 : Int) := by omega
              clear hk7 hf7 hg7 HG1 A6 K6 F6
              go_wp2_with fail
              refine HH.out.mono ?_
              rintro e wr3 ⟨rfl, hb⟩
              have K8 := hide (K7.out.kept hb)
              have A8 := hide (A7.out.kept hb)
              clear hb HH K7 A7
              go_wp2
              go_roundg (lo + N - j)
              case measure => omega
              case rel => exact ⟨j + 1, L', 0, bs.set a true, st2, by simp, rfl, rfl, by omega, by omega, by omega, by omega, hide (by rw [List.length_set, HBL.out]), HCN2, hide (by first | rfl | (rw [if_neg (by omega)])), A8, K8, F7, C6, HNX⟩
            · have hL0 : L = 0 := by have := HCN.out; omega
              obtain rfl : td = 1 := by rw [HTD.out, if_pos hL0]
              obtain rfl : L' = 0 := by omega
              clear e1 e2 HP2 HTD HBR
              simp only [List.length_nil]
              go_wp2_with fail
              refine (HG1.out wq (Below.refl _ _)).mono ?_
              rintro e wr2 ⟨⟨v7, rfl⟩, hk7, hf7, hg7⟩
              have K7 := hide hk7
              have F7 := hide hf7
              have A7 := hide (A6.out.keptR hg7 (by have := hgne.out; simpa using fun e => this e.symm))
              have HH := hide (hld_any wr2 gj _ st2 K7.out.j F7.out)
              have hl7 : (st2.l.length : Int) ≤ 256 := by have := HLN.out; omega
              have hz7 : (sizeL st2.l : Int) ≤ 65536 := by have := F7.out.1; omega
              generalize st2.l.length = ln7 at *
              generalize sizeL st2.l = sz7 at *
              have hl8 : ¬ (256 : Int) < (ln7 : Int) := by omega
              have hz8 : ¬ (65536 : Int) < (sz7 : Int) := by omega
              clear hk7 hf7 hg7 HG1 A6 K6 F6
              go_wp2_with fail
              refine HH.out.mono ?_
              rintro e wr3 ⟨rfl, hb⟩
              have K8 := hide (K7.out.kept hb)
              have A8 := hide (A7.out.kept hb)
              clear hb HH K7 A7
              go_wp2
              go_roundg (lo + N - j)
              case measure => omega
              case rel => exact ⟨j + 1, 0, 1, bs.set a true, st2, by simp, rfl, rfl, by omega, by omega, by omega, by omega, hide (by rw [List.length_set, HBL.out]), HCN2, hide (by first | rfl | (rw [if_neg (by omega)])), A8, K8, F7, C6, HNX⟩
    · have e : j = lo + N := by omega
      subst e
      have hall : cntB bs = N := by
        have h := cnt_of_all bs (fun m hm => HAL.out m (by rw [HBL.out] at hm; exact hm) (by rw [HBL.out] at hm; omega))
        rw [HBL.out] at h
        exact h
      have hL0 : L = 0 := by have := HCN.out; omega
      obtain rfl : td = 1 := by rw [HTD.out, if_pos hL0]
      go_wp2
      go_ret
      exact ⟨rfl, HKS.out.b⟩

set_option maxHeartbeats 4000000 in
set_option maxRecDepth 100000 in
theorem walk_out (i n lo ol c oc c4 : Nat) (s : Int) (p op p4 : Option Addr) (w : World) (h : i = 0 ∨ 3000 < n ∨ 400 < lo ∨ 1000 < ol) :
    Calls Try.prog 7 #[.int .u64 (i : Int), .slice p n c, .int .i64 s, .slice op lo oc, .slice p4 ol c4] w fun e w' => e = .returned (.bool true) ∧ Below w.heap.size w w' := by
  have HK := hide (known_any w)
  by_cases h0 : i = 0
  · subst h0
    clear h
    go_enter Try.func7, Try.ntmps7
    go_wp2_with fail
    refine HK.out.mono ?_
    rintro e w1 ⟨rfl, hb⟩
    go_wp2
    go_ret
    exact ⟨rfl, hb⟩
  have hi0 : ((i : Int) == 0) = false := by simpa using h0
  by_cases h1 : 3000 < n
  · have h1' : (3000 : Int) < (n : Int) := by omega
    clear h h1
    go_enter Try.func7, Try.ntmps7
    go_wp2_with fail
    refine HK.out.mono ?_
    rintro e w1 ⟨rfl, hb⟩
    go_wp2
    go_ret
    exact ⟨rfl, hb⟩
  have h1' : ¬ (3000 : Int) < (n : Int) := by omega
  by_cases h2 : 400 < lo
  · have h2' : (400 : Int) < (lo : Int) := by omega
    clear h h1 h2
    go_enter Try.func7, Try.ntmps7
    go_wp2_with fail
    refine HK.out.mono ?_
    rintro e w1 ⟨rfl, hb⟩
    go_wp2
    go_ret
    exact ⟨rfl, hb⟩
  have h2' : ¬ (400 : Int) < (lo : Int) := by omega
  have h3' : (1000 : Int) < (ol : Int) := by omega
  clear h h1 h2
  go_enter Try.func7, Try.ntmps7
  go_wp2_with fail
  refine HK.out.mono ?_
  rintro e w1 ⟨rfl, hb⟩
  go_wp2
  go_ret
  exact ⟨rfl, hb⟩

set_option maxHeartbeats 4000000 in
set_option maxRecDepth 100000 in
theorem walk_err (i n lo ol c oc c4 : Nat) (s E : Int) (p op p4 : Option Addr) (w : World) (h0 : i ≠ 0) (h1 : n ≤ 3000) (h2 : lo ≤ 400) (h3 : ol ≤ 1000) (hE : (E != 0) = true)
    (hC : ∀ v : World, Calls Try.prog 16 #[.int .u64 (i : Int), .slice p n c, .int .i64 s] v fun e w' => e = .returned (.tuple #[.slice none 0 0, .int .i64 E]) ∧ w' = v) :
    Calls Try.prog 7 #[.int .u64 (i : Int), .slice p n c, .int .i64 s, .slice op lo oc, .slice p4 ol c4] w fun e w' => e = .returned (.bool true) ∧ Below w.heap.size w w' := by
  have HK := hide (known_any w)
  have HC := hide hC
  have hi0 : ((i : Int) == 0) = false := by simpa using h0
  have h1' : ¬ (3000 : Int) < (n : Int) := by omega
  have h2' : ¬ (400 : Int) < (lo : Int) := by omega
  have h3' : ¬ (1000 : Int) < (ol : Int) := by omega
  clear hC h0
  go_enter Try.func7, Try.ntmps7
  go_wp2_with fail
  refine HK.out.mono ?_
  rintro e w1 ⟨rfl, hb⟩
  have HB := hide hb
  clear hb
  go_wp2_with fail
  refine (HC.out w1).mono ?_
  rintro e w2 ⟨rfl, rfl⟩
  go_wp2
  go_ret
  exact ⟨rfl, HB.out⟩

theorem walk (i : Int) (p : Option Addr) (c : Nat) (xs : List Nat) (s : Int) (op : Option Addr) (oc : Nat) (os : List Int) (p4 : Option Addr) (c4 : Nat) (old : List Nat) (w : World) (hi : (Lit.int .u64 i).wf = true) (hx : Piece w p c xs) (hs : (Lit.int .i64 s).wf = true) (ho : IPiece w op oc os) (h4 : Piece w p4 c4 old) :
    Calls Try.prog 7 #[.int .u64 i, .slice p xs.length c, .int .i64 s, .slice op os.length oc, .slice p4 old.length c4] w fun e w' => e = .returned (.bool true) ∧ Below w.heap.size w w' := by
  obtain ⟨i, rfl, hi2⟩ := wf_u64 hi
  by_cases hout : i = 0 ∨ 3000 < xs.length ∨ 400 < os.length ∨ 1000 < old.length
  · exact walk_out i _ _ _ c oc c4 s p op p4 w hout
  by_cases hsz : s < 1 ∨ 1100 < s
  · exact walk_err i _ _ _ c oc c4 s 2 p op p4 w (by omega) (by omega) (by omega) (by omega) rfl (fun v => pcut_arg i _ s p c v hsz)
  obtain ⟨s, rfl⟩ : ∃ m : Nat, s = (m : Int) := ⟨s.toNat, by omega⟩
  by_cases hq : 256 < (xs.length + s - 1) / s
  · exact walk_err i _ _ _ c oc c4 s 3 p op p4 w (by omega) (by omega) (by omega) (by omega) rfl (fun v => pcut_long i _ s p c v (by omega) (by omega) (Or.inr hq))
  obtain ⟨k, rfl⟩ : ∃ k, i = k + 1 := ⟨i - 1, by omega⟩
  exact walk_ok (k + 1) k s xs.length _ os.length old.length c oc c4 p op p4 xs old os w rfl hi2 hx rfl ho rfl h4 rfl (by omega) (by omega) (by omega) (by omega) (by omega) (by omega) rfl

theorem own : ownKnob Try.prog.godebug = none := by kernel_rfl
theorem laidOut : laidOutB Try.prog = true := by kernel_rfl
set_option maxRecDepth 100000 in
theorem lifted (os : Os) (started : os.Started) (H : Type) (enc : TypeId × Value → H) :
    ReturnsInHanded {} Try.checked os 7 .any (Rows.fragWholeSpec.pre6 enc Try.prog Try.f7 Rows.fragWholeRow.domain false) (Rows.fragWholeSpec.post enc Try.prog Try.f7 false true false false) := by
  refine returnsInHanded_of_change (C := Try.checked) own started (by kernel_rfl) Try.func7
    (ChangeSpec.witness6 (enc := enc) (C := Try.checked) false ⟨#[], #[.int .u64 0, .slice none 0 0, .int .i64 0, .slice none 0 0, .slice none 0 0], []⟩ 8 (by kernel_rfl) (by kernel_rfl) (by kernel_rfl) (by kernel_rfl)) ?_
  intro W base args ds gs before hval0 hW hcnd _
  have hval : ∀ (j : Nat) t v, Try.f7.params[j]? = some t → args[j]? = some v → Value.okWide Try.prog W .any base t v := hval0
  have hW' := hW
  obtain ⟨p, q, hA0, hV, rfl, hfz, hnd⟩ := hW
  have hA : DataW.TrodAll enc Try.prog W 0 (fun _ => true) true Try.f7.params.toList args.toList ds p := hA0
  rw [Try.params7] at hA hval
  obtain ⟨v0, vs0, d0, ds0, p0, q0, hargs, rfl, rfl, h0, r0⟩ := trodAll_cons hA
  obtain ⟨v1, vs1, d1, ds1, p1, q1, rfl, rfl, rfl, h1, r1⟩ := trodAll_cons r0
  obtain ⟨v2, vs2, d2, ds2, p2, q2, rfl, rfl, rfl, h2, r2⟩ := trodAll_cons r1
  obtain ⟨v3, vs3, d3, ds3, p3, q3, rfl, rfl, rfl, h3, r3⟩ := trodAll_cons r2
  obtain ⟨v4, vs4, d4, ds4, p4, q4, rfl, rfl, rfl, h4, r4⟩ := trodAll_cons r3
  obtain ⟨rfl, rfl, rfl⟩ := trodAll_nil r4
  obtain rfl : args = #[v0, v1, v2, v3, v4] := by cases args; simp_all
  obtain ⟨rfl, rfl⟩ := trodVars_none hV
  obtain ⟨a0, rfl, rfl, rfl, w0⟩ := open_int Try.underlying22 (hval 0 22 v0 rfl rfl) h0
  obtain ⟨a1, len1, cap1, rfl⟩ := okWide_slice Try.underlying23 (hval 1 23 v1 rfl rfl)
  have k1 := h1
  have lt1 : ∀ x ∈ p1, x.block < W.heap.size := by obtain ⟨m, hm⟩ := k1; exact DataW.trod_lt m _ _ _ hm
  obtain ⟨fuel1, hf1⟩ := h1
  obtain ⟨a1', cap1', x1, hcs1, w1⟩ := piece_of hf1
  simp [Value.cells] at hcs1
  obtain ⟨rfl, rfl, rfl⟩ := hcs1
  clear hf1
  obtain ⟨a2, rfl, rfl, rfl, w2⟩ := open_int Try.underlying3 (hval 2 3 v2 rfl rfl) h2
  obtain ⟨a3, len3, cap3, rfl⟩ := okWide_slice Try.underlying40 (hval 3 40 v3 rfl rfl)
  have k3 := h3
  have lt3 : ∀ x ∈ p3, x.block < W.heap.size := by obtain ⟨m, hm⟩ := k3; exact DataW.trod_lt m _ _ _ hm
  obtain ⟨fuel3, hf3⟩ := h3
  obtain ⟨a3', cap3', x3, hcs3, w3⟩ := ints_of hf3
  simp [Value.cells] at hcs3
  obtain ⟨rfl, rfl, rfl⟩ := hcs3
  clear hf3
  obtain ⟨a4, len4, cap4, rfl⟩ := okWide_slice Try.underlying23 (hval 4 23 v4 rfl rfl)
  have k4 := h4
  have lt4 : ∀ x ∈ p4, x.block < W.heap.size := by obtain ⟨m, hm⟩ := k4; exact DataW.trod_lt m _ _ _ hm
  obtain ⟨fuel4, hf4⟩ := h4
  obtain ⟨a4', cap4', x4, hcs4, w4⟩ := piece_of hf4
  simp [Value.cells] at hcs4
  obtain ⟨rfl, rfl, rfl⟩ := hcs4
  clear hf4
  clear hA0 hval0
  refine (walk a0 a1 cap1 x1 a2 a3 cap3 x3 a4 cap4 x4 W w0 w1 w2 w3 w4).mono fun e W' ⟨he, bel⟩ => ?_
  subst he
  exact ⟨_, rfl, _, _, _, [], _, [], hW', trodAll_mk1 (shut_bool Try.underlying4 _), (trodAll_cons_mk (shut_int Try.underlying22 w0) (trodAll_cons_mk (Below.trod laidOut (by kernel_rfl) (of_decide_eq_true (by kernel_rfl)) k1 bel lt1) (trodAll_cons_mk (shut_int Try.underlying3 w2) (trodAll_cons_mk (Below.trod laidOut (by kernel_rfl) (of_decide_eq_true (by kernel_rfl)) k3 bel lt3) (trodAll_cons_mk (Below.trod laidOut (by kernel_rfl) (of_decide_eq_true (by kernel_rfl)) k4 bel lt4) trodAll_mk0))))), rfl, bel.frame _, fun h => by cases h⟩

theorem over : Rows.fragWholeRow.holds Try.pinned (OpenSpec.ofChange Rows.fragWholeSpec) :=
  OpenClaim.holds_of_wide 7 Try.f7 rfl rfl rfl rfl rfl rfl rfl ⟨rfl, rfl, rfl, rfl, rfl⟩ rfl rfl rfl rfl rfl (by kernel_rfl) Try.func7 (by kernel_rfl)
    (of_decide_eq_true (by kernel_rfl)) (by unfold Func.isWrapper; first | (rw [if_pos (by decide +kernel)]; kernel_rfl) | (rw [if_neg (by decide +kernel)]; exact ⟨rfl, rfl⟩))
    (fun os started H enc _ => lifted os started H enc)

end FragWholeProof

/-- In whatever order a text's pieces come, and however often, it is told just once, as it was. -/
theorem fragWhole_holds : Rows.FragWholeSaid := FragWholeProof.over

#print axioms fragWhole_holds
end Go.Proofs.Ytecpnnnkkofejaa
