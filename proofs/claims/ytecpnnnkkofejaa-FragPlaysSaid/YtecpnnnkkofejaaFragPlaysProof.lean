/-
  FragPlays: a joiner tells of any pieces, in whatever order, what the document says, and what it holds; a copy goes its own way: the law returns true. No condition.
-/
import Derived.Test.YtecpnnnkkofejaaGZ
import Derived.Test.YtecpnnnkkofejaaGX
namespace Go.Proofs.Ytecpnnnkkofejaa
namespace FragPlaysProof
open Go.ChangeShapes Go.WideShapes Go.ChangeAt Go.WideMaps Go.WideElems Go.RowKit Go.Maps
set_option linter.unusedVariables false
set_option linter.unusedSimpArgs false

theorem apt_low {w : World} {p : Option Addr} {c g : Nat} {b : List Nat} (h : Piece w p c b) (hg : w.heap.size ≤ g) : Apt p b g := by
  intro a ha hn e
  rcases h.1 with h0 | ⟨g', o, hp, hc⟩
  · exact hn h0
  · rw [ha] at hp
    cases hp
    have := block_lt_of_cell (hc 0 (List.length_pos_iff.2 hn))
    simp only at e this
    omega
theorem rp_none {w : World} {B g : Nat} (h : Arr w g 45 [.bool false, .bool false, .int .u64 0, .int .i64 0, .slice none 0 0]) : RP w B g Js.none :=
  ⟨none, 0, [], ⟨h, World.ownsRow_nil _ _ _ _, fun k hk => by cases hk⟩, rfl⟩
theorem ob_grow {w w' : World} {S : Nat → Prop} {B : Nat} {p : Option Addr} {b : List Nat} (h : OB w B p b) (hg : Grow w w' S) (hS : ∀ k, S k → ∀ cs fr, w.heap[k]? ≠ some (.cells cs 5 fr)) : BR w' p b := by
  refine ⟨?_, h.1.2⟩
  by_cases hn : b = []
  · exact Or.inl hn
  rcases h.1.1 with h0 | ⟨g, o, rfl, hc⟩
  · exact Or.inl h0
  · obtain ⟨_, cs, fr, h2⟩ := h.2 _ rfl hn
    refine Or.inr ⟨g, o, rfl, fun i hi => ?_⟩
    have h1 := hc i hi
    rw [World.cell?_of_block (w := w) (hg.block g (block_lt_of_cell h1) (fun hs => hS g hs cs fr h2))]
    exact h1
theorem grow_below {w w' : World} {S : Nat → Prop} {B : Nat} (h : Grow w w' S) (hB : B ≤ w.heap.size) (hS : ∀ k, S k → B ≤ k) : Below B w w' :=
  ⟨h.os, h.tape, h.output, h.size, fun k hk => h.block k (by omega) (fun hs => by have := hS k hs; omega)⟩
theorem rp_arr {w : World} {B g : Nat} {s : Js} (h : RP w B g s) : ∃ q d, Arr w g 45 [.bool s.met, .bool s.done, .int .u64 (s.i : Int), .int .i64 (s.must : Int), .slice q s.l.length d] := by
  obtain ⟨q, d, ks, h1, h2⟩ := h
  have h3 := h1.j
  rw [show ks.length = s.l.length by rw [← h2, List.length_map]] at h3
  exact ⟨q, d, h3⟩
theorem pp_arr {w : World} {g : Nat} {s : Js} (h : PP w g s) : ∃ q, Arr w g 55 [.int .u64 (s.i : Int), .bool s.done, .int .i64 (s.must : Int), .map q] := by
  obtain ⟨⟨q, ks, h1, _⟩, _⟩ := h
  exact ⟨q, h1.j⟩
theorem arr_type {w : World} {g : Nat} {t t' : TypeId} {vs : List Value} {cs : Array Value} {fr : Nat × Nat} (h : Arr w g t vs) (ht : t ≠ t') : w.heap[g]? ≠ some (.cells cs t' fr) := fun e => by
  unfold Arr at h
  rw [h] at e
  simp at e
  exact ht e.2.1
theorem rsize_any (w : World) (B g n : Nat) (s : Js) (h : RP w B g s) (hf : s.fits n) (hn : n ≤ 5000) : Calls Try.prog 24 #[.pointer (some ⟨g, 0, none⟩)] w fun e w' => e = .returned (.int .i64 (sizeL s.l : Int)) ∧ w' = w := by
  obtain ⟨q, d, ks, h1, h2⟩ := h
  have hl : ks.length = s.l.length := by rw [← h2, List.length_map]
  exact size_any w B g _ d _ _ _ _ _ q ks h1 rfl (by have := hf.2.2; omega) (by rw [sum_map, h2]) (by have := hf.1; omega)
set_option maxHeartbeats 1000000 in
set_option maxRecDepth 100000 in
theorem own_block_ty {w : World} {B : Nat} {v : Value} {n : Nat} {xs : List Value} (h : w.ownsRow B 5 1 v n xs) : ∀ k, v.ownBlock = some k → ∃ cs fr, w.heap[k]? = some (.cells cs 5 fr) := by
  intro k hk
  rcases h.2 with ⟨rfl, _⟩ | ⟨g, cap, cur, rfl, _, hg, _⟩
  · simp [Value.ownBlock] at hk
  · simp [Value.ownBlock] at hk
    subst hk
    exact ⟨_, _, hg⟩

def otT : List Nat := [111, 116, 104, 101, 114]
def moT : List Nat := [109, 111, 114, 101]
theorem ot_bytes : BytesN otT := by intro x hx; simp only [otT, List.mem_cons, List.not_mem_nil, or_false] at hx; omega
theorem mo_bytes : BytesN moT := by intro x hx; simp only [moT, List.mem_cons, List.not_mem_nil, or_false] at hx; omega

/-- both joiners -/
structure Two (w wr : World) (gj gw : Nat) (st : Js) : Prop where
  p : PP wr gj st
  r : RP wr gw gw st
  b : Below w.heap.size w wr
  lj : w.heap.size ≤ gj
  lw : w.heap.size ≤ gw
theorem Two.kept {w wr w' : World} {gj gw : Nat} {st : Js} (h : Two w wr gj gw st) (hb : Below wr.heap.size wr w') : Two w w' gj gw st := ⟨h.p.kept hb, h.r.kept hb, h.b.trans (hb.mono h.b.size), h.lj, h.lw⟩

/-- .. and a copy -/
structure Tri (w wr : World) (gj g2 gw : Nat) (s st : Js) : Prop where
  o : PP wr gj s
  t : Two w wr g2 gw st
  l : w.heap.size ≤ gj
  n : gj ≠ g2
theorem Tri.kept {w wr w' : World} {gj g2 gw : Nat} {s st : Js} (h : Tri w wr gj g2 gw s st) (hb : Below wr.heap.size wr w') : Tri w w' gj g2 gw s st := ⟨h.o.kept hb, h.t.kept hb, h.l, h.n⟩
/-- the old one is put to -/
theorem tri_put {w wr : World} {gj g2 gw n c : Nat} {s st : Js} (h : Tri w wr gj g2 gw s st) (y : Pc) (p : Option Addr) (hp : Piece wr p c y.b) (ha : Apt p y.b gj) (hf : s.fits n) (hn : n ≤ 5000) :
    Calls Try.prog 20 #[.pointer (some ⟨gj, 0, none⟩), pcV y p c] wr fun e w' => (∃ v, e = .returned v) ∧ Tri w w' gj g2 gw (s.next y) st ∧ (s.next y).fits (n + 1) := by
  obtain ⟨vs, hv⟩ := h.o.arr
  refine (put_any wr gj c n s y p h.o hp ha hf hn).mono ?_
  rintro e w' ⟨q, d, rfl, _, hj, hg⟩
  exact ⟨⟨_, rfl⟩, ⟨hj, ⟨h.t.p.beside hg hv h.n, h.t.r.put hg hv, h.t.b.grown hg h.t.b.size (fun k hk => by cases hk; exact h.l), h.t.lj, h.t.lw⟩, h.l, h.n⟩, next_fits hf _⟩
theorem apt_new {w : World} {b : List Nat} {gj : Nat} {s : Js} (h : PP w gj s) : Apt (some ⟨w.heap.size, 0, none⟩) b gj := by
  intro a ha _ e
  cases ha
  obtain ⟨vs, hv⟩ := h.arr
  have := hv.lt
  simp only at e
  omega

set_option maxHeartbeats 8000000 in
set_option maxRecDepth 100000 in
theorem walk_ok (N lo c oc : Nat) (p op : Option Addr) (xs : List Pk) (os : List Int) (w : World) (hx : PcsIn w p xs) (hn : xs.length = N) (ho : IPiece w op oc os) (hlo : os.length = lo) (hN : N ≤ 300) (hlo5 : lo ≤ 50) :
    Calls Try.prog 5 #[.slice p N c, .slice op lo oc] w fun e w' => e = .returned (.bool true) ∧ Below w.heap.size w w' := by
  have HK := hide (known_any w)
  have HX := hide hx
  have HN := hide hn
  have HO := hide ho
  have HLO := hide hlo
  have hN' : ¬ (300 : Int) < (N : Int) := by omega
  have hlo' : ¬ (50 : Int) < (lo : Int) := by omega
  clear hx hn ho hlo
  have kcv := hide (fun (w : World) (C : Array Value) (n c : Nat) => Lib.run_convert_bytes_const (P := Try.prog) w 23 5 C n c Try.underlying23 Try.underlying5)
  go_enter Try.func5, Try.ntmps5
  go_wp2_with fail
  refine HK.out.mono ?_
  rintro e w1 ⟨rfl, hb⟩
  have B1 := hide hb
  clear hb HK
  go_wp2_with fail
  have RA : Hid (∀ (wr : World) (j : Nat), Below w.heap.size w wr → j < N → ∃ (g o : Nat) (k : Pk), p = some ⟨g, o, none⟩ ∧ xs[j]? = some k ∧ wr.rangeAt g (o + j * 4) k.C ∧ PcIn wr k.x k.p k.c) := fun wr j hb hj => by
    obtain ⟨k, hk⟩ : ∃ k, xs[j]? = some k := ⟨xs[j]'(by rw [HN.out]; exact hj), List.getElem?_eq_getElem _⟩
    rcases HX.out.1 with h | ⟨g, o, hp, hr⟩
    · rw [h] at hk; simp at hk
    · have h1 := HX.out.2 k (List.mem_of_getElem? hk)
      exact ⟨g, o, k, hp, hk, fun t v hv => (hb.cell (block_lt_of_cell (hr j k hk t v hv))).trans (hr j k hk t v hv), h1.1, h1.2.1, h1.2.2.kept hb⟩
  go_loopg [5, 6] (N + 1) (fun f s5 s6 wr => ∃ (j m : Nat), s5 = .int .i64 (m : Int) ∧ s6 = .int .i64 (j : Int) ∧ j ≤ N ∧ N - j < f ∧ m ≤ 150000 ∧ Hid (∀ (i : Nat) (k : Pk), i < j → xs[i]? = some k → k.x.b.length ≤ 1200) ∧ wr = w1)
  case atStart => exact ⟨0, 0, rfl, rfl, by omega, by omega, by omega, hide (fun i k h _ => by omega), rfl⟩
  case round =>
    obtain ⟨j, m, rfl, rfl, hj, hf, hm, HS, rfl⟩ := hrel
    by_cases hjN : j < N
    · obtain ⟨g, o, k, rfl, hk, hr, _⟩ := RA.out wr j B1.out hjN
      have c3 := hr 3 _ rfl
      have HKJ := hide hk
      obtain ⟨l, hl⟩ : ∃ l, k.x.b.length = l := ⟨_, rfl⟩
      rw [hl] at c3
      have HL := hide hl
      clear hr hk hl
      generalize k.p = kp at *
      generalize k.c = kc at *
      by_cases hl1 : (1200 : Int) < (l : Int)
      · go_wp2
        go_ret
        exact ⟨rfl, B1.out⟩
      · have hl2 : (l : Int) ≤ 1200 := by omega
        by_cases hsum : (150000 : Int) < (m : Int) + (l : Int)
        · go_wp2
          go_ret
          exact ⟨rfl, B1.out⟩
        · go_wp2
          go_roundg (N - j)
          case measure => omega
          case rel =>
            refine ⟨j + 1, m + l, by simp, by simp, by omega, by omega, by omega, hide (fun i k' hi hk' => ?_), rfl⟩
            by_cases hij : i = j
            · subst hij
              rw [HKJ.out] at hk'
              cases hk'
              rw [HL.out]; omega
            · exact HS.out i k' (by omega) hk'
    · have e : j = N := by omega
      subst e
      have HSZ : Hid (∀ k ∈ xs, k.x.b.length ≤ 1200) := fun k hk => by
        obtain ⟨i, hi⟩ := List.getElem?_of_mem hk
        exact HS.out i k (by rw [← HN.out]; exact (List.getElem?_eq_some_iff.1 hi).1) hi
      clear HS hjN hf
      go_wp2_with fail
      refine (new_any wr).mono ?_
      rintro e w2 ⟨gj0, rfl, hgj, hj0, hb⟩
      have P2 := hide hj0
      have B2 := hide (B1.out.trans (hb.mono B1.out.size))
      have hl0 : Hid (w.heap.size ≤ gj0) := Nat.le_trans B1.out.size hgj
      clear hgj hj0 hb
      go_upto_region 14 with fail
      have T0 : Hid (Two w (w2.alloc (Obj.cells #[.bool false, .bool false, .int .u64 0, .int .i64 0, .slice none 0 0] 45)) gj0 w2.heap.size Js.none) :=
        ⟨P2.out.kept ((Below.refl _ _).alloc (Nat.le_refl _) _), rp_none (Arr.new w2 _ _), B2.out.alloc B2.out.size _, hl0.out, B2.out.size⟩
      generalize w2.alloc (Obj.cells #[.bool false, .bool false, .int .u64 0, .int .i64 0, .slice none 0 0] 45) = w3 at *
      generalize w2.heap.size = gw at *
      clear P2 B2 hl0
      go_wp2_with fail
      go_loopg [7, 9] (j + 1) (fun f s7 s9 wr => ∃ (i gj : Nat) (st : Js), s7 = .pointer (some ⟨gj, 0, none⟩) ∧ s9 = .int .i64 (i : Int) ∧ i ≤ j ∧ j - i < f ∧ Hid (Two w wr gj gw st) ∧ Hid (st.fits i))
      case atStart => exact ⟨0, gj0, Js.none, rfl, rfl, by omega, by omega, T0, hide ⟨Nat.zero_le _, Nat.zero_le _, Nat.zero_le _⟩⟩
      case round =>
        obtain ⟨i, gj, st, rfl, rfl, hi, hf, HT, HF⟩ := hrel
        by_cases hij : i < j
        · go_wp2_with fail
          go_loopg [7, 10] (lo + 1) (fun f s7 s10 wu => ∃ (t gj : Nat), s7 = .pointer (some ⟨gj, 0, none⟩) ∧ s10 = .int .i64 (t : Int) ∧ t ≤ lo ∧ lo - t < f ∧ Hid (Two w wu gj gw st))
          case atStart => exact ⟨0, gj, rfl, rfl, by omega, by omega, HT⟩
          case round =>
            obtain ⟨t, gj, rfl, rfl, ht, hf, HT⟩ := hrel
            by_cases htl : t < lo
            · obtain ⟨bo, oo, rfl, hcell⟩ := (HO.out.kept HT.out.b).cell (by rw [HLO.out]; omega)
              have co := hcell t (by rw [HLO.out]; exact htl)
              generalize os.getD t 0 = ov at *
              clear hcell
              cases hoi : (ov == (i : Int))
              · go_wp2
                go_roundg (lo - t)
                case measure => omega
                case rel => exact ⟨t + 1, gj, rfl, by simp, by omega, by omega, HT⟩
              · have hgne : st.fits i := HF.out
                go_wp2_with fail
                refine (copy_any wr gj st HT.out.p).mono ?_
                rintro e wa ⟨g2, rfl, hg2, hp2, hb⟩
                have TA : Hid (Tri w wa gj g2 gw st st) := ⟨HT.out.p.kept hb, ⟨hp2, HT.out.r.kept hb, HT.out.b.trans (hb.mono HT.out.b.size), Nat.le_trans HT.out.b.size hg2, HT.out.lw⟩, HT.out.lj, by
                  obtain ⟨vs, hv⟩ := HT.out.p.arr
                  have := hv.lt
                  omega⟩
                clear hg2 hp2 hb HT hgne
                have kc := kcv.out
                go_wp2_with fail
                have hP : Piece (wa.alloc (Obj.cells (u8s otT).toArray 5 (5, 6))) (some ⟨wa.heap.size, 0, none⟩) 5 otT := piece_lit (heap_alloc_new wa _) ot_bytes (by decide) (by decide)
                have hA := apt_new (b := otT) TA.out.o
                refine (tri_put (TA.out.kept ((Below.refl _ _).alloc (Nat.le_refl _) _)) ⟨18446744073709551615, 0, true, otT⟩ (some ⟨wa.heap.size, 0, none⟩) (c := 5) (n := i) hP hA HF.out (by omega)).mono ?_
                rintro e wb ⟨⟨v, rfl⟩, ht2, hf2⟩
                have TB := hide ht2
                have FB := hide hf2
                generalize st.next ⟨18446744073709551615, 0, true, otT⟩ = st1 at *
                clear hP hA ht2 hf2 TA
                obtain ⟨g, o, k, rfl, hk, hr, _⟩ := RA.out wb i TB.out.t.b hij
                have c0 := hr 0 _ rfl
                rw [Nat.add_zero] at c0
                generalize k.x.i = ki at *
                clear hk hr
                go_wp2_with fail
                have hP : Piece (wb.alloc (Obj.cells (u8s moT).toArray 5 (4, 5))) (some ⟨wb.heap.size, 0, none⟩) 4 moT := piece_lit (heap_alloc_new wb _) mo_bytes (by decide) (by decide)
                have hA := apt_new (b := moT) TB.out.o
                refine (tri_put (TB.out.kept ((Below.refl _ _).alloc (Nat.le_refl _) _)) ⟨ki, 3, false, moT⟩ (some ⟨wb.heap.size, 0, none⟩) (c := 4) (n := i + 1) hP hA FB.out (by omega)).mono ?_
                rintro e wz ⟨⟨v2, rfl⟩, ht2, _⟩
                have TZ := hide ht2.t
                clear hP hA ht2 TB FB kc c0
                go_wp2_with fail
                go_roundg (lo - t)
                case measure => omega
                case rel => exact ⟨t + 1, g2, rfl, by simp, by omega, by omega, TZ⟩
            · have e : t = lo := by omega
              subst e
              clear htl hf
              obtain ⟨g, o, ⟨x, kp, kc⟩, rfl, hk, hr, hin⟩ := RA.out wr i HT.out.b hij
              have HRK : Hid (wr.rangeAt g (o + i * 4) (pcC x kp kc)) := hr
              have HIN : Hid (Piece wr kp kc x.b) := hin.2.2
              have hlx : x.b.length ≤ 1200 := HSZ.out _ (List.mem_of_getElem? hk)
              have HKX := hide hk
              clear hk hr hin
              have PG := hide (put_cell wr x kp kc)
              go_upto_region 28 with (first
                | (refine wpList_exec (by rfl) _ (exec_load_mid 25 (.tmp 104) rfl g (o + i * 4) rfl (pcC x kp kc) _ HRK.out Try.underlying25 rfl infoPc) ?_)
                | (refine wpList_store_row rfl 25 _ _ rfl wr.heap.size (pcC x kp kc).toArray rfl rfl 25 _ (zero_cell wr) infoPc rfl (one_pcC _ _ _) ?_))
              generalize (wr.alloc (Obj.cells #[.int .u64 0, .int .i64 0, .bool false, .slice none 0 0] 25)).setRow wr.heap.size (pcC x kp kc).toArray = wc at *
              have c3 : (wc.alloc (.cells #[] 5)).cell? ⟨g, o + i * 4 + 3, none⟩ = some (.slice kp x.b.length kc) := by
                have h1 := HRK.out 3 _ rfl
                exact ((PG.out.2.alloc PG.out.2.size _).cell (block_lt_of_cell h1)).trans h1
              have O1 : Hid ((wc.alloc (.cells #[] 5)).ownsRow wc.heap.size 5 1 (.slice (some ⟨wc.heap.size, 0, none⟩) 0 0) 0 (u8s []) ∧ Below wc.heap.size wc (wc.alloc (.cells #[] 5))) := ⟨World.ownsRow_made wc #[] 0 (Nat.le_refl _) (Nat.zero_le _) rfl, (Below.refl _ _).alloc (Nat.le_refl _) _⟩
              have P1 := hide (HIN.out.kept (PG.out.2.trans (O1.out.2.mono PG.out.2.size)))
              go_wp2_with (at_builtin; refine wpList_append_bytes rfl (.tmp 106) (.tmp 111) rfl wc.heap.size _ [] rfl 0 rfl O1.out.1 kp x.b.length kc x.b rfl rfl P1.out.1 P1.out.2.1 ?g1 O1.out.2.size ?_)
              case g1 => omega
              intro v2 w4 ho hg
              obtain ⟨po, d, rfl, hpo, hob⟩ := own_both (l := x.b) (n := x.b.length) (by simpa using ho) rfl P1.out.2.2.1
              have OD := hide (show w4.ownsRow wc.heap.size 5 1 (.slice po x.b.length d) x.b.length (u8s x.b) from by simpa using ho)
              have BD : Hid (Below wc.heap.size wc w4) := O1.out.2.grown hg O1.out.2.size (fun k hk => (O1.out.1.lt k hk).1)
              have XD := hide (PG.out.1.kept BD.out)
              have PO := hide hpo
              have OB4 := hide hob
              have x3 := XD.out.cell 3
              have f3 := XD.out.frozen 3
              simp only [List.getElem?_cons_zero, List.getElem?_cons_succ] at x3
              clear ho hg hpo hob O1 P1 c3
              go_upto_region 29 with fail
              have GS := grown_cell w4 wr.heap.size 3 (.slice po x.b.length d)
              have XE : Hid (Arr (w4.setCell ⟨wr.heap.size, 3, none⟩ (.slice po x.b.length d)) wr.heap.size 25 (pcC x po d)) := XD.out.set 3 _
              have OE := hide (OD.out.kept GS (Or.inr (own_ne_arr OD.out XD.out (by decide))))
              have OBE := hide (OB4.out.keptR GS XD.out (by decide))
              have PE : Hid (Piece (w4.setCell ⟨wr.heap.size, 3, none⟩ (.slice po x.b.length d)) po d x.b) := ⟨OBE.out.1.1, PO.out.2⟩
              have BW : Hid (Below wr.heap.size wr (w4.setCell ⟨wr.heap.size, 3, none⟩ (.slice po x.b.length d))) := (PG.out.2.trans (BD.out.mono PG.out.2.size)).setCell (p := ⟨wr.heap.size, 3, none⟩) (Nat.le_refl _) _
              have HWC := hide PG.out.2.size
              clear x3 f3 GS OD OB4 PO XD BD PG
              generalize w4.setCell ⟨wr.heap.size, 3, none⟩ (.slice po x.b.length d) = we at *
              obtain ⟨X, hXe⟩ : ∃ X, (Value.slice po x.b.length d).ownBlock = X := ⟨_, rfl⟩
              have HXE := hide hXe
              have HXL : Hid (∀ y, X = some y → wc.heap.size ≤ y ∧ y < we.heap.size) := fun y hy => OE.out.lt y (hXe.trans hy)
              have HXT : Hid (∀ y, X = some y → ∃ cs fr, we.heap[y]? = some (.cells cs 5 fr)) := fun y hy => own_block_ty OE.out y (hXe.trans hy)
              have PA := hide ((ppa_new (X := X) HT.out.p (fun y hy => Nat.le_trans HWC.out (HXL.out y hy).1)).kept BW.out)
              have RPA := hide ((rpa_new (X := X) HT.out.r (fun y hy => Nat.le_trans HWC.out (HXL.out y hy).1)).kept BW.out)
              have BE := hide (HT.out.b.trans (BW.out.mono HT.out.b.size))
              have LJW := hide (And.intro HT.out.lj HT.out.lw)
              have HWR := hide HT.out.b.size
              obtain ⟨T, ok, er, hT⟩ : ∃ T ok er, st.tell x = (T, ok, er) := ⟨_, _, _, rfl⟩
              have HTL := hide hT
              have HNF := hide (next_fits HF.out x)
              obtain ⟨st2, hst2⟩ : ∃ s, st.next x = s := ⟨_, rfl⟩
              have HST := hide hst2
              have PUT := hide (put_av (Av X) we gj d i st x po PA.out (fun pb cb h a ha hn e => by have := h a ha hn; have := (HXL.out _ e.symm).2; omega) PE.out (by obtain ⟨_, hv⟩ := pp_arr PA.out.pp; exact apt_of OBE.out hv (by decide)) HF.out (by omega))
              rw [hT, hst2] at PUT
              rw [hst2] at HNF
              simp only at PUT
              clear hT hst2 hXe BW HT PE OBE
              go_wp2_with (refine wpList_exec (by rfl) _ (exec_load_all 25 (.tmp 12) rfl wr.heap.size rfl 25 (pcC x po d) _ XE.out Try.underlying25 rfl infoPc) ?_)
              refine PUT.out.mono ?_
              rintro e w6 ⟨q1, d1, rfl, hob, hpa, hg6⟩
              obtain ⟨vq0, hva⟩ := pp_arr PA.out.pp
              have hjx : X ≠ some gj := fun e => by
                obtain ⟨cs, fr, h⟩ := HXT.out gj e
                exact arr_type hva (by decide) h
              have P6 : Hid (PPa w6 gj st2 X) := hpa
              have R6 := hide (RPA.out.put hg6 hva)
              have O6 := hide (OE.out.kept hg6 (Or.inr (by rw [HXE.out]; exact hjx)))
              have X6 := hide (XE.out.keptR hg6 (by have := arr_ne hva XE.out (by decide); simpa using this))
              have Q6 := hide hob
              have B6 := hide (BE.out.grown hg6 BE.out.size (fun y hy => by cases hy; exact LJW.out.1))
              have HL6 : Hid (∀ y, X = some y → y < we.heap.size) := fun y hy => (HXL.out y hy).2
              clear hob hpa hg6 hva hjx PA RPA OE XE BE PUT HXT
              have hX1 : ∀ y, X = some y → wr.heap.size < y := fun y hy => by
                have h1 := (HXL.out y hy).1
                have h2 := X6.out.lt
                have h3 := HWC.out
                have h4 : wr.heap.size ≠ y := fun e => by
                  subst e
                  obtain ⟨cs, fr, h⟩ := own_block_ty O6.out wr.heap.size (HXE.out.trans hy)
                  exact arr_type X6.out (by decide) h
                omega
              have HX1 := hide hX1
              clear hX1
              go_wp2_with fail
              go_loopg [16] (x.b.length + 1) (fun f s16 wu => ∃ (u : Nat) (ys : List Nat), s16 = .int .i64 (u : Int) ∧ u ≤ x.b.length ∧ x.b.length - u < f ∧ Hid (wu.ownsRow wc.heap.size 5 1 (.slice po x.b.length d) x.b.length (u8s ys)) ∧ Hid (w6.grownBy wu X))
              case atStart => exact ⟨0, x.b, rfl, by omega, by omega, O6, grown_refl _ _⟩
              case round =>
                obtain ⟨u, ys, rfl, hu, hf, HOU, HGU⟩ := hrel
                have XU := hide (X6.out.keptR HGU.out (fun e => by have := HX1.out _ e; omega))
                have x3 := XU.out.cell 3
                simp only [List.getElem?_cons_zero, List.getElem?_cons_succ] at x3
                by_cases hul : u < x.b.length
                · obtain ⟨gb, cap, hv, _⟩ := own_shape HOU.out (by omega)
                  cases hv
                  have hyl : ys.length = x.b.length := by have := HOU.out.1; simpa [u8s] using this
                  have c1 := HOU.out.cellAt u (by omega)
                  have f1 := HOU.out.frozenAt u
                  rw [u8s_at (by omega)] at c1
                  have hst := hide (fun v => HOU.out.stored u v)
                  generalize ys.getD u 0 = y at *
                  have hw : IntKind.u8.wrap ((y : Int) + 1) = (((y + 1) % 256 : Nat) : Int) := by
                    rw [(show ∀ n : Int, IntKind.u8.wrap n = n % 256 from fun n => by simp [IntKind.wrap, IntKind.bits, IntKind.signed])]
                    omega
                  obtain ⟨z, hz⟩ : ∃ z, (y + 1) % 256 = z := ⟨_, rfl⟩
                  rw [hz] at hw
                  have HXG : Hid (X = some gb) := HXE.out.symm
                  clear hz hyl XU
                  go_wp2
                  go_roundg (x.b.length - u)
                  case measure => omega
                  case rel =>
                    refine ⟨u + 1, ys.set u z, by simp, by omega, by omega, ?_, ?_⟩
                    · have h := hst.out (.int .u8 (z : Int))
                      rw [u8s_set] at h
                      exact h.1
                    · exact grown_trans HGU.out ⟨rfl, rfl, rfl, by simp, fun k _ hk => heap_setCell_other _ ⟨gb, u, none⟩ k _ (fun e => hk (by rw [HXG.out, e]))⟩
                · have PU := hide (P6.out.write HGU.out (fun y hy => own_block_ty O6.out y (HXE.out.trans hy)))
                  have RU := hide (R6.out.write HGU.out (fun y hy => own_block_ty O6.out y (HXE.out.trans hy)))
                  have QU := hide (ob_off Q6.out HGU.out (fun a ha hn e => by have h1 := (Q6.out.2 a ha hn).1; have h2 := HL6.out _ e.symm; omega))
                  have BU := hide (B6.out.grown HGU.out B6.out.size (fun y hy => by have h1 := HX1.out y hy; have h2 := HWR.out; omega))
                  clear HOU HGU XU P6 R6 Q6 B6 O6 X6 hf
                  have HRW : Hid (wr.rangeAt g (o + i * 4) (pcC x kp kc)) := by
                    obtain ⟨g', o', k', e1, e2, e3, _⟩ := RA.out wr i BU.out hij
                    cases e1
                    rw [HKX.out] at e2
                    cases e2
                    exact e3
                  have PI := (HX.out.2 _ (List.mem_of_getElem? HKX.out)).2.2
                  obtain ⟨qh, dh, hra⟩ := rp_arr RU.out
                  have RPT := hide (rput_any wr gw gw kc i st x kp RU.out (PI.kept BU.out) (apt_low PI LJW.out.2) HF.out (by omega) (Nat.le_of_lt hra.lt))
                  rw [HTL.out, HST.out] at RPT
                  simp only at RPT
                  have HGL := hide hra.lt
                  have HRA := hide hra
                  clear PI hra
                  go_wp2_with (refine wpList_exec (by rfl) _ (exec_load_mid 25 (.tmp 139) rfl g (o + i * 4) rfl (pcC x kp kc) _ HRW.out Try.underlying25 rfl infoPc) ?_)
                  refine RPT.out.mono ?_
                  rintro e wy ⟨q2, ⟨d2, rfl⟩, hbr, hrp, hgw⟩
                  have hS : ∀ k, SP wr gw gw k → gw ≤ k := fun k hk => by
                    rcases hk with h | ⟨h, _⟩ <;> omega
                  have PY := hide (pp_grow PU.out hgw HRA.out)
                  have QY := hide (ob_grow QU.out hgw (fun k hk cs fr => by
                    rcases hk with rfl | ⟨_, cs', fr', h⟩
                    · exact arr_type HRA.out (by decide)
                    · rw [h]
                      intro e
                      simp at e))
                  have BY := hide (BU.out.trans ((grow_below hgw (Nat.le_of_lt HGL.out) hS).mono LJW.out.2))
                  have RY := hide hrp
                  have BRY := hide hbr
                  clear hbr hrp hgw hS PU QU BU RU HRA HGL HRW RPT x3
                  have HH := hide (hld_any wy gj _ st2 PY.out HNF.out)
                  go_wp2_with fail
                  refine HH.out.mono ?_
                  rintro e wz ⟨rfl, hb⟩
                  have TZ : Hid (Two w wz gj gw st2) := ⟨PY.out.kept hb, RY.out.kept hb, BY.out.trans (hb.mono BY.out.size), LJW.out.1, LJW.out.2⟩
                  have CV1 := hide (fun (v : World) (hv : Below wz.heap.size wz v) => conv_any (((QY.out.kept hb).kept hv).1) (c := d1) T.length rfl)
                  have CV2 := hide (fun (v : World) (hv : Below wz.heap.size wz v) => conv_any (((BRY.out.kept hb).kept hv).1) (c := d2) T.length rfl)
                  clear hb HH QY BRY PY RY BY qh dh
                  obtain ⟨qh, dh, hra⟩ := rp_arr TZ.out.r
                  have j2 := hra.cell 2
                  have j4 := hra.cell 4
                  simp only [List.getElem?_cons_zero, List.getElem?_cons_succ] at j2 j4
                  have ID := hide (id_any wz.drew gj st2 (TZ.out.kept (Below.refl _ _).drew).p)
                  have SZ := hide (rsize_any wz.drew gw gw _ st2 (TZ.out.kept (Below.refl _ _).drew).r HNF.out (by omega))
                  clear hra
                  generalize st2.i = I2 at *
                  generalize st2.l.length = ln2 at *
                  generalize sizeL st2.l = sz2 at *
                  generalize strF T = sT at *
                  generalize T.length = lT at *
                  go_upto_region 36 with fail
                  try simp only [List.append_eq, List.cons_append, List.nil_append]
                  refine wp_region_held_drew (S := fun v => Hid (v = wz.drew)) (by kernel_rfl) (hide rfl) (fun hHeld => ?_)
                  refine take_dstH (i := 0) (d := 150) (v := ?_) rfl rfl (by kernel_rfl) (by kernel_rfl) (by kernel_rfl) (fun _ _ _ h => h) (by rfl) hHeld ?_ ?_
                  rotate_left
                  · intro wZ hSw; clear hSw; go_simp; first | (with_reducible rfl) | (rw [if_pos (by omega)]; with_reducible rfl) | skip
                  try simp only [Act.put, List.setIfInBounds_toArray, List.set_cons_zero, List.set_cons_succ]
                  refine take_dstH (i := 1) (d := 151) (v := ?_) rfl rfl (by kernel_rfl) (by kernel_rfl) (by kernel_rfl) (fun _ _ _ h => h) (by rfl) hHeld ?_ ?_
                  rotate_left
                  · intro wZ hSw; have hfS := (fun (v : World) (hv : Hid (v = wz.drew)) => show (convert 23 9 (.slice q1 lT d1)).run Try.prog v = .ok (.string sT) v from by rw [hv.out]; exact CV1.out _ (Below.refl _ _).drew) wZ hSw; clear hSw; go_simp; first | (with_reducible rfl) | (rw [if_pos (by omega)]; with_reducible rfl) | skip
                  try simp only [Act.put, List.setIfInBounds_toArray, List.set_cons_zero, List.set_cons_succ]
                  refine take_dstH (i := 2) (d := 152) (v := ?_) rfl rfl (by kernel_rfl) (by kernel_rfl) (by kernel_rfl) (fun _ _ _ h => h) (by rfl) hHeld ?_ ?_
                  rotate_left
                  · intro wZ hSw; clear hSw; go_simp; first | (with_reducible rfl) | (rw [if_pos (by omega)]; with_reducible rfl) | skip
                  try simp only [Act.put, List.setIfInBounds_toArray, List.set_cons_zero, List.set_cons_succ]
                  refine take_dstH (i := 3) (d := 153) (v := ?_) rfl rfl (by kernel_rfl) (by kernel_rfl) (by kernel_rfl) (fun _ _ _ h => h) (by rfl) hHeld ?_ ?_
                  rotate_left
                  · intro wZ hSw; have hfS := (fun (v : World) (hv : Hid (v = wz.drew)) => show (convert 23 9 (.slice q2 lT d2)).run Try.prog v = .ok (.string sT) v from by rw [hv.out]; exact CV2.out _ (Below.refl _ _).drew) wZ hSw; clear hSw; go_simp; first | (with_reducible rfl) | (rw [if_pos (by omega)]; with_reducible rfl) | skip
                  try simp only [Act.put, List.setIfInBounds_toArray, List.set_cons_zero, List.set_cons_succ]
                  refine take_dstH (i := 4) (d := 154) (v := ?_) rfl rfl (by kernel_rfl) (by kernel_rfl) (by kernel_rfl) (fun _ _ _ h => h) (by rfl) hHeld ?_ ?_
                  rotate_left
                  · intro wZ hSw; clear hSw; go_simp; first | (with_reducible rfl) | (rw [if_pos (by omega)]; with_reducible rfl) | skip
                  try simp only [Act.put, List.setIfInBounds_toArray, List.set_cons_zero, List.set_cons_succ]
                  refine take_dstH (i := 5) (d := 155) (v := ?_) rfl rfl (by kernel_rfl) (by kernel_rfl) (by kernel_rfl) (fun _ _ _ h => h) (by rfl) hHeld ?_ ?_
                  rotate_left
                  · intro wZ hSw; clear hSw; go_simp; first | (with_reducible rfl) | (rw [if_pos (by omega)]; with_reducible rfl) | skip
                  try simp only [Act.put, List.setIfInBounds_toArray, List.set_cons_zero, List.set_cons_succ]
                  refine take_dstH (i := 6) (d := 156) (v := ?_) rfl rfl (by kernel_rfl) (by kernel_rfl) (by kernel_rfl) (fun _ _ _ h => h) (by rfl) hHeld ?_ ?_
                  rotate_left
                  · intro wZ hSw; clear hSw; go_simp; first | (with_reducible rfl) | (rw [if_pos (by omega)]; with_reducible rfl) | skip
                  try simp only [Act.put, List.setIfInBounds_toArray, List.set_cons_zero, List.set_cons_succ]
                  refine take_dstH (i := 7) (d := 157) (v := ?_) rfl rfl (by kernel_rfl) (by kernel_rfl) (by kernel_rfl) (fun _ _ _ h => h) (by rfl) hHeld ?_ ?_
                  rotate_left
                  · intro wZ hSw; clear hSw; go_simp; first | (with_reducible rfl) | (rw [if_pos (by omega)]; with_reducible rfl) | skip
                  try simp only [Act.put, List.setIfInBounds_toArray, List.set_cons_zero, List.set_cons_succ]
                  refine take_dstH (i := 8) (d := 158) (v := ?_) rfl rfl (by kernel_rfl) (by kernel_rfl) (by kernel_rfl) (fun _ _ _ h => h) (by rfl) hHeld ?_ ?_
                  rotate_left
                  · intro wZ hSw; clear hSw; go_simp; first | (with_reducible rfl) | (rw [if_pos (by omega)]; with_reducible rfl) | skip
                  try simp only [Act.put, List.setIfInBounds_toArray, List.set_cons_zero, List.set_cons_succ]
                  refine take_dstH (i := 9) (d := 159) (v := ?_) rfl rfl (by kernel_rfl) (by kernel_rfl) (by kernel_rfl) (fun _ _ _ h => h) (by rfl) hHeld ?_ ?_
                  rotate_left
                  · intro wZ hSw; clear hSw; go_simp; first | (with_reducible rfl) | (rw [if_pos (by omega)]; with_reducible rfl) | skip
                  try simp only [Act.put, List.setIfInBounds_toArray, List.set_cons_zero, List.set_cons_succ]
                  refine take_dstH (i := 10) (d := 160) (v := ?_) rfl rfl (by kernel_rfl) (by kernel_rfl) (by kernel_rfl) (fun _ _ _ h => h) (by rfl) hHeld ?_ ?_
                  rotate_left
                  · intro wZ hSw; clear hSw; go_simp; first | (with_reducible rfl) | (rw [if_pos (by omega)]; with_reducible rfl) | skip
                  try simp only [Act.put, List.setIfInBounds_toArray, List.set_cons_zero, List.set_cons_succ]
                  refine take_dstH (i := 11) (d := 161) (v := ?_) rfl rfl (by kernel_rfl) (by kernel_rfl) (by kernel_rfl) (fun _ _ _ h => h) (by rfl) hHeld ?_ ?_
                  rotate_left
                  · intro wZ hSw; clear hSw; go_simp; first | (with_reducible rfl) | (rw [if_pos (by omega)]; with_reducible rfl) | skip
                  try simp only [Act.put, List.setIfInBounds_toArray, List.set_cons_zero, List.set_cons_succ]
                  refine take_dstH (i := 12) (d := 162) (v := ?_) rfl rfl (by kernel_rfl) (by kernel_rfl) (by kernel_rfl) (fun _ _ _ h => h) (by rfl) hHeld ?_ ?_
                  rotate_left
                  · intro wZ hSw; clear hSw; go_simp; first | (with_reducible rfl) | (rw [if_pos (by omega)]; with_reducible rfl) | skip
                  try simp only [Act.put, List.setIfInBounds_toArray, List.set_cons_zero, List.set_cons_succ]
                  refine take_dstH (i := 13) (d := 163) (v := ?_) rfl rfl (by kernel_rfl) (by kernel_rfl) (by kernel_rfl) (fun _ _ _ h => h) (by rfl) hHeld ?_ ?_
                  rotate_left
                  · intro wZ hSw; clear hSw; go_simp; first | (with_reducible rfl) | (rw [if_pos (by omega)]; with_reducible rfl) | skip
                  try simp only [Act.put, List.setIfInBounds_toArray, List.set_cons_zero, List.set_cons_succ]
                  refine take_dstH (i := 14) (d := 164) (v := ?_) rfl rfl (by kernel_rfl) (by kernel_rfl) (by kernel_rfl) (fun _ _ _ h => h) (by rfl) hHeld ?_ ?_
                  rotate_left
                  · intro wZ hSw; clear hSw; go_simp; first | (with_reducible rfl) | (rw [if_pos (by omega)]; with_reducible rfl) | skip
                  try simp only [Act.put, List.setIfInBounds_toArray, List.set_cons_zero, List.set_cons_succ]
                  refine take_dstH (i := 15) (d := 165) (v := ?_) rfl rfl (by kernel_rfl) (by kernel_rfl) (by kernel_rfl) (fun _ _ _ h => h) (by rfl) hHeld ?_ ?_
                  rotate_left
                  · intro wZ hSw; clear hSw; go_simp; first | (with_reducible rfl) | (rw [if_pos (by omega)]; with_reducible rfl) | skip
                  try simp only [Act.put, List.setIfInBounds_toArray, List.set_cons_zero, List.set_cons_succ]
                  refine take_dstH (i := 16) (d := 166) (v := ?_) rfl rfl (by kernel_rfl) (by kernel_rfl) (by kernel_rfl) (fun _ _ _ h => h) (by rfl) hHeld ?_ ?_
                  rotate_left
                  · intro wZ hSw; clear hSw; go_simp; first | (with_reducible rfl) | (rw [if_pos (by omega)]; with_reducible rfl) | skip
                  try simp only [Act.put, List.setIfInBounds_toArray, List.set_cons_zero, List.set_cons_succ]
                  refine take_dstH (i := 18) (d := 168) (v := ?_) rfl rfl (by kernel_rfl) (by kernel_rfl) (by kernel_rfl) (fun _ _ _ h => h) (by rfl) hHeld ?_ ?_
                  rotate_left
                  · intro wZ hSw; clear hSw; go_simp; first | (with_reducible rfl) | (rw [if_pos (by omega)]; with_reducible rfl) | skip
                  try simp only [Act.put, List.setIfInBounds_toArray, List.set_cons_zero, List.set_cons_succ]
                  refine take_dstH (i := 19) (d := 169) (v := ?_) rfl rfl (by kernel_rfl) (by kernel_rfl) (by kernel_rfl) (fun _ _ _ h => h) (by rfl) hHeld ?_ ?_
                  rotate_left
                  · intro wZ hSw; clear hSw; go_simp; first | (with_reducible rfl) | (rw [if_pos (by omega)]; with_reducible rfl) | skip
                  try simp only [Act.put, List.setIfInBounds_toArray, List.set_cons_zero, List.set_cons_succ]
                  refine take_dstH (i := 20) (d := 170) (v := ?_) rfl rfl (by kernel_rfl) (by kernel_rfl) (by kernel_rfl) (fun _ _ _ h => h) (by rfl) hHeld ?_ ?_
                  rotate_left
                  · intro wZ hSw; clear hSw; go_simp; first | (with_reducible rfl) | (rw [if_pos (by omega)]; with_reducible rfl) | skip
                  try simp only [Act.put, List.setIfInBounds_toArray, List.set_cons_zero, List.set_cons_succ]
                  refine take_dstH (i := 21) (d := 171) (v := ?_) rfl rfl (by kernel_rfl) (by kernel_rfl) (by kernel_rfl) (fun _ _ _ h => h) (by rfl) hHeld ?_ ?_
                  rotate_left
                  · intro wZ hSw; have hfS := (fun (v : World) (hv : Hid (v = wz.drew)) => show v.cell? ⟨gw, 2, none⟩ = some (.int .u64 (I2 : Int)) from by rw [hv.out]; exact j2) wZ hSw; clear hSw; go_simp; first | (with_reducible rfl) | (rw [if_pos (by omega)]; with_reducible rfl) | skip
                  try simp only [Act.put, List.setIfInBounds_toArray, List.set_cons_zero, List.set_cons_succ]
                  refine wpAnyH_ready (rs := [17]) (by kernel_rfl) (by simp) ?_
                  refine (AllReadyH.cons rfl (fun K hK => ?_) AllReadyH.nil)
                  go_simp
                  refine Calls.mono ID.out ?_; rintro e wv ⟨rfl, rfl⟩
                  go_wp2_with fail
                  refine hK.out _ _ ?_ (fun hHeld => ?_)
                  · exact hide rfl
                  clear hK K
                  try simp only [Act.put, List.setIfInBounds_toArray, List.set_cons_zero, List.set_cons_succ]
                  refine take_dstH (i := 22) (d := 172) (v := ?_) rfl rfl (by kernel_rfl) (by kernel_rfl) (by kernel_rfl) (fun _ _ _ h => h) (by rfl) hHeld ?_ ?_
                  rotate_left
                  · intro wZ hSw; clear hSw; go_simp; first | (with_reducible rfl) | (rw [if_pos (by omega)]; with_reducible rfl) | skip
                  try simp only [Act.put, List.setIfInBounds_toArray, List.set_cons_zero, List.set_cons_succ]
                  refine take_dstH (i := 23) (d := 173) (v := ?_) rfl rfl (by kernel_rfl) (by kernel_rfl) (by kernel_rfl) (fun _ _ _ h => h) (by rfl) hHeld ?_ ?_
                  rotate_left
                  · intro wZ hSw; clear hSw; go_simp; first | (with_reducible rfl) | (rw [if_pos (by omega)]; with_reducible rfl) | skip
                  try simp only [Act.put, List.setIfInBounds_toArray, List.set_cons_zero, List.set_cons_succ]
                  refine take_dstH (i := 24) (d := 174) (v := ?_) rfl rfl (by kernel_rfl) (by kernel_rfl) (by kernel_rfl) (fun _ _ _ h => h) (by rfl) hHeld ?_ ?_
                  rotate_left
                  · intro wZ hSw; clear hSw; go_simp; first | (with_reducible rfl) | (rw [if_pos (by omega)]; with_reducible rfl) | skip
                  try simp only [Act.put, List.setIfInBounds_toArray, List.set_cons_zero, List.set_cons_succ]
                  refine take_dstH (i := 25) (d := 175) (v := ?_) rfl rfl (by kernel_rfl) (by kernel_rfl) (by kernel_rfl) (fun _ _ _ h => h) (by rfl) hHeld ?_ ?_
                  rotate_left
                  · intro wZ hSw; clear hSw; go_simp; first | (with_reducible rfl) | (rw [if_pos (by omega)]; with_reducible rfl) | skip
                  try simp only [Act.put, List.setIfInBounds_toArray, List.set_cons_zero, List.set_cons_succ]
                  refine take_dstH (i := 26) (d := 176) (v := ?_) rfl rfl (by kernel_rfl) (by kernel_rfl) (by kernel_rfl) (fun _ _ _ h => h) (by rfl) hHeld ?_ ?_
                  rotate_left
                  · intro wZ hSw; clear hSw; go_simp; first | (with_reducible rfl) | (rw [if_pos (by omega)]; with_reducible rfl) | skip
                  try simp only [Act.put, List.setIfInBounds_toArray, List.set_cons_zero, List.set_cons_succ]
                  refine take_dstH (i := 27) (d := 177) (v := ?_) rfl rfl (by kernel_rfl) (by kernel_rfl) (by kernel_rfl) (fun _ _ _ h => h) (by rfl) hHeld ?_ ?_
                  rotate_left
                  · intro wZ hSw; clear hSw; go_simp; first | (with_reducible rfl) | (rw [if_pos (by omega)]; with_reducible rfl) | skip
                  try simp only [Act.put, List.setIfInBounds_toArray, List.set_cons_zero, List.set_cons_succ]
                  refine take_dstH (i := 28) (d := 178) (v := ?_) rfl rfl (by kernel_rfl) (by kernel_rfl) (by kernel_rfl) (fun _ _ _ h => h) (by rfl) hHeld ?_ ?_
                  rotate_left
                  · intro wZ hSw; clear hSw; go_simp; first | (with_reducible rfl) | (rw [if_pos (by omega)]; with_reducible rfl) | skip
                  try simp only [Act.put, List.setIfInBounds_toArray, List.set_cons_zero, List.set_cons_succ]
                  refine take_dstH (i := 29) (d := 179) (v := ?_) rfl rfl (by kernel_rfl) (by kernel_rfl) (by kernel_rfl) (fun _ _ _ h => h) (by rfl) hHeld ?_ ?_
                  rotate_left
                  · intro wZ hSw; have hfS := (fun (v : World) (hv : Hid (v = wz.drew)) => show v.cell? ⟨gw, 4, none⟩ = some (.slice qh ln2 dh) from by rw [hv.out]; exact j4) wZ hSw; clear hSw; go_simp; first | (with_reducible rfl) | (rw [if_pos (by omega)]; with_reducible rfl) | skip
                  try simp only [Act.put, List.setIfInBounds_toArray, List.set_cons_zero, List.set_cons_succ]
                  refine take_dstH (i := 30) (d := 180) (v := ?_) rfl rfl (by kernel_rfl) (by kernel_rfl) (by kernel_rfl) (fun _ _ _ h => h) (by rfl) hHeld ?_ ?_
                  rotate_left
                  · intro wZ hSw; clear hSw; go_simp; first | (with_reducible rfl) | (rw [if_pos (by omega)]; with_reducible rfl) | skip
                  try simp only [Act.put, List.setIfInBounds_toArray, List.set_cons_zero, List.set_cons_succ]
                  refine take_dstH (i := 31) (d := 181) (v := ?_) rfl rfl (by kernel_rfl) (by kernel_rfl) (by kernel_rfl) (fun _ _ _ h => h) (by rfl) hHeld ?_ ?_
                  rotate_left
                  · intro wZ hSw; clear hSw; go_simp; first | (with_reducible rfl) | (rw [if_pos (by omega)]; with_reducible rfl) | skip
                  try simp only [Act.put, List.setIfInBounds_toArray, List.set_cons_zero, List.set_cons_succ]
                  refine take_dstH (i := 32) (d := 182) (v := ?_) rfl rfl (by kernel_rfl) (by kernel_rfl) (by kernel_rfl) (fun _ _ _ h => h) (by rfl) hHeld ?_ ?_
                  rotate_left
                  · intro wZ hSw; clear hSw; go_simp; first | (with_reducible rfl) | (rw [if_pos (by omega)]; with_reducible rfl) | skip
                  try simp only [Act.put, List.setIfInBounds_toArray, List.set_cons_zero, List.set_cons_succ]
                  refine take_dstH (i := 33) (d := 183) (v := ?_) rfl rfl (by kernel_rfl) (by kernel_rfl) (by kernel_rfl) (fun _ _ _ h => h) (by rfl) hHeld ?_ ?_
                  rotate_left
                  · intro wZ hSw; clear hSw; go_simp; first | (with_reducible rfl) | (rw [if_pos (by omega)]; with_reducible rfl) | skip
                  try simp only [Act.put, List.setIfInBounds_toArray, List.set_cons_zero, List.set_cons_succ]
                  refine take_dstH (i := 34) (d := 184) (v := ?_) rfl rfl (by kernel_rfl) (by kernel_rfl) (by kernel_rfl) (fun _ _ _ h => h) (by rfl) hHeld ?_ ?_
                  rotate_left
                  · intro wZ hSw; clear hSw; go_simp; first | (with_reducible rfl) | (rw [if_pos (by omega)]; with_reducible rfl) | skip
                  try simp only [Act.put, List.setIfInBounds_toArray, List.set_cons_zero, List.set_cons_succ]
                  refine take_dstH (i := 35) (d := 185) (v := ?_) rfl rfl (by kernel_rfl) (by kernel_rfl) (by kernel_rfl) (fun _ _ _ h => h) (by rfl) hHeld ?_ ?_
                  rotate_left
                  · intro wZ hSw; clear hSw; go_simp; first | (with_reducible rfl) | (rw [if_pos (by omega)]; with_reducible rfl) | skip
                  try simp only [Act.put, List.setIfInBounds_toArray, List.set_cons_zero, List.set_cons_succ]
                  refine wpAnyH_ready (rs := [36]) (by kernel_rfl) (by simp) ?_
                  refine (AllReadyH.cons rfl (fun K hK => ?_) AllReadyH.nil)
                  go_simp
                  refine Calls.mono SZ.out ?_; rintro e wv ⟨rfl, rfl⟩
                  go_wp2_with fail
                  refine hK.out _ _ ?_ (fun hHeld => ?_)
                  · exact hide rfl
                  clear hK K
                  try simp only [Act.put, List.setIfInBounds_toArray, List.set_cons_zero, List.set_cons_succ]
                  refine take_dstH (i := 37) (d := 187) (v := ?_) rfl rfl (by kernel_rfl) (by kernel_rfl) (by kernel_rfl) (fun _ _ _ h => h) (by rfl) hHeld ?_ ?_
                  rotate_left
                  · intro wZ hSw; clear hSw; go_simp; first | (with_reducible rfl) | (rw [if_pos (by omega)]; with_reducible rfl) | skip
                  try simp only [Act.put, List.setIfInBounds_toArray, List.set_cons_zero, List.set_cons_succ]
                  refine take_dstH (i := 38) (d := 188) (v := ?_) rfl rfl (by kernel_rfl) (by kernel_rfl) (by kernel_rfl) (fun _ _ _ h => h) (by rfl) hHeld ?_ ?_
                  rotate_left
                  · intro wZ hSw; clear hSw; go_simp; first | (with_reducible rfl) | (rw [if_pos (by omega)]; with_reducible rfl) | skip
                  try simp only [Act.put, List.setIfInBounds_toArray, List.set_cons_zero, List.set_cons_succ]
                  refine wpAnyH_done (by kernel_rfl) ?_ _
                  go_wp2
                  go_roundg (j - i)
                  case measure => omega
                  case rel => exact ⟨i + 1, gj, st2, rfl, by simp, by omega, by omega, TZ.out.kept (Below.refl _ _).drew, HNF⟩
        · have e : i = j := by omega
          subst e
          go_wp2
          go_ret
          exact ⟨rfl, HT.out.b⟩

set_option maxHeartbeats 4000000 in
set_option maxRecDepth 100000 in
theorem walk_out (N lo c oc : Nat) (p op : Option Addr) (w : World) (h : 300 < N ∨ 50 < lo) :
    Calls Try.prog 5 #[.slice p N c, .slice op lo oc] w fun e w' => e = .returned (.bool true) ∧ Below w.heap.size w w' := by
  have HK := hide (known_any w)
  by_cases h1 : 300 < N
  · have h1' : (300 : Int) < (N : Int) := by omega
    clear h h1
    go_enter Try.func5, Try.ntmps5
    go_wp2_with fail
    refine HK.out.mono ?_
    rintro e w1 ⟨rfl, hb⟩
    go_wp2
    go_ret
    exact ⟨rfl, hb⟩
  have h1' : ¬ (300 : Int) < (N : Int) := by omega
  have h2' : (50 : Int) < (lo : Int) := by omega
  clear h h1
  go_enter Try.func5, Try.ntmps5
  go_wp2_with fail
  refine HK.out.mono ?_
  rintro e w1 ⟨rfl, hb⟩
  go_wp2
  go_ret
  exact ⟨rfl, hb⟩

theorem walk (p : Option Addr) (c : Nat) (xs : List Pk) (op : Option Addr) (oc : Nat) (os : List Int) (w : World) (hx : PcsIn w p xs) (ho : IPiece w op oc os) :
    Calls Try.prog 5 #[.slice p xs.length c, .slice op os.length oc] w fun e w' => e = .returned (.bool true) ∧ Below w.heap.size w w' := by
  by_cases h : 300 < xs.length ∨ 50 < os.length
  · exact walk_out _ _ c oc p op w h
  · exact walk_ok _ _ c oc p op xs os w hx rfl ho rfl (by omega) (by omega)

theorem own : ownKnob Try.prog.godebug = none := by kernel_rfl
theorem laidOut : laidOutB Try.prog = true := by kernel_rfl
set_option maxRecDepth 100000 in
theorem lifted (os : Os) (started : os.Started) (H : Type) (enc : TypeId × Value → H) :
    ReturnsInHanded {} Try.checked os 5 .any (Rows.fragPlaysSpec.pre6 enc Try.prog Try.f5 Rows.fragPlaysRow.domain false) (Rows.fragPlaysSpec.post enc Try.prog Try.f5 false true false false) := by
  refine returnsInHanded_of_change (C := Try.checked) own started (by kernel_rfl) Try.func5
    (ChangeSpec.witness6 (enc := enc) (C := Try.checked) false ⟨#[], #[.slice none 0 0, .slice none 0 0], []⟩ 8 (by kernel_rfl) (by kernel_rfl) (by kernel_rfl) (by kernel_rfl)) ?_
  intro W base args ds gs before hval0 hW hcnd _
  have hval : ∀ (j : Nat) t v, Try.f5.params[j]? = some t → args[j]? = some v → Value.okWide Try.prog W .any base t v := hval0
  have hW' := hW
  obtain ⟨p, q, hA0, hV, rfl, hfz, hnd⟩ := hW
  have hA : DataW.TrodAll enc Try.prog W 0 (fun _ => true) true Try.f5.params.toList args.toList ds p := hA0
  rw [Try.params5] at hA hval
  obtain ⟨v0, vs0, d0, ds0, p0, q0, hargs, rfl, rfl, h0, r0⟩ := trodAll_cons hA
  obtain ⟨v1, vs1, d1, ds1, p1, q1, rfl, rfl, rfl, h1, r1⟩ := trodAll_cons r0
  obtain ⟨rfl, rfl, rfl⟩ := trodAll_nil r1
  obtain rfl : args = #[v0, v1] := by cases args; simp_all
  obtain ⟨rfl, rfl⟩ := trodVars_none hV
  obtain ⟨a0, len0, cap0, rfl⟩ := okWide_slice Try.underlying36 (hval 0 36 v0 rfl rfl)
  have k0 := h0
  have lt0 : ∀ x ∈ p0, x.block < W.heap.size := by obtain ⟨m, hm⟩ := k0; exact DataW.trod_lt m _ _ _ hm
  obtain ⟨fuel0, hf0⟩ := h0
  obtain ⟨a0', cap0', x0, hcs0, w0⟩ := pcs_of hf0
  simp [Value.cells] at hcs0
  obtain ⟨rfl, rfl, rfl⟩ := hcs0
  clear hf0
  obtain ⟨a1, len1, cap1, rfl⟩ := okWide_slice Try.underlying40 (hval 1 40 v1 rfl rfl)
  have k1 := h1
  have lt1 : ∀ x ∈ p1, x.block < W.heap.size := by obtain ⟨m, hm⟩ := k1; exact DataW.trod_lt m _ _ _ hm
  obtain ⟨fuel1, hf1⟩ := h1
  obtain ⟨a1', cap1', x1, hcs1, w1⟩ := ints_of hf1
  simp [Value.cells] at hcs1
  obtain ⟨rfl, rfl, rfl⟩ := hcs1
  clear hf1
  clear hA0 hval0
  refine (walk a0 cap0 x0 a1 cap1 x1 W w0 w1).mono fun e W' ⟨he, bel⟩ => ?_
  subst he
  exact ⟨_, rfl, _, _, _, [], _, [], hW', trodAll_mk1 (shut_bool Try.underlying4 _), (trodAll_cons_mk (Below.trod laidOut (by kernel_rfl) (of_decide_eq_true (by kernel_rfl)) k0 bel lt0) (trodAll_cons_mk (Below.trod laidOut (by kernel_rfl) (of_decide_eq_true (by kernel_rfl)) k1 bel lt1) trodAll_mk0)), rfl, bel.frame _, fun h => by cases h⟩

theorem over : Rows.fragPlaysRow.holds Try.pinned (OpenSpec.ofChange Rows.fragPlaysSpec) :=
  OpenClaim.holds_of_wide 5 Try.f5 rfl rfl rfl rfl rfl rfl rfl ⟨rfl, rfl, rfl, rfl, rfl⟩ rfl rfl rfl rfl rfl (by kernel_rfl) Try.func5 (by kernel_rfl)
    (of_decide_eq_true (by kernel_rfl)) (by unfold Func.isWrapper; first | (rw [if_pos (by decide +kernel)]; kernel_rfl) | (rw [if_neg (by decide +kernel)]; exact ⟨rfl, rfl⟩))
    (fun os started H enc _ => lifted os started H enc)

end FragPlaysProof

/-- A joiner tells of any pieces, in whatever order, what the document says, and what it holds; a copy goes its own way. -/
theorem fragPlays_holds : Rows.FragPlaysSaid := FragPlaysProof.over

#print axioms fragPlays_holds
end Go.Proofs.Ytecpnnnkkofejaa
