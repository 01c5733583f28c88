/-
  Several texts, joined: IT.
-/
import Derived.Test.YtanjbblkijhibaaDoorKF

/- A walk: what was heard changes nothing any more, nor does it with its tag changed, nor by the one that sent it. -/
namespace Go.Proofs.YtanjbblkijhibaaDoor
open Go.RowKit

theorem grown_same {w w' : World} {g : Nat} (h : w.grownBy w' (some g)) (hs : w'.heap[g]? = w.heap[g]?) : Below w.heap.size w w' :=
  ⟨h.os, h.tape, h.output, h.size, fun k hk => by
    by_cases e : k = g
    · rw [e]; exact hs
    · exact h.block k hk (fun e' => e (by cases e'; rfl))⟩

/-- hearing what was heard already -/
theorem hear_old (g : Nat) (L R : Lk) (p : Option Addr) (c n : Nat) (text : List Nat) (now t frm : Int) (w : World) (h : LkAt w g R) (ht : IsTime t) (ha : IsAddr frm) (hx : L.next < 9223372036854775808) (hl : text.length = n) (hn : n ≤ 1196) (hc : R.code = L.code) (hm : R.mark = L.mark) (hd : L.down ≠ R.down)
    (hP : Piece w p c (sndP L now text)) (hL : Laid w) (hf : R.fresh L.next = false) :
    Calls Tryd.prog 18 #[.pointer (some ⟨g, 0, none⟩), .int .i64 t, .int .i64 frm, .slice p (n + 28) c] w fun e w' => ∃ v, e = .returned (.tuple #[v, .bool false, .int .i64 0]) ∧ w'.ownsRow w.heap.size 5 1 v n (u8s text) ∧ Below w.heap.size w w' := by
  have h1 := hear_snd g L R p c n text now t frm w h ht ha hx hl hn hc hm hd hP hL
  have e : R.took L.next (now % 65535) (L.at now) t frm = R := by unfold Lk.took; rw [if_neg (by rw [hf]; decide)]
  rw [e, hf] at h1
  exact h1.mono fun e w' ⟨v, h2, h3, h4, h5⟩ => ⟨v, h2, h3, grown_same h5 (by rw [show w'.heap[g]? = _ from h4.a, show w.heap[g]? = _ from h.a])⟩

abbrev wyL (up : Bool) (p : Option Addr) (n c : Nat) (go takes wh : Int) : List Value := [.bool up, .slice p n c, .int .i64 go, .int .i64 takes, .int .i64 wh]
theorem infoWy : (Tryd.prog.info? 71).map (·.size) = some 5 := by kernel_rfl
theorem wy_box (w : World) (up : Bool) (p : Option Addr) (n c : Nat) (go takes wh : Int) : Arr (w.alloc (Obj.cells #[Value.bool up, Value.slice p n c, Value.int .i64 go, Value.int .i64 takes, Value.int .i64 wh] 71)) w.heap.size 71 (wyL up p n c go takes wh) ∧ Below w.heap.size w (w.alloc (Obj.cells #[Value.bool up, Value.slice p n c, Value.int .i64 go, Value.int .i64 takes, Value.int .i64 wh] 71)) := ⟨Arr.new w _ _, (Below.refl _ _).alloc (Nat.le_refl _) _⟩

/-- what lies in memory -/
structure NtS (w wr : World) (gf gt a c : Nat) (F T : Lk) (up : Bool) (p : Option Addr) (n cc : Nat) (go takes wh : Int) : Prop where
  f : LkAt wr gf F
  t : LkAt wr gt T
  a : LkAt wr a F
  c : LkAt wr c T
  x : Arr wr w.heap.size 71 (wyL up p n cc go takes wh)
  b : Below w.heap.size w wr
theorem NtS.kept {w wr w' : World} {gf gt a c : Nat} {F T : Lk} {up : Bool} {p : Option Addr} {n cc : Nat} {go takes wh : Int} (h : NtS w wr gf gt a c F T up p n cc go takes wh) (hb : Below wr.heap.size wr w') : NtS w w' gf gt a c F T up p n cc go takes wh :=
  ⟨h.f.kept hb, h.t.kept hb, h.a.kept hb, h.c.kept hb, h.x.kept hb, h.b.trans (hb.mono h.b.size)⟩

set_option maxHeartbeats 8000000 in
set_option maxRecDepth 100000 in
theorem nothing_of (gf gt : Nat) (F T : Lk) (pb : Option Addr) (cb n N : Nat) (P PC text : List Nat) (up : Bool) (pt : Option Addr) (ct : Nat) (go takes wh : Int) (w : World) (hF : LkAt w gf F) (hT : LkAt w gt T) (hP : Piece w pb cb P) (hN : N = n + 28) (hPl : P.length = N) (hn : n ≤ 1196) (hX : Piece w pt ct text) (htl : text.length = n)
    (hPC : PC = chF1 P (N - 1) 1)
    (hA : ∀ v : World, Below w.heap.size w v → Calls Tryd.prog 18 #[.pointer (some ⟨gt, 0, none⟩), .int .i64 go, .int .i64 7, .slice pb N cb] v fun e w' => ∃ u, e = .returned (.tuple #[u, .bool false, .int .i64 0]) ∧ w'.ownsRow v.heap.size 5 1 u n (u8s text) ∧ Below v.heap.size v w')
    (hB : ∀ (v : World) (q : Option Addr) (cq : Nat), Below w.heap.size w v → Piece v q cq PC → Calls Tryd.prog 18 #[.pointer (some ⟨gt, 0, none⟩), .int .i64 go, .int .i64 7, .slice q N cq] v fun e w' => e = .returned (.tuple #[.slice none 0 0, .bool false, .int .i64 60]) ∧ Below v.heap.size v w')
    (hC : ∀ v : World, Below w.heap.size w v → Calls Tryd.prog 18 #[.pointer (some ⟨gf, 0, none⟩), .int .i64 go, .int .i64 7, .slice pb N cb] v fun e w' => e = .returned (.tuple #[.slice none 0 0, .bool false, .int .i64 90]) ∧ Below v.heap.size v w') :
    Calls Tryd.prog 23 #[.pointer (some ⟨gf, 0, none⟩), .pointer (some ⟨gt, 0, none⟩), .slice pb N cb, .agg (wyL up pt n ct go takes wh).toArray] w fun e w' => e = .returned (.bool true) ∧ Below w.heap.size w w' := by
  have HA := hide hA
  have HB := hide hB
  have HC := hide hC
  have HPv := hide (fun (v : World) (hb : Below w.heap.size w v) => hP.kept hb)
  have HXv := hide (fun (v : World) (hb : Below w.heap.size w v) => hX.kept hb)
  have HTL := hide htl
  have HPL := hide hPl
  have HPB := hide hP.2.2.1
  have HXB := hide hX.2.2.1
  have HPC := hide hPC
  have HNN : Hid (28 ≤ N ∧ N ≤ 1224) := by show _ ∧ _; omega
  have HF := hide (fun (v : World) (hb : Below w.heap.size w v) => hF.kept hb)
  have HT := hide (fun (v : World) (hb : Below w.heap.size w v) => hT.kept hb)
  have A1 := hide (wy_box w up pt n ct go takes wh)
  have HN1 : Hid (wrap64 ((N : Int) - 1) = ((N - 1 : Nat) : Int)) := by show _ = _; unfold wrap64; omega
  clear hF hT hP hN hPl hn hX htl hPC hA hB hC
  go_enter Tryd.func23, Tryd.ntmps23
  go_upto_region 1 with fail
  generalize w.alloc (Obj.cells #[Value.bool up, Value.slice pt n ct, Value.int .i64 go, Value.int .i64 takes, Value.int .i64 wh] 71) = w1 at *
  go_wp2_with fail
  refine (copy_at w1 gf F (HF.out w1 A1.out.2)).mono ?_
  rintro r w2 ⟨a, rfl, _, ha, hb⟩
  have A2 : Hid (LkAt w2 a F ∧ Arr w2 w.heap.size 71 (wyL up pt n ct go takes wh) ∧ Below w.heap.size w w2) := ⟨ha, A1.out.1.kept hb, A1.out.2.trans (hb.mono A1.out.2.size)⟩
  clear ha hb A1
  go_wp2_with fail
  refine (copy_at w2 gt T (HT.out w2 A2.out.2.2)).mono ?_
  rintro r w3 ⟨c, rfl, _, hc, hb⟩
  have A3 : Hid (NtS w w3 gf gt a c F T up pt n ct go takes wh) := by
    have hb3 := A2.out.2.2.trans (hb.mono A2.out.2.2.size)
    exact ⟨HF.out w3 hb3, HT.out w3 hb3, A2.out.1.kept hb, hc, A2.out.2.1.kept hb, hb3⟩
  clear hc hb A2 HF HT
  have x2 := A3.out.x.cell 2
  simp only [List.getElem?_cons_zero, List.getElem?_cons_succ] at x2
  go_wp2_with fail
  clear x2
  refine (HA.out w3 A3.out.b).mono ?_
  rintro r w4 ⟨u, rfl, ho, hb⟩
  obtain ⟨p4, c4, rfl, hp4, _⟩ := own_piece_n ho HTL.out HXB.out
  have A4 := hide (A3.out.kept hb)
  have P4 := hide hp4
  clear ho hb hp4 A3 HA
  have x1 := A4.out.x.cell 1
  simp only [List.getElem?_cons_zero, List.getElem?_cons_succ] at x1
  have hcv1 := conv_any P4.out.1 (c := c4) n HTL.out
  have hcv2 := conv_any (HXv.out w4 A4.out.b).1 (c := ct) n HTL.out
  generalize strF text = S at *
  go_wp2_with fail
  clear hcv1 hcv2 x1
  refine (same_lk w4 gt c T A4.out.t A4.out.c).mono ?_
  rintro r w5 ⟨rfl, hb⟩
  have A5 := hide (A4.out.kept hb)
  clear hb A4 P4
  go_upto_region 6 with (at_builtin; refine wpList_append_bytes rfl (.tmp 50) (.tmp 51) rfl w5.heap.size _ [] rfl 0 rfl (World.ownsRow_made w5 #[] 0 (Nat.le_refl _) (Nat.zero_le _) rfl) pb N cb P HPL.out rfl ((HPv.out w5 A5.out.b).1.kept ((Below.refl _ _).alloc (Nat.le_refl _) _)) (HPv.out w5 A5.out.b).2.1 (by have := HNN.out; omega) (by simp) ?_; intro v6 w6 hown hgrow; have B6 : Hid (Below w5.heap.size w5 w6) := ((Below.refl _ w5).alloc (Nat.le_refl _) _).trans (grown_below hgrow (by simp) (by intro k hk; have h : some w5.heap.size = some k := hk; cases h; exact Nat.le_refl _)); have O6 : Hid (w6.ownsRow w5.heap.size 5 1 v6 N (u8s P)) := (show World.ownsRow _ _ _ _ _ _ _ by simpa using hown); obtain ⟨gc, cap, rfl, hgc, _, hcap, hcm⟩ := own_shape O6.out (by have := HNN.out; omega); have HGC := hide hgc; clear hown hgrow hgc hcap hcm)
  obtain ⟨i, hi⟩ : ∃ i, i = N - 1 := ⟨_, rfl⟩
  have hN1 := HN1.out
  rw [← hi] at hN1
  have HI := hide hi
  have hiN : i < N := by have := HNN.out; omega
  have HCF : Hid (PC = P.set i (P.getD i 0 ^^^ 1)) := by show _ = _; rw [HPC.out, ← hi]; rfl
  have HPCL : Hid (PC.length = N) := by show _ = _; rw [HPC.out, chF1_length, HPL.out]
  have HPCB : Hid (BytesN PC) := by show BytesN _; rw [HPC.out]; exact chF1_bytes HPB.out _ (by omega)
  clear hi HPC HN1
  have eu := u8_xor_nat (P.getD i 0) 1 (getD_byte HPB.out i) (by omega)
  simp only [Int.cast_ofNat_Int] at eu
  have ci := (O6.out.cellAt i (by omega)).trans (u8s_at (by rw [HPL.out]; exact hiN))
  have fi := O6.out.frozenAt i
  have hst := (O6.out.stored i (.int .u8 ((P.getD i 0 ^^^ 1 : Nat) : Int)))
  rw [u8s_set, ← HCF.out] at hst
  have O7 := hide hst.1
  have B7 : Hid (Below w5.heap.size w5 (w6.setCell ⟨gc, i, none⟩ (.int .u8 ((P.getD i 0 ^^^ 1 : Nat) : Int)))) := B6.out.setCell HGC.out _
  clear hst O6 HCF
  generalize P.getD i 0 ^^^ 1 = xy at *
  generalize P.getD i 0 = x at *
  go_upto_region 7 with fail
  clear ci fi eu hN1 hiN HI
  generalize w6.setCell ⟨gc, i, none⟩ (.int .u8 (xy : Int)) = w7 at *
  have A7 := hide (A5.out.kept B7.out)
  obtain ⟨pc, cc, hpv, hpc, _⟩ := own_piece_n O7.out HPCL.out HPCB.out
  cases hpv
  have P7 := hide hpc
  clear hpc O7 B7 B6 A5 HGC
  have x2 := A7.out.x.cell 2
  simp only [List.getElem?_cons_zero, List.getElem?_cons_succ] at x2
  go_wp2_with fail
  clear x2
  refine (HB.out w7 _ _ A7.out.b P7.out).mono ?_
  rintro r w8 ⟨rfl, hb⟩
  have A8 := hide (A7.out.kept hb)
  clear hb A7 P7 HB
  have x2 := A8.out.x.cell 2
  simp only [List.getElem?_cons_zero, List.getElem?_cons_succ] at x2
  go_wp2_with fail
  clear x2
  refine (HC.out w8 A8.out.b).mono ?_
  rintro r w9 ⟨rfl, hb⟩
  have A9 := hide (A8.out.kept hb)
  clear hb A8 HC
  go_wp2_with fail
  refine (same_lk w9 gt c T A9.out.t A9.out.c).mono ?_
  rintro r wa ⟨rfl, hb⟩
  have Aa := hide (A9.out.kept hb)
  clear hb A9
  go_wp2_with fail
  refine (same_lk wa gf a F Aa.out.f Aa.out.a).mono ?_
  rintro r wb ⟨rfl, hb⟩
  have Ab := hide (Aa.out.kept hb)
  clear hb Aa
  go_wp2
  go_ret
  exact ⟨rfl, Ab.out.b⟩

/-- .. of what was sent last: F sent it, T heard it -/
theorem nothing_any (gf gt : Nat) (F0 T : Lk) (pb : Option Addr) (cb n : Nat) (text : List Nat) (up : Bool) (pt : Option Addr) (ct : Nat) (now go takes wh : Int) (w : World) (hF : LkAt w gf F0.sent) (hT : LkAt w gt T) (hP : Piece w pb cb (sndP F0 now text)) (hn : n ≤ 1196) (hX : Piece w pt ct text) (htl : text.length = n)
    (hx : F0.next < 9223372036854775808) (hc : T.code = F0.code) (hm : T.mark = F0.mark) (hd : F0.down ≠ T.down) (hf : T.fresh F0.next = false) (hg : IsTime go) (hL : Laid w) :
    Calls Tryd.prog 23 #[.pointer (some ⟨gf, 0, none⟩), .pointer (some ⟨gt, 0, none⟩), .slice pb (n + 28) cb, .agg (wyL up pt n ct go takes wh).toArray] w fun e w' => e = .returned (.bool true) ∧ Below w.heap.size w w' := by
  have hL2 := hL.size
  have hLB : ∀ v, Below w.heap.size w v → Laid v := fun v hb => hL.keptB (B := w.heap.size) hL2 hb
  have hpl : (sndP F0 now text).length = n + 28 := by rw [sndP_length, htl]
  have ha7 : IsAddr 7 := ⟨by omega, by omega⟩
  refine nothing_of gf gt F0.sent T pb cb n (n + 28) (sndP F0 now text) (chF1 (sndP F0 now text) (n + 27) 1) text up pt ct go takes wh w hF hT hP rfl hpl hn hX htl rfl ?_ ?_ ?_
  · intro v hb
    exact hear_old gt F0 T pb cb n text now go 7 v (hT.kept hb) hg ha7 hx htl hn hc hm hd (hP.kept hb) (hLB v hb) hf
  · intro v q cq hb hq
    have h := hear_any' gt T q cq (n + 28) (chF1 (sndP F0 now text) (n + 27) 1) go 7 v (hT.kept hb) hg ha7 hq (by rw [chF1_length, hpl]) (hLB v hb)
    have e1 : opE T.mark (chF1 (sndP F0 now text) (n + 27) 1) = 60 := by rw [hm, ← htl]; exact heE_bad now text (by omega)
    have e : heE T (chF1 (sndP F0 now text) (n + 27) 1) = 60 := by unfold heE; rw [e1, if_neg (by omega)]
    simp only [e] at h
    simpa using h
  · intro v hb
    exact hear_own gf F0 F0.sent pb cb n text now go 7 v (hF.kept hb) hg ha7 hx htl hn rfl rfl rfl (hP.kept hb) (hLB v hb)

end Go.Proofs.YtanjbblkijhibaaDoor
