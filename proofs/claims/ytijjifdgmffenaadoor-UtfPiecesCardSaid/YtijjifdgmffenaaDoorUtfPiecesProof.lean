/-
  UtfPieces: however bytes are cut.
-/
import Derived.Test.YtijjifdgmffenaaDoorUN
import Derived.Test.YtijjifdgmffenaaDoorUM
namespace Go.Proofs.YtijjifdgmffenaaDoor
namespace UtfPiecesProof
open Go.ChangeShapes Go.WideShapes Go.ChangeAt Go.WideMaps Go.WideElems Go.RowKit

set_option maxHeartbeats 8000000 in
set_option maxRecDepth 100000 in
theorem walk_in (L cap a m : Nat) (p : Option Addr) (bs : List Nat) (c s : Int) (w : World) (hp : Piece w p cap bs) (hl : bs.length = L) (hL2 : L ≤ 2000) (ha : a ≤ m) (hm : m ≤ L) (hc : c = (a : Int)) (hs : s = (m : Int)) (hL : LaidU w) :
    Calls Tryd.prog 7 #[.slice p L cap, .int .i64 c, .int .i64 s] w fun e w' => e = .returned (.bool true) ∧ Below w.heap.size w w' := by
  have HK := hide known_any
  have HN := hide new_any
  have HP := hide (And.intro hp (And.intro hl (And.intro hL2 (And.intro ha hm))))
  have HL := hide hL
  have hcp : L ≤ cap := by have := hp.2.2.2.1; omega
  have d1 : decide ((2000 : Int) < (L : Int)) = false := decide_eq_false (by omega)
  have d2 : decide (c < 0) = false := decide_eq_false (by omega)
  have d3 : decide ((L : Int) < c) = false := decide_eq_false (by omega)
  have d4 : decide (s < c) = false := decide_eq_false (by omega)
  have d5 : decide ((L : Int) < s) = false := decide_eq_false (by omega)
  have S1 : ∀ v : World, (Instr.slice 22 (.slice p L cap) none (some (.int .i64 c)) none).run Tryd.prog v = .ok (.slice p a cap) v := fun v => by rw [hc]; exact run_to v p L cap a (by omega)
  have S2 : ∀ v : World, (Instr.slice 22 (.slice p L cap) (some (.int .i64 c)) (some (.int .i64 s)) none).run Tryd.prog v = .ok (.slice (cutP p a cap) (m - a) (cap - a)) v := fun v => by rw [hc, hs]; exact run_mid v p L cap a m (by omega) (by omega)
  have S3 : ∀ v : World, (Instr.slice 22 (.slice p L cap) (some (.int .i64 s)) none none).run Tryd.prog v = .ok (.slice (cutP p m cap) (L - m) (cap - m)) v := fun v => by rw [hs]; exact run_fromL v p L cap m (by omega)
  clear hcp hp hl hL2 ha hm hL hc hs
  go_enter Tryd.func7, Tryd.ntmps7
  go_wp2_with fail
  refine (HK.out w HL.out).mono ?_
  rintro r w0 ⟨rfl, b0⟩
  have HB0 := hide b0
  clear b0
  go_wp2_with fail
  refine (HN.out w0).mono ?_
  rintro r w1 ⟨rfl, a1, b1⟩
  obtain ⟨G, hG⟩ : ∃ G, w0.heap.size = G := ⟨_, rfl⟩
  rw [hG] at a1 b1
  rw [hG]
  have HG : Hid (G < w1.heap.size) := a1.lt
  have HG0 : Hid (0 < G) := by rw [← hG]; exact Nat.lt_of_lt_of_le HL.out.size HB0.out.size
  have HB1 : Hid (Below w.heap.size w w1) := HB0.out.trans (b1.mono (by rw [← hG]; exact HB0.out.size))
  have HL1 : Hid (LaidU w1) := HL.out.kept HB1.out
  have HP1 : Hid (Piece w1 p cap bs) := HP.out.1.kept HB1.out
  have HA1 := hide a1
  obtain ⟨e1, t1, hr1⟩ : ∃ e t, Dc.no.run (bs.take a) = (e, t) := ⟨_, _, rfl⟩
  obtain ⟨e2, t2, hr2⟩ : ∃ e t, e1.run ((bs.drop a).take (m - a)) = (e, t) := ⟨_, _, rfl⟩
  obtain ⟨e3, t3, hr3⟩ : ∃ e t, e2.run (bs.drop m) = (e, t) := ⟨_, _, rfl⟩
  have hok1 : e1.ok := by have := Dc.run_ok no_ok (bs.take a); rw [hr1] at this; exact this
  have hok2 : e2.ok := by have := Dc.run_ok hok1 ((bs.drop a).take (m - a)); rw [hr2] at this; exact this
  have hlx : bs = bs.take a ++ ((bs.drop a).take (m - a) ++ bs.drop m) := by
    have h1 : bs.drop m = (bs.drop a).drop (m - a) := by rw [List.drop_drop]; congr 1; have := HP.out.2.2.2.1; omega
    rw [h1, List.take_append_drop, List.take_append_drop]
  have hrun : Dc.no.run bs = (e3, t1 ++ (t2 ++ t3)) := by
    rw [hlx, Dc.run_append, hr1, Dc.run_append]
    simp only
    rw [hr2]
    simp only
    rw [hr3]
  have hutf : utfF bs = t1 ++ t2 ++ t3 ++ e3.end := by unfold utfF; rw [hrun]; simp only [List.append_assoc]
  have hlen := (utfF_len bs).1
  have HU := hide (And.intro hutf hlen)
  have HGW : Hid (w.heap.size ≤ G) := by rw [← hG]; exact HB0.out.size
  have HR := hide (And.intro hr1 (And.intro hr2 (And.intro hr3 (And.intro hok1 hok2))))
  have HT : Hid (t1.length + t2.length + t3.length + e3.end.length ≤ L ∧ L ≤ 2000) := by
    have h1 := HP.out.2.1
    have h2 := HP.out.2.2.1
    rw [hutf] at hlen
    simp only [List.length_append] at hlen
    exact ⟨by omega, h2⟩
  have HA0 : Hid (Af w1 (w1.alloc (.cells #[] 21)) w1.heap.size G 0 (.slice (some ⟨w1.heap.size, 0, none⟩) 0 0) [] Dc.no) :=
    ⟨a1.alloc _, own_empty w1, (Kp.refl _ _ _).below (Nat.le_refl _) ((Below.refl _ _).alloc (Nat.le_refl _) _), by simp⟩
  have HPU1 := hide (HA0.out.put HG.out HG0.out HL1.out no_ok a cap p (bs.take a) ((HA0.out.piece rfl HA1.out HP1.out).take a) (by rw [List.length_take, HP.out.2.1]; have := HP.out.2.2.2; omega) (by have := HP.out.2.2; omega) hr1)
  clear a1 b1 hG hr1 hr2 hr3 hok1 hok2 hlx hrun hutf hlen HN
  go_wp2_with fail
  refine HPU1.out.mono ?_
  rintro r w2 ⟨p2, c2, rfl, r2, af2⟩
  have HA := hide af2
  have HR2 := hide r2
  have HSZ : Hid (0 + t1.length ≤ 17592186044416) := by have := HT.out; show _ ≤ _; omega
  clear r2 af2 HPU1 HA0
  go_upto_region 9 with (refine wpList_append_runes rfl _ _ rfl w1.heap.size _ [] rfl 0 rfl HA.out.ho p2 _ c2 (ints t1) (ints_length _) rfl HR2.out.1 HR2.out.2.1 HSZ.out HA.out.hB ?_; intro v3 w3 ho3 hw3; have HA3 := hide (HA.out.app HG.out ho3 hw3); clear ho3 hw3)
  have HA3' : Hid (Af w1 w3 w1.heap.size G t1.length v3 (ints t1) e1) := by have h := HA3.out; rw [Nat.zero_add] at h; exact h
  have HPU2 := hide (HA3'.out.put HG.out HG0.out HL1.out HR.out.2.2.2.1 (m - a) (cap - a) (cutP p a cap) ((bs.drop a).take (m - a)) (((HA3'.out.piece rfl HA1.out HP1.out).from a (by rw [HP.out.2.1]; have := HP.out.2.2.2; omega)).take (m - a)) (by rw [List.length_take, List.length_drop, HP.out.2.1]; have := HP.out.2.2.2; omega) (by have := HP.out.2.2; omega) HR.out.2.1)
  clear HA HA3 HR2 HSZ
  go_wp2_with fail
  refine HPU2.out.mono ?_
  rintro r w4 ⟨p4, c4, rfl, r4, af4⟩
  have HA := hide af4
  have HR4 := hide r4
  have HSZ : Hid (t1.length + t2.length ≤ 17592186044416) := by have := HT.out; show _ ≤ _; omega
  clear r4 af4 HPU2 HA3'
  go_upto_region 10 with (refine wpList_append_runes rfl _ _ rfl w1.heap.size _ (ints t1) rfl t1.length (ints_length _) HA.out.ho p4 _ c4 (ints t2) (ints_length _) rfl HR4.out.1 HR4.out.2.1 HSZ.out HA.out.hB ?_; intro v5 w5 ho5 hw5; have HA5 := hide (HA.out.app HG.out ho5 hw5); clear ho5 hw5)
  have HPU3 := hide (HA5.out.put HG.out HG0.out HL1.out HR.out.2.2.2.2 (L - m) (cap - m) (cutP p m cap) (bs.drop m) ((HA5.out.piece rfl HA1.out HP1.out).from m (by rw [HP.out.2.1]; have := HP.out.2.2.2; omega)) (by rw [List.length_drop, HP.out.2.1]) (by have := HP.out.2.2; omega) HR.out.2.2.1)
  clear HA HR4 HSZ
  go_wp2_with fail
  refine HPU3.out.mono ?_
  rintro r w6 ⟨p6, c6, rfl, r6, af6⟩
  have HA := hide af6
  have HR6 := hide r6
  have HSZ : Hid (t1.length + t2.length + t3.length ≤ 17592186044416) := by have := HT.out; show _ ≤ _; omega
  clear r6 af6 HPU3 HA5
  go_upto_region 11 with (refine wpList_append_runes rfl _ _ rfl w1.heap.size _ (ints t1 ++ ints t2) rfl (t1.length + t2.length) (by rw [List.length_append, ints_length, ints_length]) HA.out.ho p6 _ c6 (ints t3) (ints_length _) rfl HR6.out.1 HR6.out.2.1 HSZ.out HA.out.hB ?_; intro v7 w7 ho5 hw5; have HA7 := hide (HA.out.app HG.out ho5 hw5); clear ho5 hw5)
  have HEN := hide (HA7.out.end HG.out)
  clear HA HR6 HSZ
  go_wp2_with fail
  refine HEN.out.mono ?_
  rintro r w8 ⟨p8, c8, rfl, r8, af8⟩
  have HA := hide af8
  have HR8 := hide r8
  have HSZ : Hid (t1.length + t2.length + t3.length + e3.end.length ≤ 17592186044416) := by have := HT.out; show _ ≤ _; omega
  clear r8 af8 HEN HA7
  go_upto_region 12 with (refine wpList_append_runes rfl _ _ rfl w1.heap.size _ (ints t1 ++ ints t2 ++ ints t3) rfl (t1.length + t2.length + t3.length) (by rw [List.length_append, List.length_append, ints_length, ints_length, ints_length]) HA.out.ho p8 _ c8 (ints e3.end) (ints_length _) rfl HR8.out.1 HR8.out.2.1 HSZ.out HA.out.hB ?_; intro v9 w9 ho5 hw5; have HA9 := hide (HA.out.app HG.out ho5 hw5); clear ho5 hw5)
  clear HA HR8 HSZ S1 S2 S3 d1 d2 d3 d4 d5
  obtain ⟨n, hn⟩ : ∃ n, (ints (utfF bs)).length = n := ⟨_, rfl⟩
  have hown : w9.ownsRow w1.heap.size 21 1 v9 (ints (utfF bs)).length (i32s (ints (utfF bs))) := by
    have h := HA9.out.ho
    rw [ints_length, HU.out.1, ints_append, ints_append, ints_append]
    have e : (t1 ++ t2 ++ t3 ++ e3.end).length = t1.length + t2.length + t3.length + e3.end.length := by simp only [List.length_append]
    rw [e]
    exact h
  obtain ⟨q9, x9, rfl, hr9, _⟩ := own_rpiece hown
  have hB9 : Below w.heap.size w w9 := HB1.out.trans ((HA9.out.hk.toBelow (Nat.le_of_lt HG.out)).mono HGW.out)
  rw [hn]
  have HB9 := hide hB9
  have HR9 := hide hr9
  have HNL := hide hn
  have HDE := hide (decode_of L cap p bs w9 (HL.out.kept hB9) (HP.out.1.kept hB9) HP.out.2.1 (by have := HP.out.2.2.1; omega) (ts := utfF bs) rfl)
  have HHE := HA9.out.ha
  have HH9 := hide HHE
  have nl : n ≤ L := by rw [← hn, ints_length, ← HP.out.2.1]; exact HU.out.2
  have nl' : decide ((n : Int) ≤ (L : Int)) = true := decide_eq_true (by omega)
  have n9 : n ≤ 99000 := by have := HP.out.2.2.1; omega
  have HN9 := hide n9
  have HH0 : Hid ((if e3.h = 0 then e3 else Dc.no).h = 0) := by
    show _ = _
    split
    · assumption
    · rfl
  clear hown hB9 hr9 hn HHE n9 HA9
  go_wp2_with fail
  refine HDE.out.mono ?_
  rintro r wa ⟨pa, ca, rfl, ra, _, ba⟩
  have hlu : (utfF bs).length = n := by rw [← HNL.out, ints_length]
  rw [hlu]
  have HBA : Hid (Below w.heap.size w wa) := HB9.out.trans (ba.mono HB9.out.size)
  have HSA := hide (same_any n x9 ca q9 pa (ints (utfF bs)) wa (HR9.out.kept ba) ra HNL.out HN9.out)
  have HHA := hide (HH9.out.kept ba)
  clear ra ba hlu HDE HH9 HR9
  go_wp2_with fail
  refine HSA.out.mono ?_
  rintro r wb ⟨rfl, bb⟩
  have HBB : Hid (Below w.heap.size w wb) := HBA.out.trans (bb.mono HBA.out.size)
  have HHB := held_any _ G wb (HHA.out.kept bb)
  rw [HH0.out] at HHB
  have HHB := hide HHB
  clear bb HSA HHA
  go_wp2_with fail
  refine HHB.out.mono ?_
  rintro r wc ⟨rfl, rfl⟩
  go_wp2_with fail
  go_ret
  exact ⟨rfl, HBB.out⟩

set_option maxHeartbeats 2000000 in
theorem walk_out1 (L cap : Nat) (p : Option Addr) (c s : Int) (w : World) (hL : LaidU w) (d1 : decide ((2000 : Int) < (L : Int)) = true) :
    Calls Tryd.prog 7 #[.slice p L cap, .int .i64 c, .int .i64 s] w fun e w' => e = .returned (.bool true) ∧ Below w.heap.size w w' := by
  have HK := hide (known_any w hL)
  clear hL
  go_enter Tryd.func7, Tryd.ntmps7
  go_wp2_with fail
  refine HK.out.mono ?_
  rintro r w0 ⟨rfl, b0⟩
  have HB0 := hide b0
  clear b0 HK
  go_wp2_with fail
  go_ret
  exact ⟨rfl, HB0.out⟩

set_option maxHeartbeats 2000000 in
theorem walk_out2 (L cap : Nat) (p : Option Addr) (c s : Int) (w : World) (hL : LaidU w) (d1 : decide ((2000 : Int) < (L : Int)) = false) (d2 : decide (c < 0) = true) :
    Calls Tryd.prog 7 #[.slice p L cap, .int .i64 c, .int .i64 s] w fun e w' => e = .returned (.bool true) ∧ Below w.heap.size w w' := by
  have HK := hide (known_any w hL)
  clear hL
  go_enter Tryd.func7, Tryd.ntmps7
  go_wp2_with fail
  refine HK.out.mono ?_
  rintro r w0 ⟨rfl, b0⟩
  have HB0 := hide b0
  clear b0 HK
  go_wp2_with fail
  go_ret
  exact ⟨rfl, HB0.out⟩

set_option maxHeartbeats 2000000 in
theorem walk_out3 (L cap : Nat) (p : Option Addr) (c s : Int) (w : World) (hL : LaidU w) (d1 : decide ((2000 : Int) < (L : Int)) = false) (d2 : decide (c < 0) = false) (d3 : decide ((L : Int) < c) = true) :
    Calls Tryd.prog 7 #[.slice p L cap, .int .i64 c, .int .i64 s] w fun e w' => e = .returned (.bool true) ∧ Below w.heap.size w w' := by
  have HK := hide (known_any w hL)
  clear hL
  go_enter Tryd.func7, Tryd.ntmps7
  go_wp2_with fail
  refine HK.out.mono ?_
  rintro r w0 ⟨rfl, b0⟩
  have HB0 := hide b0
  clear b0 HK
  go_wp2_with fail
  go_ret
  exact ⟨rfl, HB0.out⟩

set_option maxHeartbeats 2000000 in
theorem walk_out4 (L cap : Nat) (p : Option Addr) (c s : Int) (w : World) (hL : LaidU w) (d1 : decide ((2000 : Int) < (L : Int)) = false) (d2 : decide (c < 0) = false) (d3 : decide ((L : Int) < c) = false) (d4 : decide (s < c) = true) :
    Calls Tryd.prog 7 #[.slice p L cap, .int .i64 c, .int .i64 s] w fun e w' => e = .returned (.bool true) ∧ Below w.heap.size w w' := by
  have HK := hide (known_any w hL)
  clear hL
  go_enter Tryd.func7, Tryd.ntmps7
  go_wp2_with fail
  refine HK.out.mono ?_
  rintro r w0 ⟨rfl, b0⟩
  have HB0 := hide b0
  clear b0 HK
  go_wp2_with fail
  go_ret
  exact ⟨rfl, HB0.out⟩

set_option maxHeartbeats 2000000 in
theorem walk_out5 (L cap : Nat) (p : Option Addr) (c s : Int) (w : World) (hL : LaidU w) (d1 : decide ((2000 : Int) < (L : Int)) = false) (d2 : decide (c < 0) = false) (d3 : decide ((L : Int) < c) = false) (d4 : decide (s < c) = false) (d5 : decide ((L : Int) < s) = true) :
    Calls Tryd.prog 7 #[.slice p L cap, .int .i64 c, .int .i64 s] w fun e w' => e = .returned (.bool true) ∧ Below w.heap.size w w' := by
  have HK := hide (known_any w hL)
  clear hL
  go_enter Tryd.func7, Tryd.ntmps7
  go_wp2_with fail
  refine HK.out.mono ?_
  rintro r w0 ⟨rfl, b0⟩
  have HB0 := hide b0
  clear b0 HK
  go_wp2_with fail
  go_ret
  exact ⟨rfl, HB0.out⟩

theorem walk (p : Option Addr) (cap : Nat) (bs : List Nat) (c s : Int) (w : World) (hp : Piece w p cap bs) (_hc : (Lit.int .i64 c).wf = true) (_hs : (Lit.int .i64 s).wf = true) (hL : LaidU w) :
    Calls Tryd.prog 7 #[.slice p bs.length cap, .int .i64 c, .int .i64 s] w fun e w' => e = .returned (.bool true) ∧ Below w.heap.size w w' := by
  by_cases h1 : (2000 : Int) < (bs.length : Int)
  · exact walk_out1 _ cap p c s w hL (decide_eq_true h1)
  by_cases h2 : c < 0
  · exact walk_out2 _ cap p c s w hL (decide_eq_false h1) (decide_eq_true h2)
  by_cases h3 : (bs.length : Int) < c
  · exact walk_out3 _ cap p c s w hL (decide_eq_false h1) (decide_eq_false h2) (decide_eq_true h3)
  by_cases h4 : s < c
  · exact walk_out4 _ cap p c s w hL (decide_eq_false h1) (decide_eq_false h2) (decide_eq_false h3) (decide_eq_true h4)
  by_cases h5 : (bs.length : Int) < s
  · exact walk_out5 _ cap p c s w hL (decide_eq_false h1) (decide_eq_false h2) (decide_eq_false h3) (decide_eq_false h4) (decide_eq_true h5)
  exact walk_in bs.length cap c.toNat s.toNat p bs c s w hp rfl (by omega) (by omega) (by omega) (by omega) (by omega) hL

set_option maxRecDepth 100000 in
theorem lifted (os : Os) (started : os.Started) (H : Type) (enc : TypeId × Value → H) :
    ReturnsInHanded {} Tryd.checked os 7 .any (fun w args => (Rows.utfPiecesSpec.pre enc Tryd.prog Tryd.f7 [] false w args ∧ laidMetH Tryd.prog laid1 w) ∧ sizedMet enc Tryd.prog Tryd.f7 (OpenSpec.ofChange Rows.utfPiecesSpec) false w args)
      (Rows.utfPiecesSpec.post enc Tryd.prog Tryd.f7 false true false false) := by
  refine returnsInHanded_of_change_and (C := Tryd.checked) (X := fun w _ => laidMetH Tryd.prog laid1 w) (fun _ _ _ hh h => h.of_heap hh) own started (by kernel_rfl) Tryd.func7
    (ChangeSpec.witness_shaped (enc := enc) (C := Tryd.checked) (os := os) (X := fun w _ => laidMetH Tryd.prog laid1 w) false (World.doorLaid Tryd.prog 400 os) #[.slice none 0 0, .int .i64 0, .int .i64 0] 8 rfl (World.shaped_of_RefB (by kernel_rfl) (by kernel_rfl)) (by kernel_rfl) (by kernel_rfl) (by kernel_rfl) (door_met os _)) ?_
  intro W base args ds gs before hval0 hW _ hsz hL _
  have hval : ∀ (j : Nat) t v, Tryd.f7.params[j]? = some t → args[j]? = some v → Value.okWide Tryd.prog W .any base t v := hval0
  have hW' := hW
  obtain ⟨p, q, hA0, hV, rfl, hfz, hnd⟩ := hW
  have hA : DataW.TrodAll enc Tryd.prog W 0 (fun _ => true) true Tryd.f7.params.toList args.toList ds p := hA0
  rw [Tryd.params7] at hA hval
  obtain ⟨v0, vs0, d0, ds0, p0, q0, hargs, rfl, rfl, h0, r0⟩ := trodAll_cons hA
  obtain ⟨v1, vs1, d1, ds1, p1, q1, rfl, rfl, rfl, h1, r1⟩ := trodAll_cons r0
  obtain ⟨v2, vs2, d2, ds2, p2, q2, rfl, rfl, rfl, h2, r2⟩ := trodAll_cons r1
  obtain ⟨rfl, rfl, rfl⟩ := trodAll_nil r2
  obtain rfl : args = #[v0, v1, v2] := by cases args; simp_all
  obtain ⟨rfl, rfl⟩ := trodVars_none hV
  obtain ⟨a0, len0, cap0, rfl⟩ := okWide_slice Tryd.underlying22 (hval 0 22 v0 rfl rfl)
  have k0 := h0
  have lt0 : ∀ x ∈ p0, x.block < W.heap.size := by obtain ⟨m, hm⟩ := k0; exact DataW.trod_lt m _ _ _ hm
  obtain ⟨fuel0, hf0⟩ := h0
  obtain ⟨a0', cap0', x0, hcs0, w0⟩ := piece_of hf0
  simp [Value.cells] at hcs0
  obtain ⟨rfl, rfl, rfl⟩ := hcs0
  clear hf0
  obtain ⟨a1, rfl, rfl, rfl, w1⟩ := open_int Tryd.underlying3 (hval 1 3 v1 rfl rfl) h1
  obtain ⟨a2, rfl, rfl, rfl, w2⟩ := open_int Tryd.underlying3 (hval 2 3 v2 rfl rfl) h2
  clear hA0 hval0
  refine (walk a0 cap0 x0 a1 a2 W w0 w1 w2 (of_laid hL)).mono fun e W' ⟨he, bel⟩ => ?_
  subst he
  exact ⟨_, rfl, _, _, _, [], _, [], hW', trodAll_mk1 (shut_bool Tryd.underlying4 _), (trodAll_cons_mk (Below.trod laidOut (by kernel_rfl) (of_decide_eq_true (by kernel_rfl)) k0 bel lt0) (trodAll_cons_mk (shut_int Tryd.underlying3 w1) (trodAll_cons_mk (shut_int Tryd.underlying3 w2) trodAll_mk0))), rfl, bel.frame _, fun h => by cases h⟩

theorem row : Rows.UtfPiecesSaid :=
  OpenClaim.holds_of_wide 7 Tryd.f7 rfl rfl rfl rfl rfl rfl rfl ⟨rfl, rfl, rfl, rfl, rfl⟩ rfl rfl rfl rfl rfl (by kernel_rfl) Tryd.func7 (by kernel_rfl)
    (of_decide_eq_true (by kernel_rfl)) (by unfold Func.isWrapper; first | (rw [if_pos (by decide +kernel)]; kernel_rfl) | (rw [if_neg (by decide +kernel)]; exact ⟨rfl, rfl⟩))
    (fun os started H enc _ => lifted os started H enc)

theorem card : Rows.UtfPiecesCardSaid :=
  Claim7.holds_tied_plain_at .later [] [.data] true (true, Rows.utfPiecesCard.stood.harness.2) false
    row (fun _ h => by cases h) (by kernel_rfl) (fun _ h => by cases h) utfPieces_row_tie rfl ⟨rfl, rfl⟩ (by kernel_rfl) rfl
    (fun f fn hf hfn => by
      obtain rfl : f = 7 := Option.some.inj ((show Tryd.prog.funcNamed "oriel/oriellaw10.UtfPieces" = some 7 by kernel_rfl).symm.trans hf) |>.symm
      obtain rfl : fn = Tryd.f7 := (Option.some.inj (Tryd.func7.symm.trans hfn)).symm
      exact ⟨by kernel_rfl, fun j t ht => by
        rw [Tryd.params7] at ht
        have hm : t ∈ [22, 3, 3] := by simpa using Array.mem_of_getElem? ht
        have hall : ([22, 3, 3].all fun u => !Tryd.prog.wantsStandIn u) = true := by kernel_rfl
        exact (show Tryd.prog.wantsStandIn t = false by simpa using List.all_eq_true.1 hall t hm)⟩)
    (by kernel_rfl)


end UtfPiecesProof

/-- However bytes are cut, what is told of the pieces, and at the end, is what is told of all. -/
theorem utfPieces_holds : Rows.UtfPiecesCardSaid := UtfPiecesProof.card
#print axioms utfPieces_holds
end Go.Proofs.YtijjifdgmffenaaDoor
