/-
  Several texts, joined: IP, IQ.
-/
import Derived.Test.YtbmjlofehbbkbaaDoorKC
import Derived.Test.YtbmjlofehbbkbaaDoorJT

/- What one end sends is heard by the other one: plain. The known rows' two ends. -/
namespace Go.Proofs.YtbmjlofehbbkbaaDoor
open Go.RowKit

theorem sndP_opE {L : Lk} (now : Int) (text : List Nat) (hn : text.length ≤ 1196) : opE L.mark (sndP L now text) = 0 := by
  have hl := sndP_length L now text
  unfold opE
  rw [if_neg (by omega), sndP, paT_pa, paA_pa, if_pos rfl]
theorem sndP_rd {L : Lk} (hx : L.next < 9223372036854775808) (now : Int) (text : List Nat) : rd8 (sndP L now text) = wdF L.down L.next := by
  rw [sndP, rd8_pa _ _ (wdF_lt hx)]
theorem sndP_D {L : Lk} (hx : L.next < 9223372036854775808) (now : Int) (text : List Nat) : wD (rd8 (sndP L now text)) = L.down := by rw [sndP_rd hx, wD_wd hx]
theorem sndP_N {L : Lk} (hx : L.next < 9223372036854775808) (now : Int) (text : List Nat) : wN (rd8 (sndP L now text)) = L.next := by rw [sndP_rd hx, wN_wd hx]
theorem sndP_T {L : Lk} (hx : L.next < 9223372036854775808) (now : Int) (text : List Nat) : opT L.code (sndP L now text) = sndT L now text := by
  rw [opT, sndP_rd hx, sndP, paH_pa, hiF_twice]
/-- what the other one hears -/
theorem heE_snd {L R : Lk} (hx : L.next < 9223372036854775808) (now : Int) (text : List Nat) (hn : text.length ≤ 1196) (hc : R.code = L.code) (hm : R.mark = L.mark) : heE R (sndP L now text) = if L.down = R.down then 90 else 0 := by
  unfold heE
  rw [hc, hm, if_pos (sndP_opE now text hn), sndP_D hx, sndP_T hx, sndT_parts]
theorem heard_snd {L R : Lk} (hx : L.next < 9223372036854775808) (now : Int) (text : List Nat) (hc : R.code = L.code) (t frm : Int) : R.heard' (sndP L now text) t frm = R.took L.next (now % 65535) (L.at now) t frm := by
  unfold Lk.heard'
  rw [hc, sndP_T hx, sndP_N hx, sndT_stamp, sndT_echo]
theorem text_snd {L R : Lk} (hx : L.next < 9223372036854775808) (now : Int) (text : List Nat) (hc : R.code = L.code) : (opT R.code (sndP L now text)).drop 4 = text := by rw [hc, sndP_T hx, sndT_text]

/-- hearing what was sent -/
theorem hear_snd (g : Nat) (L R : Lk) (p : Option Addr) (c n : Nat) (text : List Nat) (now t frm : Int) (w : World) (h : LkAt w g R) (ht : IsTime t) (ha : IsAddr frm) (hx : L.next < 9223372036854775808) (hl : text.length = n) (hn : n ≤ 1196) (hc : R.code = L.code) (hm : R.mark = L.mark) (hd : L.down ≠ R.down)
    (hP : Piece w p c (sndP L now text)) (hL : Laid w) :
    Calls Tryd.prog 14 #[.pointer (some ⟨g, 0, none⟩), .int .i64 t, .int .i64 frm, .slice p (n + 28) c] w fun e w' => ∃ v, e = .returned (.tuple #[v, .bool (R.fresh L.next), .int .i64 0]) ∧ w'.ownsRow w.heap.size 5 1 v n (u8s text) ∧ LkAt w' g (R.took L.next (now % 65535) (L.at now) t frm) ∧ w.grownBy w' (some g) := by
  have h1 := hear_any' g R p c (n + 28) (sndP L now text) t frm w h ht ha hP (by rw [sndP_length, hl]) hL
  simp only [heE_snd hx now text (by omega) hc hm, if_neg hd, text_snd hx now text hc, sndP_N hx, heard_snd hx now text hc, hl] at h1
  simpa using h1
/-- .. by the one that sent it -/
theorem hear_own (g : Nat) (L R : Lk) (p : Option Addr) (c n : Nat) (text : List Nat) (now t frm : Int) (w : World) (h : LkAt w g R) (ht : IsTime t) (ha : IsAddr frm) (hx : L.next < 9223372036854775808) (hl : text.length = n) (hn : n ≤ 1196) (hc : R.code = L.code) (hm : R.mark = L.mark) (hd : L.down = R.down)
    (hP : Piece w p c (sndP L now text)) (hL : Laid w) :
    Calls Tryd.prog 14 #[.pointer (some ⟨g, 0, none⟩), .int .i64 t, .int .i64 frm, .slice p (n + 28) c] w fun e w' => e = .returned (.tuple #[.slice none 0 0, .bool false, .int .i64 90]) ∧ Below w.heap.size w w' := by
  have h1 := hear_any' g R p c (n + 28) (sndP L now text) t frm w h ht ha hP (by rw [sndP_length, hl]) hL
  simp only [heE_snd hx now text (by omega) hc hm, if_pos hd] at h1
  simpa using h1

/-- the last byte of a packet changed -/
theorem heE_bad {L : Lk} (now : Int) (text : List Nat) (hn : text.length ≤ 1196) : opE L.mark (chF1 (sndP L now text) (text.length + 27) 1) = 60 := by
  have hl := sndP_length L now text
  unfold opE
  rw [if_neg (by rw [chF1_length]; omega), if_neg]
  exact ch_tag (t := sndT L now text) (by rw [sndT_length]; omega) (by rw [sndT_length]; omega) (by omega)

end Go.Proofs.YtbmjlofehbbkbaaDoor

/- A walk: the known rows of layer 9. -/
namespace Go.Proofs.YtbmjlofehbbkbaaDoor
open Go.RowKit

theorem keyZ : IsKey (List.replicate 16 0) (List.replicate 32 0) := ⟨⟨rfl, fun i => getD_lt (by intro x hx; rw [List.eq_of_mem_replicate hx]; omega) (by omega) i⟩, rfl, by intro x hx; rw [List.eq_of_mem_replicate hx]; omega⟩

/-- two ends of a way -/
structure TwS (w wx : World) (gu gd : Nat) (U D : Lk) : Prop where
  u : LkAt wx gu U
  d : LkAt wx gd D
  b : Below w.heap.size w wx
  bu : w.heap.size ≤ gu
  bd : w.heap.size ≤ gd
  ne : gu ≠ gd
theorem TwS.kept {w wx w' : World} {gu gd : Nat} {U D : Lk} (h : TwS w wx gu gd U D) (hb : Below wx.heap.size wx w') : TwS w w' gu gd U D := ⟨h.u.kept hb, h.d.kept hb, h.b.trans (hb.mono h.b.size), h.bu, h.bd, h.ne⟩
theorem TwS.up {w wx w' : World} {gu gd : Nat} {U U' D : Lk} (h : TwS w wx gu gd U D) (hu : LkAt w' gu U') (hg : wx.grownBy w' (some gu)) : TwS w w' gu gd U' D :=
  ⟨hu, h.d.grown hg (fun e => h.ne e.symm), h.b.grown hg h.b.size (by intro k hk; cases hk; exact h.bu), h.bu, h.bd, h.ne⟩
theorem TwS.down {w wx w' : World} {gu gd : Nat} {U D D' : Lk} (h : TwS w wx gu gd U D) (hd : LkAt w' gd D') (hg : wx.grownBy w' (some gd)) : TwS w w' gu gd U D' :=
  ⟨h.u.grown hg h.ne, hd, h.b.grown hg h.b.size (by intro k hk; cases hk; exact h.bd), h.bu, h.bd, h.ne⟩
/-- a row beside a link -/
theorem own_lk {w w' : World} {B g : Nat} {L : Lk} {v : Value} {n : Nat} {xs : List Value} (h : w.ownsRow B 5 1 v n xs) (hL : LkAt w g L) (hg : w.grownBy w' (some g)) : w'.ownsRow B 5 1 v n xs := h.kept hg (.inr (own_ne_arr h hL.a (by decide)))

def abL : List Nat := [97, 98]
theorem abL_bytes : BytesN abL := by intro x hx; simp only [abL, List.mem_cons, List.not_mem_nil, or_false] at hx; omega
theorem abL_str : strF abL = ⟨#[97, 98]⟩ := by rfl
theorem ab_lit (w : World) : Piece (w.alloc (Obj.cells #[Value.int .u8 97, Value.int .u8 98] 5 (2, 3))) (some ⟨w.heap.size, 0, none⟩) 2 abL :=
  piece_obj (l := abL) (by rw [heap_at _ _ _ rfl]; rfl) rfl abL_bytes (by omega)

theorem send_good (g : Nat) (L : Lk) (p : Option Addr) (c n : Nat) (text : List Nat) (now : Int) (w : World) (h : LkAt w g L) (ht : IsTime now) (hx : L.next < 9223372036854775808) (hP : Piece w p c text) (hn : text.length = n) (hn2 : n ≤ 1196) (hL : Laid w) (hg : 2 ≤ g) :
    Calls Tryd.prog 7 #[.pointer (some ⟨g, 0, none⟩), .int .i64 now, .slice p n c] w fun e w' => ∃ t, e = .returned (.tuple #[t, .int .i64 0]) ∧ w'.ownsRow w.heap.size 5 1 t (n + 28) (u8s (sndP L now text)) ∧ LkAt w' g L.sent ∧ w.grownBy w' (some g) := by
  have h1 := send_any g L p c n text now w h hP hn hL hg
  have e : seE L now n = 0 := by unfold seE; rw [if_pos ht, if_neg (by omega), if_neg (by omega)]
  simp only [e] at h1
  simpa using h1

/-- the two ends of the known rows -/
def kU (c m : List Nat) : Lk := newL c m false 0 9
def kD (c m : List Nat) : Lk := newL c m true 0 5
def kD1 (c m : List Nat) : Lk := (kD c m).took 0 (100 % 65535) ((kU c m).at 100) 140 7
def kU2 (c m : List Nat) : Lk := (kU c m).sent.took 0 (160 % 65535) ((kD1 c m).at 160) 190 0
theorem kD1_eq (c m : List Nat) : kD1 c m = ⟨c, m, true, 0, 7, true, 0, Me.none, true, 100, 140⟩ := rfl
theorem kU2_eq (c m : List Nat) : kU2 c m = ⟨c, m, false, 1, 9, true, 0, ⟨1, 560, 140⟩, true, 160, 190⟩ := rfl
theorem kD1_again (c m : List Nat) (s x t f : Int) : (kD1 c m).took 0 s x t f = kD1 c m := rfl

/-- what lies in memory while the known rows are gone through -/
structure KnS (w wx : World) (gu gd : Nat) (U D : Lk) (pa : Value) (PA : List Nat) : Prop where
  t : TwS w wx gu gd U D
  a : wx.ownsRow w.heap.size 5 1 pa 30 (u8s PA)
theorem KnS.up {w wx w' : World} {gu gd : Nat} {U U' D : Lk} {pa : Value} {PA : List Nat} (h : KnS w wx gu gd U D pa PA) (hu : LkAt w' gu U') (hg : wx.grownBy w' (some gu)) : KnS w w' gu gd U' D pa PA := ⟨h.t.up hu hg, own_lk h.a h.t.u hg⟩
theorem KnS.down {w wx w' : World} {gu gd : Nat} {U D D' : Lk} {pa : Value} {PA : List Nat} (h : KnS w wx gu gd U D pa PA) (hd : LkAt w' gd D') (hg : wx.grownBy w' (some gd)) : KnS w w' gu gd U D' pa PA := ⟨h.t.down hd hg, own_lk h.a h.t.d hg⟩
theorem KnS.kept {w wx w' : World} {gu gd : Nat} {U D : Lk} {pa : Value} {PA : List Nat} (h : KnS w wx gu gd U D pa PA) (hb : Below wx.heap.size wx w') : KnS w w' gu gd U D pa PA := ⟨h.t.kept hb, own_below h.a hb⟩

set_option maxHeartbeats 8000000 in
set_option maxRecDepth 100000 in
theorem lknown_of (code mark PA PB : List Nat) (U0 U1 U2 D0 D1 D2 : Lk) (w : World) (hb : Tryd.prog.built 25 [] = some (kCells code mark).toArray) (h2 : 2 ≤ w.heap.size) (ha : PA.length = 30) (hab : BytesN PA) (hpb : PB.length = 28) (hbb : BytesN PB) (had : D2.addr = 7) (hm : U2.m = ⟨1, 560, 140⟩)
    (hN1 : ∀ v : World, Calls Tryd.prog 5 #[keyV code mark, .bool false, .int .u64 0, .int .i64 9] v fun e w' => ∃ g, e = .returned (.tuple #[.pointer (some ⟨g, 0, none⟩), .int .i64 0]) ∧ v.heap.size ≤ g ∧ LkAt w' g U0 ∧ Below v.heap.size v w')
    (hN2 : ∀ v : World, Calls Tryd.prog 5 #[keyV code mark, .bool true, .int .u64 0, .int .i64 5] v fun e w' => ∃ g, e = .returned (.tuple #[.pointer (some ⟨g, 0, none⟩), .int .i64 0]) ∧ v.heap.size ≤ g ∧ LkAt w' g D0 ∧ Below v.heap.size v w')
    (hS1 : ∀ (v : World) (g : Nat) (p : Option Addr) (c : Nat), Below w.heap.size w v → 2 ≤ g → LkAt v g U0 → Piece v p c abL → Calls Tryd.prog 7 #[.pointer (some ⟨g, 0, none⟩), .int .i64 100, .slice p 2 c] v fun e w' => ∃ t, e = .returned (.tuple #[t, .int .i64 0]) ∧ w'.ownsRow v.heap.size 5 1 t 30 (u8s PA) ∧ LkAt w' g U1 ∧ v.grownBy w' (some g))
    (hH1 : ∀ (v : World) (g : Nat) (p : Option Addr) (c : Nat), Below w.heap.size w v → LkAt v g D0 → Piece v p c PA → Calls Tryd.prog 14 #[.pointer (some ⟨g, 0, none⟩), .int .i64 140, .int .i64 7, .slice p 30 c] v fun e w' => ∃ t, e = .returned (.tuple #[t, .bool true, .int .i64 0]) ∧ w'.ownsRow v.heap.size 5 1 t 2 (u8s abL) ∧ LkAt w' g D1 ∧ v.grownBy w' (some g))
    (hH2 : ∀ (v : World) (g : Nat) (p : Option Addr) (c : Nat), Below w.heap.size w v → LkAt v g D1 → Piece v p c PA → Calls Tryd.prog 14 #[.pointer (some ⟨g, 0, none⟩), .int .i64 150, .int .i64 8, .slice p 30 c] v fun e w' => ∃ t, e = .returned (.tuple #[t, .bool false, .int .i64 0]) ∧ w'.ownsRow v.heap.size 5 1 t 2 (u8s abL) ∧ LkAt w' g D1 ∧ v.grownBy w' (some g))
    (hS2 : ∀ (v : World) (g : Nat), Below w.heap.size w v → 2 ≤ g → LkAt v g D1 → Calls Tryd.prog 7 #[.pointer (some ⟨g, 0, none⟩), .int .i64 160, .slice none 0 0] v fun e w' => ∃ t, e = .returned (.tuple #[t, .int .i64 0]) ∧ w'.ownsRow v.heap.size 5 1 t 28 (u8s PB) ∧ LkAt w' g D2 ∧ v.grownBy w' (some g))
    (hH3 : ∀ (v : World) (g : Nat) (p : Option Addr) (c : Nat), Below w.heap.size w v → LkAt v g U1 → Piece v p c PB → Calls Tryd.prog 14 #[.pointer (some ⟨g, 0, none⟩), .int .i64 190, .int .i64 0, .slice p 28 c] v fun e w' => ∃ t, e = .returned (.tuple #[t, .bool true, .int .i64 0]) ∧ LkAt w' g U2 ∧ v.grownBy w' (some g))
    (hH4 : ∀ (v : World) (g : Nat) (p : Option Addr) (c : Nat), Below w.heap.size w v → LkAt v g U2 → Piece v p c PA → Calls Tryd.prog 14 #[.pointer (some ⟨g, 0, none⟩), .int .i64 190, .int .i64 0, .slice p 30 c] v fun e w' => e = .returned (.tuple #[.slice none 0 0, .bool false, .int .i64 90]) ∧ Below v.heap.size v w') :
    Calls Tryd.prog 4 #[] w fun e w' => e = .returned (.bool true) ∧ Below w.heap.size w w' := by
  have H2 := hide h2
  have HB := hide hb
  have HAL := hide ha
  have HAB := hide hab
  have HBL := hide hpb
  have HBB := hide hbb
  have HAD := hide had
  have HM := hide hm
  have HN1 := hide hN1
  have HN2 := hide hN2
  have HS1 := hide hS1
  have HH1 := hide hH1
  have HH2 := hide hH2
  have HS2 := hide hS2
  have HH3 := hide hH3
  have HH4 := hide hH4
  clear h2 hb ha hab hpb hbb had hm hN1 hN2 hS1 hH1 hH2 hS2 hH3 hH4
  go_enter Tryd.func4, Tryd.ntmps4
  go_wp2_with (refine wpList_build_of rfl 25 #[] rfl [] (by simp) (kCells code mark).toArray HB.out ?_)
  refine (HN1.out _).mono ?_
  rintro e w1 ⟨gu, rfl, hu1, hu2, hu3⟩
  have HU := hide (And.intro hu1 (And.intro hu2 hu3))
  clear hu1 hu2 hu3
  go_wp2_with (refine wpList_build_of rfl 25 #[] rfl [] (by simp) (kCells code mark).toArray HB.out ?_)
  refine (HN2.out _).mono ?_
  rintro e w2 ⟨gd, rfl, hd1, hd2, hd3⟩
  have HT2 : Hid (TwS w w2 gu gd U0 D0) := ⟨HU.out.2.1.kept hd3, hd2, HU.out.2.2.trans (hd3.mono HU.out.2.2.size), HU.out.1, Nat.le_trans HU.out.2.2.size hd1, by have := HU.out.2.1.lt; omega⟩
  clear hd1 hd2 hd3 HU HN1 HN2 HB
  have kc := fun (w : World) (C : Array Value) (n c : Nat) => Lib.run_convert_bytes_const (P := Tryd.prog) w 42 5 C n c Tryd.underlying42 Tryd.underlying5
  go_wp2_with fail
  clear kc
  have bl : Hid (Below w2.heap.size w2 (w2.alloc (Obj.cells #[Value.int .u8 97, Value.int .u8 98] 5 (2, 3)))) := (Below.refl _ _).alloc (Nat.le_refl _) _
  have HT3 := hide (HT2.out.kept bl.out)
  refine (HS1.out _ gu _ _ HT3.out.b (Nat.le_trans H2.out HT3.out.bu) HT3.out.u (ab_lit w2)).mono ?_
  rintro e w3 ⟨va, rfl, ho3, hl3, hg3⟩
  obtain ⟨pa, ca, rfl, hpa, _⟩ := own_piece_n ho3 HAL.out HAB.out
  have HK3 : Hid (KnS w w3 gu gd U1 D0 (.slice pa 30 ca) PA) := ⟨HT3.out.up hl3 hg3, own_base ho3 HT3.out.b.size⟩
  clear ho3 hl3 hg3 hpa HT2 HT3 bl HS1
  have hpc := fun (v : World) (h : v.ownsRow w.heap.size 5 1 (.slice pa 30 ca) 30 (u8s PA)) => (show Piece v pa ca PA from by obtain ⟨p2, c2, e, hp, _⟩ := own_piece_n h HAL.out HAB.out; cases e; exact hp)
  have HPA := hide hpc
  clear hpc
  go_wp2_with fail
  refine (HH1.out w3 gd pa ca HK3.out.t.b HK3.out.t.d (HPA.out _ HK3.out.a)).mono ?_
  rintro e w4 ⟨vs, rfl, ho4, hl4, hg4⟩
  have HK4 := hide (HK3.out.down hl4 hg4)
  obtain ⟨p6, c6, rfl, _, _⟩ := own_piece_n ho4 rfl abL_bytes
  have HO4 := hide (own_base ho4 HK3.out.t.b.size)
  clear ho4 hl4 hg4 HK3 HH1
  go_wp2_with fail
  refine (HH2.out w4 gd pa ca HK4.out.t.b HK4.out.t.d (HPA.out _ HK4.out.a)).mono ?_
  rintro e w5 ⟨vt, rfl, ho5, hl5, hg5⟩
  have HK5 := hide (HK4.out.down hl5 hg5)
  obtain ⟨p8, c8, rfl, _, _⟩ := own_piece_n ho5 rfl abL_bytes
  have HO5 := hide (own_base ho5 HK4.out.t.b.size)
  have HP4 := hide (own_lk HO4.out HK4.out.t.d hg5)
  clear ho5 hl5 hg5 HK4 HH2 HO4
  go_wp2_with fail
  refine (HS2.out w5 gd HK5.out.t.b (Nat.le_trans H2.out HK5.out.t.bd) HK5.out.t.d).mono ?_
  rintro e w6 ⟨vb, rfl, ho6, hl6, hg6⟩
  have HK6 := hide (HK5.out.down hl6 hg6)
  obtain ⟨pb, cb, rfl, hpb, _⟩ := own_piece_n ho6 HBL.out HBB.out
  have HPB := hide hpb
  have HP5 := hide (And.intro (own_lk HP4.out HK5.out.t.d hg6) (own_lk HO5.out HK5.out.t.d hg6))
  clear ho6 hl6 hg6 hpb HK5 HS2 HO5 HP4
  go_wp2_with fail
  refine (HH3.out w6 gu pb cb HK6.out.t.b HK6.out.t.u HPB.out).mono ?_
  rintro e w7 ⟨vz, rfl, hl7, hg7⟩
  have HK7 := hide (HK6.out.up hl7 hg7)
  have HP6 := hide (And.intro (own_lk HP5.out.1 HK6.out.t.u hg7) (own_lk HP5.out.2 HK6.out.t.u hg7))
  clear hl7 hg7 HK6 HH3 HP5 HPB
  go_wp2_with fail
  refine (HH4.out w7 gu pa ca HK7.out.t.b HK7.out.t.u (HPA.out _ HK7.out.a)).mono ?_
  rintro e w8 ⟨rfl, hb8⟩
  have HK8 := hide (HK7.out.kept hb8)
  have HP8 := hide (And.intro (own_below HP6.out.1 hb8) (own_below HP6.out.2 hb8))
  clear hb8 HK7 HH4 HP6
  have HQ6 : Hid (Piece w8 p6 c6 abL ∧ Piece w8 p8 c8 abL) := by
    obtain ⟨q1, d1, e1, h1, _⟩ := own_piece_n HP8.out.1 rfl abL_bytes
    obtain ⟨q2, d2, e2, h2, _⟩ := own_piece_n HP8.out.2 rfl abL_bytes
    cases e1
    cases e2
    exact ⟨h1, h2⟩
  have HADR := hide (addr_at w8 gd D2 HK8.out.t.d)
  have HMET := hide (meter_at w8 gu U2 HK8.out.t.u)
  rw [HAD.out] at HADR
  rw [HM.out] at HMET
  have HEQ := hide (fun v : World => (run_eq_me ⟨1, 560, 140⟩ ⟨1, 560, 140⟩ v).trans (by simp : _ = Result.ok true v))
  have hcv6 := conv_any HQ6.out.1.1 (c := c6) 2 (by rfl)
  have hcv8 := conv_any HQ6.out.2.1 (c := c8) 2 (by rfl)
  have n2 : (strF abL).toList = [97, 98] := by rw [abL_str, ByteArray.toList_eq]
  have HB8 := hide HK8.out.t.b
  clear HK8 HP8 HPA HAD HM HQ6
  generalize strF abL = S at *
  go_wp2_with fail
  refine HADR.out.mono ?_
  rintro r w9 ⟨rfl, rfl⟩
  go_wp2_with fail
  refine HMET.out.mono ?_
  rintro r wa ⟨rfl, hba⟩
  have HBA := hide (HB8.out.trans (hba.mono HB8.out.size))
  clear hba
  go_wp2_with (first
    | (refine wpList_exec (by rfl) _ (exec_build_of 36 #[(0, .const (.int .i64 1)), (1, .const (.int .i64 560)), (2, .const (.int .i64 140))] rfl [(0, .int .i64 1), (1, .int .i64 560), (2, .int .i64 140)] (by simp [Act.eval]) (meC ⟨1, 560, 140⟩).toArray (by kernel_rfl)) ?_)
    | (refine wpList_exec (by rfl) _ (exec_eql_agg 36 36 (.tmp 134) (.tmp 135) rfl (meC ⟨1, 560, 140⟩).toArray (meC ⟨1, 560, 140⟩).toArray rfl rfl true (guardM _ _ _ _ _) (HEQ.out _)) ?_))
  go_ret
  exact ⟨rfl, HBA.out⟩

theorem lknown_any (w : World) (hL : Laid w) : Calls Tryd.prog 4 #[] w fun e w' => e = .returned (.bool true) ∧ Below w.heap.size w w' := by
  have hL2 := hL.size
  have hLB : ∀ v, Below w.heap.size w v → Laid v := fun v hb => hL.keptB (B := w.heap.size) hL2 hb
  have hk := keyZ
  have hz : zeroK = kCells (List.replicate 16 0) (List.replicate 32 0) := rfl
  have hB0 := builtK0
  rw [hz] at hB0
  generalize List.replicate 16 0 = c at *
  generalize List.replicate 32 0 = m at *
  have hU : (kU c m).down = false := rfl
  have x0 : (kU c m).next < 9223372036854775808 := by show 0 < _; omega
  have x1 : (kD1 c m).next < 9223372036854775808 := by rw [kD1_eq]; show 0 < _; omega
  refine lknown_of c m (sndP (kU c m) 100 abL) (sndP (kD1 c m) 160 []) (kU c m) (kU c m).sent (kU2 c m) (kD c m) (kD1 c m) (kD1 c m).sent w hB0 hL2 (by rw [sndP_length]; rfl) (sndP_bytes hk _ abL_bytes) (by rw [sndP_length]; rfl) (sndP_bytes (by rw [kD1_eq]; exact hk) _ (by intro x hx; cases hx)) (by rw [kD1_eq]; rfl) (by rw [kU2_eq])
    (fun v => lnew_ok c m false 0 9 v hk (by omega) ⟨by omega, by omega⟩) (fun v => lnew_ok c m true 0 5 v hk (by omega) ⟨by omega, by omega⟩) ?_ ?_ ?_ ?_ ?_ ?_
  · intro v g p k hb hg hl hP
    exact send_good g (kU c m) p k 2 abL 100 v hl ⟨by omega, by omega⟩ x0 hP rfl (by omega) (hLB v hb) hg
  · intro v g p k hb hl hP
    exact hear_snd g (kU c m) (kD c m) p k 2 abL 100 140 7 v hl ⟨by omega, by omega⟩ ⟨by omega, by omega⟩ x0 rfl (by omega) rfl rfl (show false ≠ true by decide) hP (hLB v hb)
  · intro v g p k hb hl hP
    have h := hear_snd g (kU c m) (kD1 c m) p k 2 abL 100 150 8 v hl ⟨by omega, by omega⟩ ⟨by omega, by omega⟩ x0 rfl (by omega) rfl rfl (show false ≠ true by decide) hP (hLB v hb)
    have e : (kD1 c m).took (kU c m).next (100 % 65535) ((kU c m).at 100) 150 8 = kD1 c m := rfl
    rw [e] at h
    exact h
  · intro v g hb hg hl
    exact send_good g (kD1 c m) none 0 0 [] 160 v hl ⟨by omega, by omega⟩ x1 ⟨Or.inl rfl, fun _ => rfl, (by intro x hx; cases hx), Nat.le_refl _, Nat.zero_le _⟩ rfl (by omega) (hLB v hb) hg
  · intro v g p k hb hl hP
    exact (hear_snd g (kD1 c m) (kU c m).sent p k 0 [] 160 190 0 v hl ⟨by omega, by omega⟩ ⟨by omega, by omega⟩ x1 rfl (by omega) rfl rfl (show true ≠ false by decide) hP (hLB v hb)).mono fun e w' ⟨t, h1, _, h2, h3⟩ => ⟨t, h1, h2, h3⟩
  · intro v g p k hb hl hP
    exact hear_own g (kU c m) (kU2 c m) p k 2 abL 100 190 0 v hl ⟨by omega, by omega⟩ ⟨by omega, by omega⟩ x0 rfl (by omega) rfl rfl rfl hP (hLB v hb)

end Go.Proofs.YtbmjlofehbbkbaaDoor
