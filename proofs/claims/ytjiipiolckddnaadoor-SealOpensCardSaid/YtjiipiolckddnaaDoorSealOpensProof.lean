/-
  SealOpens, the tied card: any bytes are opened as the document says, or refused; their nonce is told whatever their tag (of more than 1500 bytes nothing is asked but the known rows); no condition but the two tables, which the card ties to the program's text.
-/
import Derived.Test.YtjiipiolckddnaaDoorJU
import Derived.Test.YtjiipiolckddnaaDoorJS
import Derived.Test.YtjiipiolckddnaaDoorJR
import Derived.Test.YtjiipiolckddnaaDoorJP
namespace Go.Proofs.YtjiipiolckddnaaDoor
namespace SealOpensProof
open Go.ChangeShapes Go.WideShapes Go.ChangeAt Go.WideMaps Go.WideElems Go.RowKit

/-- what opening tells, of whichever of the two -/
def Told (F : FuncId) (code mark : List Nat) (p : Option Addr) (c n k : Nat) (xd : Bool) (xn : Nat) (e : Int) (U : List Nat) (v : World) : Prop :=
  Calls Tryd.prog F #[keyV code mark, .slice p n c] v fun r w' => ∃ q cq, r = .returned (.tuple #[noV xd xn, .slice q k cq, .int .i64 e]) ∧ Piece w' q cq U ∧ Below v.heap.size v w'

set_option maxHeartbeats 8000000 in
set_option maxRecDepth 100000 in
theorem walk_of (code mark : List Nat) (p : Option Addr) (c n k : Nat) (xd yd : Bool) (xn yn : Nat) (e f : Int) (U : List Nat) (W : World) (hk : IsKey code mark) (hUl : U.length = k) (hn : n ≤ 1500)
    (hK : ∀ v, Below W.heap.size W v → Calls Tryd.prog 13 #[] v fun e w' => e = .returned (.bool true) ∧ Below v.heap.size v w')
    (h1 : ∀ v, Below W.heap.size W v → Told 16 code mark p c n k xd xn e U v)
    (h2 : ∀ v, Below W.heap.size W v → Told 17 code mark p c n k xd xn e U v)
    (h3 : ∀ v, Below W.heap.size W v → Calls Tryd.prog 18 #[.slice p n c] v fun r w' => r = .returned (.tuple #[noV yd yn, .int .i64 f]) ∧ Below v.heap.size v w')
    (h4 : ∀ v, Below W.heap.size W v → Calls Tryd.prog 19 #[.slice p n c] v fun r w' => r = .returned (.tuple #[noV yd yn, .int .i64 f]) ∧ Below v.heap.size v w') :
    Calls Tryd.prog 5 #[keyV code mark, .slice p n c] W fun r w' => r = .returned (.bool true) ∧ Below W.heap.size W w' := by
  have HK := hide hK
  have H1 := hide h1
  have H2 := hide h2
  have H3 := hide h3
  have H4 := hide h4
  have HUL := hide hUl
  have IK := hide hk.info
  have E1 := hide (fun v : World => eq_no_true xd xn v)
  have E2 := hide (fun v : World => eq_no_true yd yn v)
  have hn' : ¬ (1500 : Int) < (n : Int) := by omega
  have A1 : Hid (Arr (W.alloc (Obj.cells (kCells code mark).toArray 34)) W.heap.size 34 (kCells code mark) ∧ Below W.heap.size W (W.alloc (Obj.cells (kCells code mark).toArray 34))) := ⟨Arr.new W _ _, (Below.refl _ _).alloc (Nat.le_refl _) _⟩
  clear hK h1 h2 h3 h4 hUl hk hn
  go_enter Tryd.func5, Tryd.ntmps5
  go_upto_region 1 with fail
  generalize W.alloc (Obj.cells (kCells code mark).toArray 34) = w1 at *
  go_wp2_with fail
  refine (HK.out w1 A1.out.2).mono ?_
  rintro r w2 ⟨rfl, hb⟩
  have A2 : Hid (Arr w2 W.heap.size 34 (kCells code mark) ∧ Below W.heap.size W w2) := ⟨A1.out.1.kept hb, A1.out.2.trans (hb.mono A1.out.2.size)⟩
  clear hb A1 HK
  go_wp2_with (refine wpList_load_row rfl 34 _ rfl W.heap.size rfl 34 _ (0, 0) _ A2.out.1 Tryd.underlying34 rfl IK.out ?_)
  refine (show Told _ _ _ _ _ _ _ _ _ _ _ _ from H1.out w2 A2.out.2).mono ?_
  rintro r w3 ⟨q1, c1, rfl, hp, hb⟩
  have A3 : Hid (Arr (w3.alloc (Obj.cells #[Value.bool xd, Value.int .u64 (xn : Int)] 24)) W.heap.size 34 (kCells code mark) ∧ Arr (w3.alloc (Obj.cells #[Value.bool xd, Value.int .u64 (xn : Int)] 24)) w3.heap.size 24 (noC xd xn) ∧ Piece (w3.alloc (Obj.cells #[Value.bool xd, Value.int .u64 (xn : Int)] 24)) q1 c1 U ∧ Below W.heap.size W (w3.alloc (Obj.cells #[Value.bool xd, Value.int .u64 (xn : Int)] 24))) := ⟨(A2.out.1.kept hb).alloc _, Arr.new w3 _ _, hp.kept ((Below.refl _ _).alloc (Nat.le_refl _) _), (A2.out.2.trans (hb.mono A2.out.2.size)).alloc (Nat.le_trans A2.out.2.size hb.size) _⟩
  clear hp hb A2 H1
  go_upto_region 6 with fail
  generalize w3.alloc (Obj.cells #[Value.bool xd, Value.int .u64 (xn : Int)] 24) = w4 at *
  generalize w3.heap.size = g1 at *
  go_wp2_with (refine wpList_load_row rfl 34 _ rfl W.heap.size rfl 34 _ (0, 0) _ A3.out.1 Tryd.underlying34 rfl IK.out ?_)
  refine (show Told _ _ _ _ _ _ _ _ _ _ _ _ from H2.out w4 A3.out.2.2.2).mono ?_
  rintro r w5 ⟨q2, c2, rfl, hp, hb⟩
  have A5 : Hid (Arr (w5.alloc (Obj.cells #[Value.bool xd, Value.int .u64 (xn : Int)] 24)) g1 24 (noC xd xn) ∧ Arr (w5.alloc (Obj.cells #[Value.bool xd, Value.int .u64 (xn : Int)] 24)) w5.heap.size 24 (noC xd xn) ∧ Piece (w5.alloc (Obj.cells #[Value.bool xd, Value.int .u64 (xn : Int)] 24)) q1 c1 U ∧ Piece (w5.alloc (Obj.cells #[Value.bool xd, Value.int .u64 (xn : Int)] 24)) q2 c2 U ∧ Below W.heap.size W (w5.alloc (Obj.cells #[Value.bool xd, Value.int .u64 (xn : Int)] 24))) :=
    ⟨(A3.out.2.1.kept hb).alloc _, Arr.new w5 _ _, (A3.out.2.2.1.kept hb).kept ((Below.refl _ _).alloc (Nat.le_refl _) _), hp.kept ((Below.refl _ _).alloc (Nat.le_refl _) _), (A3.out.2.2.2.trans (hb.mono A3.out.2.2.2.size)).alloc (Nat.le_trans A3.out.2.2.2.size hb.size) _⟩
  clear hp hb A3 H2
  go_upto_region 7 with fail
  generalize w5.alloc (Obj.cells #[Value.bool xd, Value.int .u64 (xn : Int)] 24) = w6 at *
  generalize w5.heap.size = g2 at *
  go_wp2_with fail
  refine (H3.out w6 A5.out.2.2.2.2).mono ?_
  rintro r w7 ⟨rfl, hb⟩
  have A7 : Hid (Arr (w7.alloc (Obj.cells #[Value.bool yd, Value.int .u64 (yn : Int)] 24)) g1 24 (noC xd xn) ∧ Arr (w7.alloc (Obj.cells #[Value.bool yd, Value.int .u64 (yn : Int)] 24)) g2 24 (noC xd xn) ∧ Arr (w7.alloc (Obj.cells #[Value.bool yd, Value.int .u64 (yn : Int)] 24)) w7.heap.size 24 (noC yd yn) ∧ Piece (w7.alloc (Obj.cells #[Value.bool yd, Value.int .u64 (yn : Int)] 24)) q1 c1 U ∧ Piece (w7.alloc (Obj.cells #[Value.bool yd, Value.int .u64 (yn : Int)] 24)) q2 c2 U ∧ Below W.heap.size W (w7.alloc (Obj.cells #[Value.bool yd, Value.int .u64 (yn : Int)] 24))) :=
    ⟨(A5.out.1.kept hb).alloc _, (A5.out.2.1.kept hb).alloc _, Arr.new w7 _ _, (A5.out.2.2.1.kept hb).kept ((Below.refl _ _).alloc (Nat.le_refl _) _), (A5.out.2.2.2.1.kept hb).kept ((Below.refl _ _).alloc (Nat.le_refl _) _), (A5.out.2.2.2.2.trans (hb.mono A5.out.2.2.2.2.size)).alloc (Nat.le_trans A5.out.2.2.2.2.size hb.size) _⟩
  clear hb A5 H3
  go_upto_region 8 with fail
  generalize w7.alloc (Obj.cells #[Value.bool yd, Value.int .u64 (yn : Int)] 24) = w8 at *
  generalize w7.heap.size = g3 at *
  go_wp2_with fail
  refine (H4.out w8 A7.out.2.2.2.2.2).mono ?_
  rintro r w9 ⟨rfl, hb⟩
  have A9 : Hid (Arr (w9.alloc (Obj.cells #[Value.bool yd, Value.int .u64 (yn : Int)] 24)) g1 24 (noC xd xn) ∧ Arr (w9.alloc (Obj.cells #[Value.bool yd, Value.int .u64 (yn : Int)] 24)) g2 24 (noC xd xn) ∧ Arr (w9.alloc (Obj.cells #[Value.bool yd, Value.int .u64 (yn : Int)] 24)) g3 24 (noC yd yn) ∧ Arr (w9.alloc (Obj.cells #[Value.bool yd, Value.int .u64 (yn : Int)] 24)) w9.heap.size 24 (noC yd yn) ∧ Piece (w9.alloc (Obj.cells #[Value.bool yd, Value.int .u64 (yn : Int)] 24)) q1 c1 U ∧ Piece (w9.alloc (Obj.cells #[Value.bool yd, Value.int .u64 (yn : Int)] 24)) q2 c2 U ∧ Below W.heap.size W (w9.alloc (Obj.cells #[Value.bool yd, Value.int .u64 (yn : Int)] 24))) :=
    ⟨(A7.out.1.kept hb).alloc _, (A7.out.2.1.kept hb).alloc _, (A7.out.2.2.1.kept hb).alloc _, Arr.new w9 _ _, (A7.out.2.2.2.1.kept hb).kept ((Below.refl _ _).alloc (Nat.le_refl _) _), (A7.out.2.2.2.2.1.kept hb).kept ((Below.refl _ _).alloc (Nat.le_refl _) _), (A7.out.2.2.2.2.2.trans (hb.mono A7.out.2.2.2.2.2.size)).alloc (Nat.le_trans A7.out.2.2.2.2.2.size hb.size) _⟩
  clear hb A7 H4
  go_upto_region 9 with fail
  generalize w9.alloc (Obj.cells #[Value.bool yd, Value.int .u64 (yn : Int)] 24) = wE at *
  generalize w9.heap.size = g4 at *
  have cv1 := conv_any A9.out.2.2.2.2.1.1 (c := c1) k HUL.out
  have cv2 := conv_any A9.out.2.2.2.2.2.1.1 (c := c2) k HUL.out
  have BE := hide A9.out.2.2.2.2.2.2
  go_wp2_with (first
    | (refine wpList_exec (by rfl) _ (exec_load_all 24 (.tmp 5) rfl g1 rfl 24 (noC xd xn) _ A9.out.1 Tryd.underlying24 rfl infoN) ?_)
    | (refine wpList_exec (by rfl) _ (exec_load_all 24 (.tmp 8) rfl g2 rfl 24 (noC xd xn) _ A9.out.2.1 Tryd.underlying24 rfl infoN) ?_)
    | (refine wpList_exec (by rfl) _ (exec_eql_agg 24 24 (.tmp 44) (.tmp 45) rfl #[Value.bool xd, Value.int .u64 (xn : Int)] #[Value.bool xd, Value.int .u64 (xn : Int)] rfl rfl true (guardN _ _ _ _ _) (E1.out _)) ?_)
    | (refine wpList_exec (by rfl) _ (exec_load_all 24 (.tmp 11) rfl g3 rfl 24 (noC yd yn) _ A9.out.2.2.1 Tryd.underlying24 rfl infoN) ?_)
    | (refine wpList_exec (by rfl) _ (exec_load_all 24 (.tmp 13) rfl g4 rfl 24 (noC yd yn) _ A9.out.2.2.2.1 Tryd.underlying24 rfl infoN) ?_)
    | (refine wpList_exec (by rfl) _ (exec_eql_agg 24 24 (.tmp 60) (.tmp 61) rfl #[Value.bool yd, Value.int .u64 (yn : Int)] #[Value.bool yd, Value.int .u64 (yn : Int)] rfl rfl true (guardN _ _ _ _ _) (E2.out _)) ?_))
  go_ret
  exact ⟨rfl, BE.out⟩

set_option maxHeartbeats 4000000 in
set_option maxRecDepth 100000 in
theorem walk_long (code mark : List Nat) (p : Option Addr) (c n : Nat) (W : World) (hn : 1500 < n)
    (hK : ∀ v, Below W.heap.size W v → Calls Tryd.prog 13 #[] v fun e w' => e = .returned (.bool true) ∧ Below v.heap.size v w') :
    Calls Tryd.prog 5 #[keyV code mark, .slice p n c] W fun r w' => r = .returned (.bool true) ∧ Below W.heap.size W w' := by
  have HK := hide hK
  have hn' : (1500 : Int) < (n : Int) := by omega
  have A1 : Hid (Below W.heap.size W (W.alloc (Obj.cells (kCells code mark).toArray 34))) := (Below.refl _ _).alloc (Nat.le_refl _) _
  clear hK hn
  go_enter Tryd.func5, Tryd.ntmps5
  go_upto_region 1 with fail
  generalize W.alloc (Obj.cells (kCells code mark).toArray 34) = w1 at *
  go_wp2_with fail
  refine (HK.out w1 A1.out).mono ?_
  rintro r w2 ⟨rfl, hb⟩
  have A2 : Hid (Below W.heap.size W w2) := A1.out.trans (hb.mono A1.out.size)
  clear hb A1 HK
  go_wp2
  go_ret
  exact ⟨rfl, A2.out⟩

theorem nil_piece (w : World) : Piece w none 0 [] := ⟨Or.inl rfl, fun _ => rfl, (fun x hx => by cases hx), Nat.le_refl _, Nat.zero_le _⟩

theorem walk (code mark : List Nat) (p : Option Addr) (c : Nat) (b : List Nat) (W : World) (hk : IsKey code mark) (hP : Piece W p c b) (hL : Laid W) :
    Calls Tryd.prog 5 #[keyV code mark, .slice p b.length c] W fun r w' => r = .returned (.bool true) ∧ Below W.heap.size W w' := by
  have hL2 := hL.size
  have hLB : ∀ v, Below W.heap.size W v → Laid v := fun v hb => hL.keptB (B := W.heap.size) hL2 hb
  have hK : ∀ v, Below W.heap.size W v → Calls Tryd.prog 13 #[] v fun e w' => e = .returned (.bool true) ∧ Below v.heap.size v w' := fun v hb => known_any v (hLB v hb)
  by_cases hn : 1500 < b.length
  · exact walk_long code mark p c b.length W hn hK
  by_cases hbad : b.length < 24 ∨ 1224 < b.length
  · exact walk_of code mark p c b.length 0 false false 0 0 4 4 [] W hk rfl (by omega) hK
      (fun v hb => (open_bad code mark p c b.length v hbad).mono fun r w' ⟨h1, h2⟩ => ⟨none, 0, h1, nil_piece _, h2⟩)
      (fun v hb => (ropen_bad code mark p c b.length v hbad (by omega)).mono fun r w' ⟨h1, h2⟩ => ⟨none, 0, h1, nil_piece _, h2⟩)
      (fun v hb => peek_bad p c b.length v hbad) (fun v hb => rpeek_bad p c b.length v hbad (by omega))
  obtain ⟨k, hk24⟩ : ∃ k, b.length = k + 24 := ⟨b.length - 24, by omega⟩
  have hk2 : k ≤ 1200 := by omega
  have h3 : ∀ v, Below W.heap.size W v → Calls Tryd.prog 18 #[.slice p (k + 24) c] v fun r w' => r = .returned (.tuple #[noV (wD (rd8 b)) (wN (rd8 b)), .int .i64 0]) ∧ Below v.heap.size v w' := fun v hb => peek_ok p c k b v (hP.kept hb) hk24 hk2
  have h4 : ∀ v, Below W.heap.size W v → Calls Tryd.prog 19 #[.slice p (k + 24) c] v fun r w' => r = .returned (.tuple #[noV (wD (rd8 b)) (wN (rd8 b)), .int .i64 0]) ∧ Below v.heap.size v w' := fun v hb => rpeek_ok p c (k + 24) b v (hP.kept hb) hk24 (by omega) (by omega)
  have hU : (hiF code (rd8 b) (paH b)).length = k := by rw [hiF_length, paH_length hk24]
  have hUb : BytesN (hiF code (rd8 b) (paH b)) := hiF_bytes hk.c _ (paH_bytes hP.2.2.1)
  rw [hk24]
  by_cases hd : paT b = tgF mark (paA b)
  · refine walk_of code mark p c (k + 24) k (wD (rd8 b)) (wD (rd8 b)) (wN (rd8 b)) (wN (rd8 b)) 0 0 (hiF code (rd8 b) (paH b)) W hk hU (by omega) hK (fun v hb => ?_) (fun v hb => ?_) h3 h4
    · have h := open_ok code mark p c k b v hk (hP.kept hb) hk24 hk2 (hLB v hb)
      rw [decide_eq_true hd] at h
      exact h.mono fun r w' ⟨⟨u, h1, h2⟩, h3⟩ => by
        obtain ⟨q, cq, rfl, hq, _⟩ := own_piece_n h2 hU hUb
        exact ⟨q, cq, h1, hq, h3⟩
    · have h := ropen_ok code mark p c k b v hk (hP.kept hb) hk24 hk2
      rw [decide_eq_true hd] at h
      exact h.mono fun r w' ⟨⟨u, h1, h2⟩, h3⟩ => by
        obtain ⟨q, cq, rfl, hq, _⟩ := own_piece_n h2 hU hUb
        exact ⟨q, cq, h1, hq, h3⟩
  · refine walk_of code mark p c (k + 24) 0 false (wD (rd8 b)) 0 (wN (rd8 b)) 60 0 [] W hk rfl (by omega) hK (fun v hb => ?_) (fun v hb => ?_) h3 h4
    · have h := open_ok code mark p c k b v hk (hP.kept hb) hk24 hk2 (hLB v hb)
      rw [decide_eq_false hd] at h
      exact h.mono fun r w' ⟨h1, h3⟩ => ⟨none, 0, h1, nil_piece _, h3⟩
    · have h := ropen_ok code mark p c k b v hk (hP.kept hb) hk24 hk2
      rw [decide_eq_false hd] at h
      exact h.mono fun r w' ⟨h1, h3⟩ => ⟨none, 0, h1, nil_piece _, h3⟩

set_option maxRecDepth 100000 in
theorem lifted (os : Os) (started : os.Started) (H : Type) (enc : TypeId × Value → H) :
    ReturnsInHanded {} Tryd.checked os 5 .any (fun w args => (Rows.sealOpensSpec.pre enc Tryd.prog Tryd.f5 [] false w args ∧ laidMetH Tryd.prog laid2 w) ∧ sizedMet enc Tryd.prog Tryd.f5 (OpenSpec.ofChange Rows.sealOpensSpec) false w args)
      (Rows.sealOpensSpec.post enc Tryd.prog Tryd.f5 false true false false) := by
  refine returnsInHanded_of_change_and (C := Tryd.checked) (X := fun w _ => laidMetH Tryd.prog laid2 w) (fun _ _ _ hh h => h.of_heap hh) own started (by kernel_rfl) Tryd.func5
    (ChangeSpec.witness_shaped (enc := enc) (C := Tryd.checked) (os := os) (X := fun w _ => laidMetH Tryd.prog laid2 w) false (World.doorLaid Tryd.prog 400 os) #[.agg zeroK.toArray, .slice none 0 0] 8 rfl (World.shaped_of_RefB (by kernel_rfl) (by kernel_rfl)) (by kernel_rfl) (by kernel_rfl) (by kernel_rfl) (door_met os _)) ?_
  intro W base args ds gs before hval0 hW _ hsz hL _
  have hval : ∀ (j : Nat) t v, Tryd.f5.params[j]? = some t → args[j]? = some v → Value.okWide Tryd.prog W .any base t v := hval0
  have hW' := hW
  obtain ⟨p, q, hA0, hV, rfl, hfz, hnd⟩ := hW
  have hA : DataW.TrodAll enc Tryd.prog W 0 (fun _ => true) true Tryd.f5.params.toList args.toList ds p := hA0
  rw [Tryd.params5] at hA hval
  obtain ⟨v0, vs0, d0, ds0, p0, q0, hargs, rfl, rfl, h0, r0⟩ := trodAll_cons hA
  obtain ⟨v1, vs1, d1, ds1, p1, q1, rfl, rfl, rfl, h1, r1⟩ := trodAll_cons r0
  obtain ⟨rfl, rfl, rfl⟩ := trodAll_nil r1
  obtain rfl : args = #[v0, v1] := by cases args; simp_all
  obtain ⟨rfl, rfl⟩ := trodVars_none hV
  have k0 := h0
  obtain ⟨x0, y0, rfl, w0, z0⟩ := open_key (hval 0 34 v0 rfl rfl) h0
  obtain ⟨a1, len1, cap1, rfl⟩ := okWide_slice Tryd.underlying35 (hval 1 35 v1 rfl rfl)
  have k1 := h1
  have lt1 : ∀ x ∈ p1, x.block < W.heap.size := by obtain ⟨m, hm⟩ := k1; exact DataW.trod_lt m _ _ _ hm
  obtain ⟨fuel1, hf1⟩ := h1
  obtain ⟨a1', cap1', x1, hcs1, w1⟩ := piece_of hf1
  simp [Value.cells] at hcs1
  obtain ⟨rfl, rfl, rfl⟩ := hcs1
  clear hf1
  clear hA0 hval0
  refine (walk x0 y0 a1 cap1 x1 W w0 w1 (of_laid hL)).mono fun e W' ⟨he, bel⟩ => ?_
  subst he
  exact ⟨_, rfl, _, _, _, [], _, [], hW', trodAll_mk1 (shut_bool Tryd.underlying4 _), (trodAll_cons_mk (Below.trod laidOut (by kernel_rfl) (of_decide_eq_true (by kernel_rfl)) k0 bel (fun x hx => (z0 x hx).elim)) (trodAll_cons_mk (Below.trod laidOut (by kernel_rfl) (of_decide_eq_true (by kernel_rfl)) k1 bel lt1) trodAll_mk0)), rfl, bel.frame _, fun h => by cases h⟩

theorem row : Rows.SealOpensSaid :=
  OpenClaim.holds_of_wide 5 Tryd.f5 rfl rfl rfl rfl rfl rfl rfl ⟨rfl, rfl, rfl, rfl, rfl⟩ rfl rfl rfl rfl rfl (by kernel_rfl) Tryd.func5 (by kernel_rfl)
    (of_decide_eq_true (by kernel_rfl)) (by unfold Func.isWrapper; first | (rw [if_pos (by decide +kernel)]; kernel_rfl) | (rw [if_neg (by decide +kernel)]; exact ⟨rfl, rfl⟩))
    (fun os started H enc _ => lifted os started H enc)

theorem card : Rows.SealOpensCardSaid :=
  Claim7.holds_tied_plain_at .later [] [.data, .data] true (true, Rows.sealOpensCard.stood.harness.2) false
    row (fun _ h => by cases h) (by kernel_rfl) (fun _ h => by cases h) sealOpens_row_tie rfl ⟨rfl, rfl⟩ (by kernel_rfl) rfl
    (fun f fn hf hfn => by
      obtain rfl : f = 5 := Option.some.inj ((show Tryd.prog.funcNamed "oriel/oriellaw06.SealOpens" = some 5 by kernel_rfl).symm.trans hf) |>.symm
      obtain rfl : fn = Tryd.f5 := (Option.some.inj (Tryd.func5.symm.trans hfn)).symm
      exact ⟨by kernel_rfl, fun j t ht => by
        rw [Tryd.params5] at ht
        have hm : t ∈ [34, 35] := by simpa using Array.mem_of_getElem? ht
        have hall : ([34, 35].all fun u => !Tryd.prog.wantsStandIn u) = true := by kernel_rfl
        exact (show Tryd.prog.wantsStandIn t = false by simpa using List.all_eq_true.1 hall t hm)⟩)
    (by kernel_rfl)

end SealOpensProof

/-- Any bytes are opened as the document says, or refused; their nonce is told whatever their tag. -/
theorem sealOpens_holds : Rows.SealOpensCardSaid := SealOpensProof.card

#print axioms sealOpens_holds
end Go.Proofs.YtjiipiolckddnaaDoor
