/-
  LinkSpent, the tied card: where no nonce is left nothing is sent any more, and what comes is heard still; no condition but the two tables, which the card ties to the program's text.
-/
import Derived.Test.YtanjbblkijhibaaDoorJU
import Derived.Test.YtanjbblkijhibaaDoorKD
import Derived.Test.YtanjbblkijhibaaDoorJP
namespace Go.Proofs.YtanjbblkijhibaaDoor
namespace LinkSpentProof
open Go.ChangeShapes Go.WideShapes Go.ChangeAt Go.WideMaps Go.WideElems Go.RowKit

set_option maxHeartbeats 4000000 in
set_option maxRecDepth 100000 in
theorem walk_out (code mark : List Nat) (a : Int) (W : World) (h : a < 0 ∨ 50 < a)
    (hK : ∀ v, Below W.heap.size W v → Calls Tryd.prog 8 #[] v fun e w' => e = .returned (.bool true) ∧ Below v.heap.size v w') :
    Calls Tryd.prog 6 #[keyV code mark, .int .i64 a] W fun r w' => r = .returned (.bool true) ∧ Below W.heap.size W w' := by
  have HK := hide hK
  have A1 := hide (key_box W code mark)
  have hc : decide (a < 0) = true ∨ (decide (a < 0) = false ∧ decide (50 < a) = true) := by
    by_cases h0 : a < 0
    · exact Or.inl (by simpa using h0)
    · exact Or.inr ⟨by simpa using h0, by simp; omega⟩
  clear hK h
  rcases hc with h1 | ⟨h1, h2⟩
  all_goals
    go_enter Tryd.func6, Tryd.ntmps6
    go_upto_region 1 with fail
    generalize W.alloc (Obj.cells (kCells code mark).toArray 25) = w1 at *
    go_wp2_with fail
    refine (HK.out w1 A1.out.2).mono ?_
    rintro r w2 ⟨rfl, hb⟩
    have HB := hide (A1.out.2.trans (hb.mono A1.out.2.size))
    clear hb A1 HK
    go_wp2
    go_ret
    exact ⟨rfl, HB.out⟩

/-- the end whose nonces run out, behind so many sends -/
def leftL (code mark : List Nat) (lf k : Nat) : Lk := newL code mark false (9223372036854775808 - lf + min k lf) 1
theorem leftL_ok {code mark : List Nat} (h : IsKey code mark) {lf : Nat} (hl : lf ≤ 50) (k : Nat) : (leftL code mark lf k).ok := newL_ok h _ (by omega) ⟨by omega, by omega⟩
theorem leftL_sent (code mark : List Nat) {lf k : Nat} (h : k < lf) : (leftL code mark lf k).sent = leftL code mark lf (k + 1) := by
  have e : 9223372036854775808 - lf + min k lf + 1 = 9223372036854775808 - lf + min (k + 1) lf := by omega
  unfold leftL
  rw [← e]
  rfl
theorem leftL_stay (code mark : List Nat) {lf k : Nat} (h : lf ≤ k) : leftL code mark lf (k + 1) = leftL code mark lf k := by
  have e : min (k + 1) lf = min k lf := by omega
  unfold leftL
  rw [e]

theorem one_lit (w : World) (x : Nat) (hx : x < 256) : Piece (w.alloc (Obj.cells #[Value.int .u8 (x : Int)] 5 (1, 2))) (some ⟨w.heap.size, 0, none⟩) 1 [x] :=
  piece_obj (l := [x]) (by rw [heap_at _ _ _ rfl]; rfl) rfl (by intro y hy; rw [List.mem_singleton] at hy; omega) (by omega)

set_option maxHeartbeats 8000000 in
set_option maxRecDepth 100000 in
theorem walk_of (code mark : List Nat) (lf : Nat) (LS : Nat → Lk) (D0 D1 LT : Lk) (PB : List Nat) (W : World) (hk : IsKey code mark) (hl : lf ≤ 50) (h2 : 2 ≤ W.heap.size) (hPl : PB.length = 29) (hPb : BytesN PB) (hLT : LT.next = 9223372036854775808)
    (hsame : ∀ k, lf ≤ k → LS (k + 1) = LS k)
    (hN1 : ∀ v : World, Calls Tryd.prog 9 #[keyV code mark, .bool false, .int .u64 (9223372036854775808 - (lf : Int)), .int .i64 1] v fun e w' => ∃ g, e = .returned (.tuple #[.pointer (some ⟨g, 0, none⟩), .int .i64 0]) ∧ v.heap.size ≤ g ∧ LkAt w' g (LS 0) ∧ Below v.heap.size v w')
    (hN2 : ∀ v : World, Calls Tryd.prog 9 #[keyV code mark, .bool true, .int .u64 4, .int .i64 1] v fun e w' => ∃ g, e = .returned (.tuple #[.pointer (some ⟨g, 0, none⟩), .int .i64 0]) ∧ v.heap.size ≤ g ∧ LkAt w' g D0 ∧ Below v.heap.size v w')
    (hS : ∀ (v : World) (g : Nat) (p : Option Addr) (c k : Nat), Below W.heap.size W v → 2 ≤ g → LkAt v g (LS k) → Piece v p c [120] → k < lf → Calls Tryd.prog 11 #[.pointer (some ⟨g, 0, none⟩), .int .i64 (k : Int), .slice p 1 c] v fun e w' => ∃ q cq, e = .returned (.tuple #[.slice q 29 cq, .int .i64 0]) ∧ LkAt w' g (LS (k + 1)) ∧ v.grownBy w' (some g))
    (hE : ∀ (v : World) (g : Nat) (p : Option Addr) (c k : Nat), Below W.heap.size W v → LkAt v g (LS k) → lf ≤ k → k ≤ lf + 3 → Calls Tryd.prog 11 #[.pointer (some ⟨g, 0, none⟩), .int .i64 (k : Int), .slice p 1 c] v fun e w' => e = .returned (.tuple #[.slice none 0 0, .int .i64 91]) ∧ w' = v)
    (hS2 : ∀ (v : World) (g : Nat) (p : Option Addr) (c : Nat), Below W.heap.size W v → 2 ≤ g → LkAt v g D0 → Piece v p c [121] → Calls Tryd.prog 11 #[.pointer (some ⟨g, 0, none⟩), .int .i64 5, .slice p 1 c] v fun e w' => ∃ t, e = .returned (.tuple #[t, .int .i64 0]) ∧ w'.ownsRow v.heap.size 5 1 t 29 (u8s PB) ∧ LkAt w' g D1 ∧ v.grownBy w' (some g))
    (hH : ∀ (v : World) (g : Nat) (p : Option Addr) (c : Nat), Below W.heap.size W v → LkAt v g (LS (lf + 3)) → Piece v p c PB → Calls Tryd.prog 18 #[.pointer (some ⟨g, 0, none⟩), .int .i64 9, .int .i64 0, .slice p 29 c] v fun e w' => ∃ t, e = .returned (.tuple #[t, .bool true, .int .i64 0]) ∧ w'.ownsRow v.heap.size 5 1 t 1 (u8s [121]) ∧ LkAt w' g LT ∧ v.grownBy w' (some g))
    (hK : ∀ v, Below W.heap.size W v → Calls Tryd.prog 8 #[] v fun e w' => e = .returned (.bool true) ∧ Below v.heap.size v w') :
    Calls Tryd.prog 6 #[keyV code mark, .int .i64 (lf : Int)] W fun r w' => r = .returned (.bool true) ∧ Below W.heap.size W w' := by
  have HK := hide hK
  have IK := hide hk.info
  have HN1 := hide hN1
  have HN2 := hide hN2
  have HS := hide hS
  have HE := hide hE
  have HS2 := hide hS2
  have HH := hide hH
  have HPL := hide hPl
  have HPB := hide hPb
  have HLT := hide hLT
  have HSA := hide hsame
  have H2 := hide h2
  have HLF := hide hl
  have d1 : decide ((lf : Int) < 0) = false := by simp
  have d2 : decide ((50 : Int) < (lf : Int)) = false := by simp; omega
  have e1 : IntKind.u64.wrap (lf : Int) = (lf : Int) := by rw [(show ∀ n : Int, IntKind.u64.wrap n = n % 18446744073709551616 from fun n => by simp [IntKind.wrap, IntKind.bits, IntKind.signed])]; omega
  have e2 : IntKind.u64.wrap (9223372036854775808 - (lf : Int)) = 9223372036854775808 - (lf : Int) := by rw [(show ∀ n : Int, IntKind.u64.wrap n = n % 18446744073709551616 from fun n => by simp [IntKind.wrap, IntKind.bits, IntKind.signed])]; omega
  have A1 := hide (key_box W code mark)
  clear hK hN1 hN2 hS hE hS2 hH hPl hPb hLT hsame h2 hl hk
  go_enter Tryd.func6, Tryd.ntmps6
  go_upto_region 1 with fail
  generalize W.alloc (Obj.cells (kCells code mark).toArray 25) = w1 at *
  go_wp2_with (refine wpList_load_row rfl 25 _ rfl W.heap.size rfl 25 _ (0, 0) _ A1.out.1 Tryd.underlying25 rfl IK.out ?_)
  refine (HN1.out _).mono ?_
  rintro e w2 ⟨gl, rfl, hu1, hu2, hu3⟩
  have HU : Hid (W.heap.size ≤ gl ∧ LkAt w2 gl (LS 0) ∧ Arr w2 W.heap.size 25 (kCells code mark) ∧ Below W.heap.size W w2) := ⟨Nat.le_trans A1.out.2.size hu1, hu2, A1.out.1.kept hu3, A1.out.2.trans (hu3.mono A1.out.2.size)⟩
  clear hu1 hu2 hu3 A1
  go_wp2_with (refine wpList_load_row rfl 25 _ rfl W.heap.size rfl 25 _ (0, 0) _ HU.out.2.2.1 Tryd.underlying25 rfl IK.out ?_)
  refine (HN2.out _).mono ?_
  rintro e w3 ⟨go, rfl, hd1, hd2, hd3⟩
  have HT3 : Hid (TwS W w3 gl go (LS 0) D0) := ⟨HU.out.2.1.kept hd3, hd2, HU.out.2.2.2.trans (hd3.mono HU.out.2.2.2.size), HU.out.1, Nat.le_trans HU.out.2.2.2.size hd1, by have := HU.out.2.1.lt; omega⟩
  clear hd1 hd2 hd3 HU HN1 HN2 d1 d2 e1 e2
  have hl50 := HLF.out
  have ha3 : wrap64 ((lf : Int) + 3) = ((lf + 3 : Nat) : Int) := by unfold wrap64; omega
  clear hl50
  have kc := fun (w : World) (C : Array Value) (n c : Nat) => Lib.run_convert_bytes_const (P := Tryd.prog) w 42 5 C n c Tryd.underlying42 Tryd.underlying5
  go_wp2_with fail
  go_loopg [9] (lf + 4) (fun f s9 wr => ∃ k : Nat, s9 = .int .i64 (k : Int) ∧ k ≤ lf + 3 ∧ lf + 3 - k < f ∧ Hid (TwS W wr gl go (LS k) D0))
  case atStart => exact ⟨0, rfl, by omega, by omega, HT3.out⟩
  case round =>
    obtain ⟨k, rfl, hk, hf, HT⟩ := hrel
    clear HT3
    have hl50 := HLF.out
    have hwr : wrap64 ((k : Int) + 1) = ((k + 1 : Nat) : Int) := by unfold wrap64; omega
    clear hl50
    by_cases hk3 : k < lf + 3
    · have dk : decide (k < lf + 3) = true := by simpa using hk3
      go_wp2_with fail
      have bl : Hid (Below wr.heap.size wr (wr.alloc (Obj.cells #[Value.int .u8 120] 5 (1, 2)))) := (Below.refl _ _).alloc (Nat.le_refl _) _
      have HT3 := hide (HT.out.kept bl.out)
      by_cases hkl : k < lf
      · have dl : decide (k < lf) = true := by simpa using hkl
        refine (HS.out _ gl _ _ k HT3.out.b (Nat.le_trans H2.out HT3.out.bu) HT3.out.u (one_lit wr 120 (by omega)) hkl).mono ?_
        rintro e w4 ⟨q, cq, rfl, hl4, hg4⟩
        have HT4 := hide (HT3.out.up hl4 hg4)
        clear hl4 hg4 HT HT3 bl hk3 hkl kc
        go_wp2
        go_roundg (lf + 3 - k)
        case measure => omega
        case rel => exact ⟨k + 1, by rw [hwr], by omega, by omega, HT4.out⟩
      · have dl : decide (k < lf) = false := by simpa using hkl
        refine (HE.out _ gl _ _ k HT3.out.b HT3.out.u (by omega) (by omega)).mono ?_
        rintro e w4 ⟨rfl, rfl⟩
        have HT4 : Hid (TwS W (wr.alloc (Obj.cells #[Value.int .u8 120] 5 (1, 2))) gl go (LS (k + 1)) D0) := by rw [HSA.out k (by omega)]; exact HT3.out
        clear HT HT3 bl hk3 hkl kc
        go_wp2
        go_roundg (lf + 3 - k)
        case measure => omega
        case rel => exact ⟨k + 1, by rw [hwr], by omega, by omega, HT4.out⟩
    · have dk : decide (k < lf + 3) = false := by simpa using hk3
      obtain rfl : k = lf + 3 := by omega
      clear hk hf hk3 HS HE hwr
      go_wp2_with fail
      have bl : Hid (Below wr.heap.size wr (wr.alloc (Obj.cells #[Value.int .u8 121] 5 (1, 2)))) := (Below.refl _ _).alloc (Nat.le_refl _) _
      have HT3 := hide (HT.out.kept bl.out)
      refine (HS2.out _ go _ _ HT3.out.b (Nat.le_trans H2.out HT3.out.bd) HT3.out.d (one_lit wr 121 (by omega))).mono ?_
      rintro e w4 ⟨v4, rfl, ho4, hl4, hg4⟩
      have HT4 := hide (HT3.out.down hl4 hg4)
      obtain ⟨pb, cb, rfl, hpb, _⟩ := own_piece_n ho4 HPL.out HPB.out
      have HPP := hide hpb
      clear ho4 hl4 hg4 hpb HT HT3 bl HS2 kc
      go_wp2_with fail
      refine (HH.out w4 gl pb cb HT4.out.b HT4.out.u HPP.out).mono ?_
      rintro e w5 ⟨v5, rfl, ho5, hl5, hg5⟩
      have HT5 := hide (HT4.out.up hl5 hg5)
      obtain ⟨p5, c5, rfl, hp5, _⟩ := own_piece_n ho5 rfl (by intro y hy; rw [List.mem_singleton] at hy; omega)
      have HP5 := hide hp5
      clear ho5 hl5 hg5 hp5 HT4 HPP HH
      have HNX := hide (next_at w5 gl LT HT5.out.u)
      rw [HLT.out] at HNX
      have hcv := conv_any HP5.out.1 (c := c5) 1 (by rfl)
      have n2 : (strF [121]).toList = [121] := by rw [show strF [121] = ⟨#[121]⟩ from rfl, ByteArray.toList_eq]
      generalize strF [121] = S at *
      go_wp2_with fail
      refine HNX.out.mono ?_
      rintro r w6 ⟨rfl, rfl⟩
      go_wp2_with fail
      refine (HK.out _ HT5.out.b).mono ?_
      rintro r w7 ⟨rfl, hb7⟩
      have HB7 := hide (HT5.out.b.trans (hb7.mono HT5.out.b.size))
      clear hb7
      go_wp2
      go_ret
      exact ⟨rfl, HB7.out⟩

theorem walk (code mark : List Nat) (a : Int) (W : World) (hk : IsKey code mark) (_w1 : (Lit.int .i64 a).wf = true) (hL : Laid W) :
    Calls Tryd.prog 6 #[keyV code mark, .int .i64 a] W fun r w' => r = .returned (.bool true) ∧ Below W.heap.size W w' := by
  have hL2 := hL.size
  have hLB : ∀ v, Below W.heap.size W v → Laid v := fun v hb => hL.keptB (B := W.heap.size) hL2 hb
  have hK := fun v hb => lknown_any v (hLB v hb)
  by_cases h : a < 0 ∨ 50 < a
  · exact walk_out code mark a W h hK
  · obtain ⟨lf, rfl⟩ : ∃ lf : Nat, a = (lf : Int) := ⟨a.toNat, by omega⟩
    have hl : lf ≤ 50 := by omega
    have hx4 : (newL code mark true 4 1).next < 9223372036854775808 := by show 4 < _; omega
    have hb120 : BytesN [120] := by intro y hy; rw [List.mem_singleton] at hy; omega
    have hb121 : BytesN [121] := by intro y hy; rw [List.mem_singleton] at hy; omega
    have hld : (leftL code mark lf (lf + 3)).down = false := rfl
    have hfr : (leftL code mark lf (lf + 3)).fresh 4 = true := rfl
    refine walk_of code mark lf (leftL code mark lf) (newL code mark true 4 1) (newL code mark true 4 1).sent ((leftL code mark lf (lf + 3)).took 4 (5 % 65535) ((newL code mark true 4 1).at 5) 9 0) (sndP (newL code mark true 4 1) 5 [121]) W hk hl hL2 (by rw [sndP_length]; rfl) (sndP_bytes hk _ hb121) ?_ (fun k h => leftL_stay code mark h) ?_ ?_ ?_ ?_ ?_ ?_ hK
    · show 9223372036854775808 - lf + min (lf + 3) lf = 9223372036854775808
      omega
    · intro v
      have h := lnew_ok code mark false (9223372036854775808 - lf) 1 v hk (by omega) ⟨by omega, by omega⟩
      have e : ((9223372036854775808 - lf : Nat) : Int) = 9223372036854775808 - (lf : Int) := by omega
      rw [e] at h
      have e2 : leftL code mark lf 0 = newL code mark false (9223372036854775808 - lf) 1 := by unfold leftL; congr 1
      rw [e2]
      exact h
    · intro v
      exact lnew_ok code mark true 4 1 v hk (by omega) ⟨by omega, by omega⟩
    · intro v g p c k hb hg hl' hP hk'
      have h := send_good g (leftL code mark lf k) p c 1 [120] (k : Int) v hl' ⟨by omega, by omega⟩ (by show 9223372036854775808 - lf + min k lf < _; omega) hP rfl (by omega) (hLB v hb) hg
      rw [leftL_sent code mark hk'] at h
      refine h.mono ?_
      rintro e w' ⟨t, rfl, ho, h1, h2⟩
      obtain ⟨q, cq, rfl, _, _⟩ := own_piece_n ho (by rw [sndP_length]; rfl) (sndP_bytes hk _ hb120)
      exact ⟨q, cq, rfl, h1, h2⟩
    · intro v g p c k hb hl' hk1 hk2
      exact send_spent g (leftL code mark lf k) p (k : Int) 1 c v hl' ⟨by omega, by omega⟩ (by omega) (by show 9223372036854775808 - lf + min k lf = _; omega)
    · intro v g p c hb hg hl' hP
      exact send_good g (newL code mark true 4 1) p c 1 [121] 5 v hl' ⟨by omega, by omega⟩ hx4 hP rfl (by omega) (hLB v hb) hg
    · intro v g p c hb hl' hP
      have h := hear_snd g (newL code mark true 4 1) (leftL code mark lf (lf + 3)) p c 1 [121] 5 9 0 v hl' ⟨by omega, by omega⟩ ⟨by omega, by omega⟩ hx4 rfl (by omega) rfl rfl (show true ≠ false by decide) hP (hLB v hb)
      exact h

set_option maxRecDepth 100000 in
theorem lifted (os : Os) (started : os.Started) (H : Type) (enc : TypeId × Value → H) :
    ReturnsInHanded {} Tryd.checked os 6 .any (fun w args => (Rows.linkSpentSpec.pre enc Tryd.prog Tryd.f6 [] false w args ∧ laidMetH Tryd.prog laid2 w) ∧ sizedMet enc Tryd.prog Tryd.f6 (OpenSpec.ofChange Rows.linkSpentSpec) false w args)
      (Rows.linkSpentSpec.post enc Tryd.prog Tryd.f6 false true false false) := by
  refine returnsInHanded_of_change_and (C := Tryd.checked) (X := fun w _ => laidMetH Tryd.prog laid2 w) (fun _ _ _ hh h => h.of_heap hh) own started (by kernel_rfl) Tryd.func6
    (ChangeSpec.witness_shaped (enc := enc) (C := Tryd.checked) (os := os) (X := fun w _ => laidMetH Tryd.prog laid2 w) false (World.doorLaid Tryd.prog 400 os) #[.agg zeroK.toArray, .int .i64 0] 8 rfl (World.shaped_of_RefB (by kernel_rfl) (by kernel_rfl)) (by kernel_rfl) (by kernel_rfl) (by kernel_rfl) (door_met os _)) ?_
  intro W base args ds gs before hval0 hW _ hsz hL _
  have hval : ∀ (j : Nat) t v, Tryd.f6.params[j]? = some t → args[j]? = some v → Value.okWide Tryd.prog W .any base t v := hval0
  have hW' := hW
  obtain ⟨p, q, hA0, hV, rfl, hfz, hnd⟩ := hW
  have hA : DataW.TrodAll enc Tryd.prog W 0 (fun _ => true) true Tryd.f6.params.toList args.toList ds p := hA0
  rw [Tryd.params6] at hA hval
  obtain ⟨v0, vs0, d0, ds0, p0, q0, hargs, rfl, rfl, h0, r0⟩ := trodAll_cons hA
  obtain ⟨v1, vs1, d1, ds1, p1, q1, rfl, rfl, rfl, h1, r1⟩ := trodAll_cons r0
  obtain ⟨rfl, rfl, rfl⟩ := trodAll_nil r1
  obtain rfl : args = #[v0, v1] := by cases args; simp_all
  obtain ⟨rfl, rfl⟩ := trodVars_none hV
  have k0 := h0
  obtain ⟨x0, y0, rfl, w0, z0⟩ := open_key (hval 0 25 v0 rfl rfl) h0
  obtain ⟨a1, rfl, rfl, rfl, w1⟩ := open_int Tryd.underlying3 (hval 1 3 v1 rfl rfl) h1
  clear hA0 hval0
  refine (walk x0 y0 a1 W w0 w1 (of_laid hL)).mono fun e W' ⟨he, bel⟩ => ?_
  subst he
  exact ⟨_, rfl, _, _, _, [], _, [], hW', trodAll_mk1 (shut_bool Tryd.underlying4 _), (trodAll_cons_mk (Below.trod laidOut (by kernel_rfl) (of_decide_eq_true (by kernel_rfl)) k0 bel (fun x hx => (z0 x hx).elim)) (trodAll_cons_mk (shut_int Tryd.underlying3 w1) trodAll_mk0)), rfl, bel.frame _, fun h => by cases h⟩

theorem row : Rows.LinkSpentSaid :=
  OpenClaim.holds_of_wide 6 Tryd.f6 rfl rfl rfl rfl rfl rfl rfl ⟨rfl, rfl, rfl, rfl, rfl⟩ rfl rfl rfl rfl rfl (by kernel_rfl) Tryd.func6 (by kernel_rfl)
    (of_decide_eq_true (by kernel_rfl)) (by unfold Func.isWrapper; first | (rw [if_pos (by decide +kernel)]; kernel_rfl) | (rw [if_neg (by decide +kernel)]; exact ⟨rfl, rfl⟩))
    (fun os started H enc _ => lifted os started H enc)

theorem card : Rows.LinkSpentCardSaid :=
  Claim7.holds_tied_plain_at .later [] [.data, .data] true (true, Rows.linkSpentCard.stood.harness.2) false
    row (fun _ h => by cases h) (by kernel_rfl) (fun _ h => by cases h) linkSpent_row_tie rfl ⟨rfl, rfl⟩ (by kernel_rfl) rfl
    (fun f fn hf hfn => by
      obtain rfl : f = 6 := Option.some.inj ((show Tryd.prog.funcNamed "oriel/oriellaw09.LinkSpent" = some 6 by kernel_rfl).symm.trans hf) |>.symm
      obtain rfl : fn = Tryd.f6 := (Option.some.inj (Tryd.func6.symm.trans hfn)).symm
      exact ⟨by kernel_rfl, fun j t ht => by
        rw [Tryd.params6] at ht
        have hm : t ∈ [25, 3] := by simpa using Array.mem_of_getElem? ht
        have hall : ([25, 3].all fun u => !Tryd.prog.wantsStandIn u) = true := by kernel_rfl
        exact (show Tryd.prog.wantsStandIn t = false by simpa using List.all_eq_true.1 hall t hm)⟩)
    (by kernel_rfl)

end LinkSpentProof

/-- Where no nonce is left nothing is sent any more, and what comes is heard still. -/
theorem linkSpent_holds : Rows.LinkSpentCardSaid := LinkSpentProof.card

#print axioms linkSpent_holds
end Go.Proofs.YtanjbblkijhibaaDoor
