/-
  FragParts: the pieces of any text are it, one behind the other, at places that rise one by one, each of that size but the last one, which alone says so: the law returns true. No condition.
-/
import Derived.Test.YtecpnnnkkofejaaGT
namespace Go.Proofs.Ytecpnnnkkofejaa
namespace FragPartsProof
open Go.ChangeShapes Go.WideShapes Go.ChangeAt Go.WideMaps Go.WideElems Go.RowKit Go.Maps
set_option linter.unusedVariables false
set_option linter.unusedSimpArgs false

set_option maxHeartbeats 8000000 in
set_option maxRecDepth 100000 in
theorem walk (i : Int) (p : Option Addr) (c : Nat) (xs : List Nat) (s : Int) (w : World) (hi : (Lit.int .u64 i).wf = true) (hx : Piece w p c xs) (hs : (Lit.int .i64 s).wf = true) :
    Calls Try.prog 8 #[.int .u64 i, .slice p xs.length c, .int .i64 s] w fun e w' => e = .returned (.bool true) ∧ Below w.heap.size w w' := by
  obtain ⟨i, rfl, hi2⟩ := wf_u64 hi
  have HK := hide (known_any w)
  have HX := hide hx
  obtain ⟨n, hn⟩ : ∃ n, xs.length = n := ⟨_, rfl⟩
  rw [hn]
  have HN := hide hn
  have hs64 := bounds_i64 hs
  clear hi hx hn hs
  by_cases hbig : (3000 : Int) < (n : Int)
  · go_enter Try.func8, Try.ntmps8
    go_wp2_with fail
    refine HK.out.mono ?_
    rintro e w1 ⟨rfl, hb⟩
    go_wp2
    go_ret
    exact ⟨rfl, hb⟩
  · have hn3 : n ≤ 3000 := by omega
    by_cases hsz : s < 1 ∨ 1100 < s
    · have HC := hide (fun v => pcut_arg i n s p c v hsz)
      go_enter Try.func8, Try.ntmps8
      go_wp2_with fail
      refine HK.out.mono ?_
      rintro e w1 ⟨rfl, hb⟩
      have HB := hide hb
      clear hb HK
      go_wp2_with fail
      refine (HC.out w1).mono ?_
      rintro e w2 ⟨rfl, rfl⟩
      by_cases h1 : s < 1
      · clear hsz
        go_wp2
        go_ret
        exact ⟨rfl, HB.out⟩
      · have h2 : 1100 < s := by omega
        clear hsz
        go_wp2
        go_ret
        exact ⟨rfl, HB.out⟩
    · obtain ⟨s, rfl⟩ : ∃ m : Nat, s = (m : Int) := ⟨s.toNat, by omega⟩
      have s1 : 1 ≤ s := by omega
      have s2 : s ≤ 1100 := by omega
      have h1' : ¬ (s : Int) < 1 := by omega
      have h2' : ¬ 1100 < (s : Int) := by omega
      by_cases hq : 256 < (n + s - 1) / s
      · have HC := hide (fun v => pcut_long i n s p c v s1 s2 (Or.inr hq))
        have h3 := cut_big s1 hq
        have h3' : (256 : Int) * (s : Int) < (n : Int) := by omega
        clear hsz hq h3
        go_enter Try.func8, Try.ntmps8
        go_wp2_with fail
        refine HK.out.mono ?_
        rintro e w1 ⟨rfl, hb⟩
        have HB := hide hb
        clear hb HK
        go_wp2_with fail
        refine (HC.out w1).mono ?_
        rintro e w2 ⟨rfl, rfl⟩
        go_wp2
        go_ret
        exact ⟨rfl, HB.out⟩
      · obtain ⟨N, hN⟩ : ∃ N, cutN n s = N := ⟨_, rfl⟩
        have HC := hide (fun v (hp : Piece v p c xs) => pcut_ok i n s N xs p c v hp HN.out s1 s2 (by omega) (by omega) hN)
        have HNN := hide hN
        have hN0 : 0 < N := by rw [← hN]; exact cutN_pos n s (by omega)
        have hN1 : N ≤ 256 := by
          rw [← hN, cutN]
          split <;> omega
        clear hsz hq hN
        go_enter Try.func8, Try.ntmps8
        go_wp2_with fail
        refine HK.out.mono ?_
        rintro e w1 ⟨rfl, hb⟩
        have HB := hide hb
        clear hb HK
        go_wp2_with fail
        refine (HC.out w1 (HX.out.kept HB.out)).mono ?_
        rintro e w2 ⟨g, ks, rfl, hgl, hA, hkl, hcut, hb⟩
        have A2 := hide hA
        have HKL := hide hkl
        have HCT := hide hcut
        have B2 := hide (HB.out.trans (hb.mono HB.out.size))
        clear hA hkl hcut hb hgl HB HC
        go_wp2_with fail
        go_loopg [9, 10] (N + 1) (fun f s9 s10 wr => ∃ (j a : Nat), s9 = .string (strF (xs.take a)) ∧ s10 = .int .i64 (j : Int) ∧ j ≤ N ∧ N - j < f ∧ Hid (a = j * s) ∧ wr = w2)
        case atStart => exact ⟨0, 0, by rfl, rfl, by omega, by omega, by show _ = _; simp, rfl⟩
        case round =>
          obtain ⟨j, a, rfl, rfl, hj, hf, HAA, rfl⟩ := hrel
          by_cases hjN : j < N
          · obtain ⟨k, hk, hkx, hkp, hko⟩ := HCT.out j hjN
            clear hko
            have R := pk_at A2.out hk
            have c0 := R 0 _ rfl
            have c1 := R 1 _ rfl
            have c2 := R 2 _ rfl
            have c3 := R 3 _ rfl
            rw [Nat.add_zero] at c0
            rw [hkx] at c0 c1 c2 c3 hkp
            have hmore := (cut_more n s j (by omega)).2 (by rw [HNN.out]; exact hjN)
            have hlast := last_is n s j N (by omega) hjN HNN.out
            have hlen : (cutX i xs s j).b.length = min (a + s) n - a := by
              show ((xs.drop (j * s)).take s).length = _
              rw [List.length_take, List.length_drop, HN.out, ← HAA.out]; omega
            have hja : (j + 1) * s = a + s := by rw [HAA.out, Nat.add_mul]; omega
            rw [hja] at hlast
            have han : a ≤ n ∧ (j = 0 ∨ a < n) := by
              rw [← HAA.out] at hmore
              rcases hmore with h | h
              · refine ⟨?_, Or.inl h⟩
                have := HAA.out
                rw [h] at this
                simp at this
                omega
              · exact ⟨by omega, Or.inr h⟩
            obtain ⟨le, hle⟩ : ∃ le, min (a + s) n - a = le := ⟨_, rfl⟩
            rw [hle] at hlen
            have HSTR : Hid (strF (xs.take a) ++ strF (cutX i xs s j).b = strF (xs.take (a + s))) := by
              show _ = _
              rw [← strF_append]
              congr 1
              show xs.take a ++ (xs.drop (j * s)).take s = _
              rw [← HAA.out, List.take_add]
            have HS1 : Hid ((strF (xs.take a)).size ≤ 3000 ∧ (strF (cutX i xs s j).b).size ≤ 3000) := by
              refine ⟨?_, ?_⟩
              · rw [strF_size, List.length_take, HN.out]; omega
              · rw [strF_size, hlen]; omega
            have hadd : ∀ v : World, (Op.stringOp .add (strF (xs.take a)) (strF (cutX i xs s j).b)).run Try.prog v = .ok (.string (strF (xs.take (a + s)))) v := fun v => by
              have h := run_string_add (P := Try.prog) v (strF (xs.take a)) (strF (cutX i xs s j).b) (by have := HS1.out.1; omega) (by have := HS1.out.2; omega)
              rw [HSTR.out] at h
              exact h
            have hcv := conv_any hkp.1 (c := k.c) le hlen
            have HC2 : Hid (decide (xs.length ≤ (j + 1) * s) = decide (n ≤ a + s)) := by show _ = _; rw [HN.out, hja]
            simp only [cutX] at c0 c1 c2
            rw [hlen] at c3
            rw [HC2.out] at c2
            have HNX : Hid ((j + 1) * s = a + s) := hja
            obtain ⟨r, hr⟩ : ∃ r, decide (n ≤ a + s) = r := ⟨_, rfl⟩
            rw [hr] at hlast c2
            have hf1 : r = false → le = s := fun e => by
              subst e
              simp at hr
              omega
            have hf2 : le ≤ s := by omega
            have hf3 : j = 0 ∨ 0 < le := by
              rcases han.2 with h | h
              · exact Or.inl h
              · right; omega
            clear hkx hlen hja han hle HSTR HS1 HC2 R hk hmore hr
            generalize strF (xs.take a) = sa at *
            generalize strF (cutX i xs s j).b = sb at *
            obtain ⟨sc, hsc⟩ : ∃ sc, strF (xs.take (a + s)) = sc := ⟨_, rfl⟩
            rw [hsc] at hadd
            have HSC := hide hsc
            clear hsc hkp
            generalize k.p = kp at *
            generalize k.c = kc at *
            clear k
            have HLS := hide hlast
            clear hlast
            go_upto_region 12 with fail
            go_cut [11] (fun s11 wc => s11 = .bool r ∧ wc = wr)
            case first =>
              clear hf1 hf2 hf3 c0 c1 c2 c3 hadd hcv
              go_wp2
              go_meet
              case rel => exact ⟨by rw [HLS.out], rfl⟩
            case rest =>
            obtain ⟨rfl, rfl⟩ := hcut
            cases r
            · have hls : (le : Int) = (s : Int) := by have := hf1 rfl; omega
              obtain rfl := hf1 rfl
              clear hf1 hf2 hf3
              go_upto_region 13 with fail
              simp only [List.append_eq, List.cons_append, List.nil_append]
              go_wp2
              go_roundg (N - j)
              case measure => omega
              case rel => exact ⟨j + 1, a + le, by rw [← HSC.out], by simp, by omega, by omega, HNX.out.symm, rfl⟩
            · have hls : ¬ (s : Int) < (le : Int) := by omega
              clear hf1 hf2
              have hj0 : ¬ 0 < j ∨ 0 < j ∧ ((le : Int) == 0) = false := by
                rcases hf3 with h | h
                · left; omega
                · by_cases h0 : j = 0
                  · left; omega
                  · right; exact ⟨by omega, by simp; omega⟩
              clear hf3
              rcases hj0 with hj0 | ⟨hj0, hle0⟩
              all_goals
                go_upto_region 13 with fail
                simp only [List.append_eq, List.cons_append, List.nil_append]
                go_wp2
                go_roundg (N - j)
                case measure => omega
                case rel => exact ⟨j + 1, a + s, by rw [← HSC.out], by simp, by omega, by omega, HNX.out.symm, rfl⟩
          · have e : j = N := by omega
            subst e
            have hna : n ≤ a := by
              have h := cut_more n s j (by omega)
              rw [HNN.out] at h
              rw [HAA.out]
              have : ¬ (j = 0 ∨ j * s < n) := fun e => by have := h.1 e; omega
              omega
            have hta : xs.take a = xs := List.take_of_length_le (by rw [HN.out]; exact hna)
            rw [hta]
            have hcv := conv_any (HX.out.kept B2.out).1 (c := c) n HN.out
            generalize strF xs = sx at *
            have h0 : 0 < j := by omega
            clear hjN hta hna HCT
            go_wp2
            go_ret
            exact ⟨rfl, B2.out⟩

theorem own : ownKnob Try.prog.godebug = none := by kernel_rfl
theorem laidOut : laidOutB Try.prog = true := by kernel_rfl
set_option maxRecDepth 100000 in
theorem lifted (os : Os) (started : os.Started) (H : Type) (enc : TypeId × Value → H) :
    ReturnsInHanded {} Try.checked os 8 .any (Rows.fragPartsSpec.pre6 enc Try.prog Try.f8 Rows.fragPartsRow.domain false) (Rows.fragPartsSpec.post enc Try.prog Try.f8 false true false false) := by
  refine returnsInHanded_of_change (C := Try.checked) own started (by kernel_rfl) Try.func8
    (ChangeSpec.witness6 (enc := enc) (C := Try.checked) false ⟨#[], #[.int .u64 0, .slice none 0 0, .int .i64 0], []⟩ 8 (by kernel_rfl) (by kernel_rfl) (by kernel_rfl) (by kernel_rfl)) ?_
  intro W base args ds gs before hval0 hW hcnd _
  have hval : ∀ (j : Nat) t v, Try.f8.params[j]? = some t → args[j]? = some v → Value.okWide Try.prog W .any base t v := hval0
  have hW' := hW
  obtain ⟨p, q, hA0, hV, rfl, hfz, hnd⟩ := hW
  have hA : DataW.TrodAll enc Try.prog W 0 (fun _ => true) true Try.f8.params.toList args.toList ds p := hA0
  rw [Try.params8] at hA hval
  obtain ⟨v0, vs0, d0, ds0, p0, q0, hargs, rfl, rfl, h0, r0⟩ := trodAll_cons hA
  obtain ⟨v1, vs1, d1, ds1, p1, q1, rfl, rfl, rfl, h1, r1⟩ := trodAll_cons r0
  obtain ⟨v2, vs2, d2, ds2, p2, q2, rfl, rfl, rfl, h2, r2⟩ := trodAll_cons r1
  obtain ⟨rfl, rfl, rfl⟩ := trodAll_nil r2
  obtain rfl : args = #[v0, v1, v2] := by cases args; simp_all
  obtain ⟨rfl, rfl⟩ := trodVars_none hV
  obtain ⟨a0, rfl, rfl, rfl, w0⟩ := open_int Try.underlying22 (hval 0 22 v0 rfl rfl) h0
  obtain ⟨a1, len1, cap1, rfl⟩ := okWide_slice Try.underlying23 (hval 1 23 v1 rfl rfl)
  have k1 := h1
  have lt1 : ∀ x ∈ p1, x.block < W.heap.size := by obtain ⟨m, hm⟩ := k1; exact DataW.trod_lt m _ _ _ hm
  obtain ⟨fuel1, hf1⟩ := h1
  obtain ⟨a1', cap1', x1, hcs1, w1⟩ := piece_of hf1
  simp [Value.cells] at hcs1
  obtain ⟨rfl, rfl, rfl⟩ := hcs1
  clear hf1
  obtain ⟨a2, rfl, rfl, rfl, w2⟩ := open_int Try.underlying3 (hval 2 3 v2 rfl rfl) h2
  clear hA0 hval0
  refine (walk a0 a1 cap1 x1 a2 W w0 w1 w2).mono fun e W' ⟨he, bel⟩ => ?_
  subst he
  exact ⟨_, rfl, _, _, _, [], _, [], hW', trodAll_mk1 (shut_bool Try.underlying4 _), (trodAll_cons_mk (shut_int Try.underlying22 w0) (trodAll_cons_mk (Below.trod laidOut (by kernel_rfl) (of_decide_eq_true (by kernel_rfl)) k1 bel lt1) (trodAll_cons_mk (shut_int Try.underlying3 w2) trodAll_mk0))), rfl, bel.frame _, fun h => by cases h⟩

theorem over : Rows.fragPartsRow.holds Try.pinned (OpenSpec.ofChange Rows.fragPartsSpec) :=
  OpenClaim.holds_of_wide 8 Try.f8 rfl rfl rfl rfl rfl rfl rfl ⟨rfl, rfl, rfl, rfl, rfl⟩ rfl rfl rfl rfl rfl (by kernel_rfl) Try.func8 (by kernel_rfl)
    (of_decide_eq_true (by kernel_rfl)) (by unfold Func.isWrapper; first | (rw [if_pos (by decide +kernel)]; kernel_rfl) | (rw [if_neg (by decide +kernel)]; exact ⟨rfl, rfl⟩))
    (fun os started H enc _ => lifted os started H enc)

end FragPartsProof

/-- The pieces of any text are it, one behind the other. -/
theorem fragParts_holds : Rows.FragPartsSaid := FragPartsProof.over

#print axioms fragParts_holds
end Go.Proofs.Ytecpnnnkkofejaa
