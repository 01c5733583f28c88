/-
  Proved here: no number's form is the beginning of another one's, and two forms, one behind the other, are read as the two numbers and nothing is left (whatever the two numbers).
-/
import Derived.Test.YtmkoefnnpficfabRows
import Derived.Test.YtmkoefnnpficfabWG
import Derived.ProofKit
import Derived.OpenShut
import Derived.ShutString
import Derived.ChangeOld
import Derived.Below
import Derived.BigQuiet
import Derived.Deep.QuietTactic
namespace Go.Proofs.Ytmkoefnnpficfab
namespace WireApartProof
open Go.ChangeShapes Go.WideShapes Go.ChangeAt Go.RowKit
set_option linter.unusedVariables false

theorem wf_u64 {a : Int} (h : (Lit.int .u64 a).wf = true) : ∃ n : Nat, a = n ∧ n < 18446744073709551616 := by
  have := bounds_u64 h
  exact ⟨a.toNat, by omega, by omega⟩

set_option maxHeartbeats 1000000 in
set_option maxRecDepth 100000 in
theorem walk_nat (a b : Nat) (ha : a < 18446744073709551616) (hb : b < 18446744073709551616) (w : World) :
    Calls Try.prog 3 #[.int .u64 a, .int .u64 b] w fun e w' => e = .returned (.bool true) ∧ Below w.heap.size w w' := by
  go_enter Try.func3, Try.ntmps3
  go_wp2_with fail
  refine (num_any a ha _).mono ?_
  rintro e w1 ⟨v1, rfl, hown1, hb1⟩
  have HO1 := hide hown1
  clear hown1
  go_wp2_with fail
  refine (num_any b hb _).mono ?_
  rintro e w2 ⟨v2, rfl, hown2, hb2⟩
  have hown1 := own_below HO1.out hb2
  have s1 := numF_short a ha
  have s2 := numF_short b hb
  obtain ⟨g1, c1, rfl, hB1, hg1, hl1, hm1⟩ := own_shape hown1 (by omega)
  obtain ⟨g2, c2, rfl, hB2, hg2, hl2, hm2⟩ := own_shape hown2 (by omega)
  obtain ⟨_, _, e1, _, _, hq1, _⟩ := own_bytes hown1 (numF_bytes a)
  obtain ⟨_, _, e2, _, _, hq2, _⟩ := own_bytes hown2 (numF_bytes b)
  cases e1
  cases e2
  have HQ1 := hide hq1
  have HQ2 := hide hq2
  have HB2 := hide (hb1.trans (hb2.mono hb1.size))
  generalize hx : numF a = x at *
  generalize hy : numF b = y at *
  have HX := hide hx
  have HY := hide hy
  clear hx hy hown1 hown2 hb1 hb2 hq1 hq2 HO1 hB1 hB2 hg1 hg2
  generalize hn1 : x.length = n1 at *
  generalize hn2 : y.length = n2 at *
  have HN1 := hide hn1
  have HN2 := hide hn2
  clear hn1 hn2
  have z1 : ((n1 : Int) == 0) = false := by simp; omega
  have z2 : ((n2 : Int) == 0) = false := by simp; omega
  unfold maxLen at hm1 hm2
  go_wp2
  have cases3 : ((a : Int) != (b : Int)) = false ∨ (((a : Int) != (b : Int)) = true ∧ decide ((n1 : Int) ≤ (n2 : Int)) = true) ∨ (((a : Int) != (b : Int)) = true ∧ decide (n1 ≤ n2) = false) := by
    by_cases hab : a = b
    · left; simp [hab]
    · right
      by_cases hle : (n1 : Int) ≤ (n2 : Int)
      · left; exact ⟨by simp; omega, by simpa using hle⟩
      · right; exact ⟨by simp; omega, by simp; omega⟩
  rcases cases3 with hne | ⟨hne, hle⟩ | ⟨hne, hle⟩
  case' inl => go_quiet (fail)
  case' inr.inl =>
    have hle2 : n1 ≤ n2 := by simpa using hle
    have hup := fun w => run_upto w (some ⟨g2, 0, none⟩) n2 c2 n1 (by omega)
    have hcx := fun nq => conv_any (w := w2.drewN nq) HQ1.out n1 c1 HN1.out
    have hcy := fun nq => conv_any (w := w2.drewN nq) (bytes_upto HQ2.out n1) n1 c2 (by rw [List.length_take, HN2.out]; omega)
    clear hle
    have hss : ((strOfNums (y.take n1)).toList == (strOfNums x).toList) = false := by
      refine str_ne (by rw [← HY.out]; exact fun z hz => numF_bytes b z (List.mem_of_mem_take hz)) (by rw [← HX.out]; exact numF_bytes a) ?_
      intro e2
      rw [← HX.out, ← HY.out] at e2
      have := numF_apart ha hb e2
      simp [this] at hne
    go_quiet (fail)
    clear hup hcx hcy hss
  case' inr.inr => go_quiet (fail)
  all_goals
    have HB3 : Hid (Below w.heap.size w (w2.drewN nq)) := below_drewN HB2.out nq
    have HQ1' : Hid (BytesIn (w2.drewN nq) (some ⟨g1, 0, none⟩) x) := HQ1.out
    have HQ2' : Hid (BytesIn (w2.drewN nq) (some ⟨g2, 0, none⟩) y) := HQ2.out
    have hsz : w2.heap.size = (w2.drewN nq).heap.size := rfl
    clear HQ1 HQ2 HB2
    generalize hw3 : w2.drewN nq = w3 at *
    clear hw3 hsz
    go_wp2_with (at_builtin; refine wpList_append_bytes rfl (.tmp 44) (.tmp 45) rfl w3.heap.size _ [] rfl 0 rfl (World.ownsRow_made w3 #[] 0 (Nat.le_refl _) (Nat.zero_le _) rfl) (some ⟨g1, 0, none⟩) n1 c1 x HN1.out rfl ?h1 ?h2 ?h3 ?h4 ?_)
    case h1 => exact bytes_kept HQ1'.out (World.grownBy_alloc w3 _ none) (fun a _ => by simp)
    case h2 => intro h; cases h
    case h3 => omega
    case h4 => simp
    intro v4 w4 zs4 k4 hz4 hk4 hown4 hg4 _
    obtain rfl : zs4 = x := by simpa using hz4.out
    obtain rfl : n1 = k4 := HN1.out.symm.trans hk4.out
    clear hz4 hk4
    have HB4 := hide ((HB3.out.alloc HB3.out.size (.cells #[] 5)).grown hg4 (by have := HB3.out.size; simp; omega) (by intro k hk; simp [Value.ownBlock] at hk; have := HB3.out.size; omega))
    have hg34 := grown_below hg4 (B := w3.heap.size) (by simp) (by intro k hk; simp [Value.ownBlock] at hk; omega)
    have hb34 : Below w3.heap.size w3 w4 := ((Below.refl _ w3).alloc (Nat.le_refl _) _).trans hg34
    have HQ2'' := hide (bytes_kept HQ2'.out (below_grown hb34 none) (fun a _ => by simp))
    have hB34 : w3.heap.size ≤ w4.heap.size := hb34.size
    obtain ⟨g4, c4, rfl, hB4, hgs4, _, _⟩ := own_shape hown4 (by omega)
    have HO4 := hide hown4
    clear hown4 hg4 hg34 hb34 HQ1' HQ2'
    go_wp2_with (at_builtin; refine wpList_append_bytes rfl (.tmp 46) (.tmp 47) rfl w3.heap.size _ zs4 rfl n1 HN1.out HO4.out (some ⟨g2, 0, none⟩) n2 c2 y HN2.out rfl HQ2''.out ?h2 ?h3 ?h4 ?_)
    case h2 => intro h; cases h
    case h3 => omega
    case h4 => exact hB34
    intro v5 w5 zs5 k5 hz5 hk5 hown5 hg5 _
    obtain rfl : zs5 = zs4 ++ y := by simpa using hz5.out
    obtain rfl : (zs4 ++ y).length = k5 := hk5.out
    clear hz5 hk5
    have HB5 := hide (HB4.out.grown hg5 HB4.out.size (by intro k hk; simp [Value.ownBlock] at hk; subst hk; exact Nat.le_trans HB3.out.size hB4))
    have hxy : (zs4 ++ y).length = n1 + n2 := by rw [List.length_append, HN1.out, HN2.out]
    have hby : ∀ z ∈ zs4 ++ y, 0 ≤ z ∧ z < 256 := by
      intro z hz
      rcases List.mem_append.1 hz with h | h
      · rw [← HX.out] at h; exact numF_bytes a z h
      · rw [← HY.out] at h; exact numF_bytes b z h
    obtain ⟨q5, c5, rfl, _, _, hq5, _⟩ := own_bytes hown5 hby
    have hop := open_any q5 c5 (zs4 ++ y) w5 (by rw [hxy]; omega) hq5
    rw [hxy] at hop
    have HOP := hide hop
    clear hop hown5 hg5 hq5 HO4 HB4 hby HQ2''
    go_wp2_with fail
    refine (show Calls _ _ _ _ _ from HOP.out).mono ?_
    rintro e w6 ⟨br, rfl, hbB, hrd, hb6⟩
    have HB6 := hide (HB5.out.trans (hb6.mono HB5.out.size))
    have hbr : w.heap.size ≤ br := Nat.le_trans HB5.out.size hbB
    have HRD := hide hrd
    clear hb6 hrd HB5 HOP hbB
    go_wp2_with fail
    refine (rnum_ok br _ _ HRD.out).mono ?_
    rintro e w7 ⟨m, bs', er, rfl, hrd7, hg7, ⟨hn, _⟩ | ⟨hn, rfl, _⟩⟩
    · rw [← HX.out, rdNum_numF a ha] at hn; cases hn
    rw [← HX.out, rdNum_numF a ha] at hn
    simp only [Option.some.injEq, Prod.mk.injEq] at hn
    obtain ⟨rfl, rfl⟩ := hn
    have HB7 := hide (HB6.out.grown hg7 HB6.out.size (by intro k hk; cases hk; exact hbr))
    have HRD7 := hide hrd7
    clear hg7 hrd7 HB6 HRD
    go_wp2_with fail
    refine (rnum_ok br _ _ HRD7.out).mono ?_
    rintro e w8 ⟨m, bs', er, rfl, hrd8, hg8, ⟨hn, _⟩ | ⟨hn, rfl, _⟩⟩
    · rw [← HY.out, ← List.append_nil (numF b), rdNum_numF b hb] at hn; cases hn
    rw [← HY.out, ← List.append_nil (numF b), rdNum_numF b hb] at hn
    simp only [Option.some.injEq, Prod.mk.injEq] at hn
    obtain ⟨rfl, rfl⟩ := hn
    have HB8 := hide (HB7.out.grown hg8 HB7.out.size (by intro k hk; cases hk; exact hbr))
    obtain ⟨p0, c0, k0, _⟩ := hrd8
    have K0 := hide k0
    clear hg8 HB7 HRD7 k0
    go_wp2_with fail
    refine (left_at br p0 _ c0 _ K0.out).mono ?_
    rintro e w9 ⟨rfl, hw9⟩
    subst hw9
    go_wp2_with fail
    refine (known_any _).mono ?_
    rintro e w10 ⟨rfl, hb10⟩
    go_wp2
    go_ret
    exact ⟨rfl, HB8.out.trans (hb10.mono HB8.out.size)⟩

theorem walk (a0 a1 : Int) (w : World) (w0 : (Lit.int .u64 a0).wf = true) (w1 : (Lit.int .u64 a1).wf = true) :
    Calls Try.prog 3 #[.int .u64 a0, .int .u64 a1] w fun e w' => e = .returned (.bool true) ∧ Below w.heap.size w w' := by
  obtain ⟨a, rfl, ha⟩ := wf_u64 w0
  obtain ⟨b, rfl, hb⟩ := wf_u64 w1
  exact walk_nat a b ha hb w

theorem own : ownKnob Try.prog.godebug = none := by kernel_rfl
theorem laidOut : laidOutB Try.prog = true := by kernel_rfl
set_option maxRecDepth 100000 in
theorem lifted (os : Os) (started : os.Started) (H : Type) (enc : TypeId × Value → H) :
    ReturnsInHanded {} Try.checked os 3 .any (Rows.wireApartSpec.pre6 enc Try.prog Try.f3 Rows.wireApartRow.domain false) (Rows.wireApartSpec.post enc Try.prog Try.f3 false true false false) := by
  refine returnsInHanded_of_change (C := Try.checked) own started (by kernel_rfl) Try.func3
    (ChangeSpec.witness6 (enc := enc) (C := Try.checked) false ⟨#[], #[.int .u64 0, .int .u64 0], []⟩ 8 (by kernel_rfl) (by kernel_rfl) (by kernel_rfl) (by kernel_rfl)) ?_
  intro W base args ds gs before hval0 hW hcnd _
  have hval : ∀ (j : Nat) t v, Try.f3.params[j]? = some t → args[j]? = some v → Value.okWide Try.prog W .any base t v := hval0
  have hW' := hW
  obtain ⟨p, q, hA0, hV, rfl, hfz, hnd⟩ := hW
  have hA : DataW.TrodAll enc Try.prog W 0 (fun _ => true) true Try.f3.params.toList args.toList ds p := hA0
  rw [Try.params3] at hA hval
  obtain ⟨v0, vs0, d0, ds0, p0, q0, hargs, rfl, rfl, h0, r0⟩ := trodAll_cons hA
  obtain ⟨v1, vs1, d1, ds1, p1, q1, rfl, rfl, rfl, h1, r1⟩ := trodAll_cons r0
  obtain ⟨rfl, rfl, rfl⟩ := trodAll_nil r1
  obtain rfl : args = #[v0, v1] := by cases args; simp_all
  obtain ⟨rfl, rfl⟩ := trodVars_none hV
  obtain ⟨a0, rfl, rfl, rfl, w0⟩ := open_int Try.underlying22 (hval 0 22 v0 rfl rfl) h0
  obtain ⟨a1, rfl, rfl, rfl, w1⟩ := open_int Try.underlying22 (hval 1 22 v1 rfl rfl) h1
  clear hA0 hval0
  refine (walk a0 a1 W w0 w1).mono fun e W' ⟨he, bel⟩ => ?_
  subst he
  exact ⟨_, rfl, _, _, _, [], _, [], hW', trodAll_mk1 (shut_bool Try.underlying4 _), (trodAll_cons_mk (shut_int Try.underlying22 w0) (trodAll_cons_mk (shut_int Try.underlying22 w1) trodAll_mk0)), rfl, bel.frame _, fun h => by cases h⟩

theorem over : Rows.wireApartRow.holds Try.pinned (OpenSpec.ofChange Rows.wireApartSpec) :=
  OpenClaim.holds_of_wide 3 Try.f3 rfl rfl rfl rfl rfl rfl rfl ⟨rfl, rfl, rfl, rfl, rfl⟩ rfl rfl rfl rfl rfl (by kernel_rfl) Try.func3 (by kernel_rfl)
    (of_decide_eq_true (by kernel_rfl)) (by unfold Func.isWrapper; first | (rw [if_pos (by decide +kernel)]; kernel_rfl) | (rw [if_neg (by decide +kernel)]; exact ⟨rfl, rfl⟩))
    (fun os started H enc _ => lifted os started H enc)


end WireApartProof

/-- No number's form is the beginning of another one's; so forms one behind the other are read in one way alone. -/
theorem wireApart_holds : Rows.WireApartSaid := WireApartProof.over

#print axioms wireApart_holds
end Go.Proofs.Ytmkoefnnpficfab
