/-
  ShaSums, the tied card: the digest of any bytes, in whatever pieces, is the document's (of more than 40 pieces, or of more than 4000 bytes, nothing is asked but the known rows): the law returns true, and what is handed in stays. No condition but the two tables, which the card ties to the program's text.
-/
import Derived.Test.YtfopjobcjafgaaaDoorHE
import Derived.Test.YtfopjobcjafgaaaDoorHG
import Derived.Test.YtfopjobcjafgaaaDoorFA
namespace Go.Proofs.YtfopjobcjafgaaaDoor
namespace ShaSumsProof
open Go.ChangeShapes Go.WideShapes Go.ChangeAt Go.WideMaps Go.WideElems Go.RowKit

set_option maxHeartbeats 4000000 in
set_option maxRecDepth 100000 in
theorem walk (sp : Option Addr) (k cc : Nat) (P : Nat → Option Addr) (C : Nat → Nat) (B : Nat → List Nat) (W : World) (hP : Pieces W sp k P C B) (hL : Laid W) :
    Calls Tryd.prog 5 #[.slice sp k cc] W fun e W' => e = .returned (.bool true) ∧ Below W.heap.size W W' := by
  have hL2 := hL.size
  have HL := hide hL
  have HSL := hide hP.1
  have HPC := hide hP.2.1
  have hkm := hP.2.2
  unfold maxLen at hkm
  have HS := hide (fun (v : World) (hb : Below W.heap.size W v) (ht : (joinF B k).length ≤ 4000) (hk : k ≤ 40) =>
    ssum_of sp k cc P C B (sumF (joinF B k)) v (by
      rcases hP.1 with h | ⟨q, o, hq, hc⟩
      · exact Or.inl h
      · exact Or.inr ⟨q, o, hq, fun i hi => (hb.cell (block_lt_of_cell (hc i hi))).trans (hc i hi)⟩) (fun i hi => (hP.2.1 i hi).kept hb) (by omega) (by omega) (hL.keptB (B := W.heap.size) hL2 hb) rfl)
  have HR := hide (fun (v : World) (p : Option Addr) (c : Nat) (h : Piece v p c (joinF B k)) (ht : (joinF B k).length ≤ 4000) => refsum_of p c (joinF B k) v h.1 h.2.1 (by omega) h.2.2.1)
  have HE := hide (eq_self (sumF (joinF B k)) (sumF_length _) (sumF_bytes _))
  have HJS : Hid (∀ i, joinF B (i + 1) = joinF B i ++ B i) := fun i => rfl
  have HJ0 : Hid (joinF B 0 = []) := rfl
  have HJB := hide (joinF_bytes (B := B) (k := k) (fun i hi => (hP.2.1 i hi).2.2.1))
  clear hP hL
  generalize joinF B = J at *
  generalize sumF (J k) = D at *
  go_enter Tryd.func5, Tryd.ntmps5
  go_wp2_with fail
  refine (known_any _ HL.out).mono ?_
  rintro e w1 ⟨rfl, hb1⟩
  have B1 := hide hb1
  clear hb1
  go_wp2
  go_loopg [4, 3] (k + 1) (fun f s4 s3 wr => ∃ (i : Nat) (v : Value), s4 = .int .i64 i ∧ v = s3 ∧ i ≤ k ∧ k - i < f ∧ i ≤ 40 ∧ (J i).length ≤ 4000 ∧ wr.ownsRow W.heap.size 5 1 v (J i).length (u8s (J i)) ∧ Below W.heap.size W wr)
  case atStart => exact ⟨0, _, rfl, rfl, by omega, by omega, by omega, by rw [HJ0.out]; exact Nat.zero_le _, by rw [HJ0.out]; exact World.ownsRow_nil _ _ _ _, B1.out⟩
  case round =>
    clear B1
    obtain ⟨i, v, rfl, rfl, hik, hf, hi40, hlen, hown, hB⟩ := hrel
    have HO := hide hown
    have HB := hide hB
    obtain ⟨pv, cv, rfl, hpv, hbv⟩ := own_piece hown (HJB.out i hik)
    have HPV := hide hpv
    clear hown hB hpv hbv
    by_cases hlt : i < k
    · have hlt' : (i : Int) < (k : Int) := by omega
      by_cases h40 : i < 40
      · have h40' : decide ((40 : Int) ≤ (i : Int)) = false := by simp; omega
        rcases HSL.out with h0 | ⟨q, o, rfl, hcell⟩
        · omega
        have hq := hcell i hlt
        have hq' := (HB.out.cell (block_lt_of_cell hq)).trans hq
        have HPI := hide (HPC.out i hlt)
        clear hq hcell
        have HJI := hide (HJS.out i)
        generalize hJl : (J i).length = n at *
        have HJl := hide hJl
        generalize hBl : (B i).length = m at *
        have HBl := hide hBl
        clear hJl hBl
        by_cases hfit : m ≤ 4000 - n
        · have hfit' : decide ((4000 : Int) - (n : Int) < (m : Int)) = false := by simp; omega
          go_wp2_with (at_builtin; refine wpList_append_bytes rfl (.tmp 26) (.tmp 30) rfl W.heap.size _ (J i) rfl n HJl.out HO.out (P i) m (C i) (B i) HBl.out rfl (HPI.out.1.kept HB.out) HPI.out.2.1 (by omega) HB.out.size ?_)
          intro v5 w5 hown hgrow
          have O5 : Hid (w5.ownsRow W.heap.size 5 1 v5 (J (i + 1)).length (u8s (J (i + 1)))) := by
            show World.ownsRow _ _ _ _ _ _ _
            rw [HJI.out, List.length_append, HJl.out, HBl.out]; exact hown
          have B5 : Hid (Below W.heap.size W w5) := HB.out.grown hgrow HB.out.size (fun k hk => (HO.out.lt k hk).1)
          have L5 : Hid ((J (i + 1)).length ≤ 4000) := by show _ ≤ _; rw [HJI.out, List.length_append, HJl.out, HBl.out]; omega
          clear hown hgrow HO HB
          go_wp2
          go_roundg (k - i)
          case measure => omega
          case rel => exact ⟨i + 1, v5, by go_num, rfl, by omega, by omega, by omega, L5.out, O5.out, B5.out⟩
        · have hfit' : decide ((4000 : Int) - (n : Int) < (m : Int)) = true := by simp; omega
          go_wp2
          go_ret
          exact ⟨rfl, HB.out⟩
      · have h40' : decide ((40 : Int) ≤ (i : Int)) = true := by simp; omega
        go_wp2
        go_ret
        exact ⟨rfl, HB.out⟩
    · have e : i = k := by omega
      subst e
      have hlt' : ¬ (i : Int) < (i : Int) := by omega
      go_wp2_with fail
      refine (HS.out wr HB.out hlen hi40).mono ?_
      rintro e w6 ⟨rfl, hb6⟩
      have P6 := hide (HPV.out.kept hb6)
      have B6 : Hid (Below W.heap.size W w6) := HB.out.trans (hb6.mono HB.out.size)
      clear hb6 HB HPV HO
      go_wp2_with fail
      refine (HR.out w6 pv cv P6.out hlen).mono ?_
      rintro e w7 ⟨rfl, hb7⟩
      have B7 : Hid (Below W.heap.size W w7) := B6.out.trans (hb7.mono B6.out.size)
      clear hb7 B6 P6
      go_wp2_with (refine wpList_eql_agg rfl 35 35 (.tmp 33) (.tmp 35) rfl (u8s D).toArray (u8s D).toArray rfl rfl true (guard35 _ _ _ _ _) (HE.out _) ?_)
      go_ret
      exact ⟨rfl, B7.out⟩

set_option maxRecDepth 100000 in
theorem lifted (os : Os) (started : os.Started) (H : Type) (enc : TypeId × Value → H) :
    ReturnsInHanded {} Tryd.checked os 5 .any (fun w args => (Rows.shaSumsSpec.pre enc Tryd.prog Tryd.f5 [] false w args ∧ laidMetH Tryd.prog laid2 w) ∧ sizedMet enc Tryd.prog Tryd.f5 (OpenSpec.ofChange Rows.shaSumsSpec) false w args)
      (Rows.shaSumsSpec.post enc Tryd.prog Tryd.f5 false true false false) := by
  refine returnsInHanded_of_change_and (C := Tryd.checked) (X := fun w _ => laidMetH Tryd.prog laid2 w) (fun _ _ _ hh h => h.of_heap hh) own started (by kernel_rfl) Tryd.func5
    (ChangeSpec.witness_shaped (enc := enc) (C := Tryd.checked) (os := os) (X := fun w _ => laidMetH Tryd.prog laid2 w) false (World.doorLaid Tryd.prog 400 os) #[.slice none 0 0] 8 rfl (World.shaped_of_RefB (by kernel_rfl) (by kernel_rfl)) (by kernel_rfl) (by kernel_rfl) (by kernel_rfl) (door_met os _)) ?_
  intro W base args ds gs before hval0 hW _ _ hL _
  have hval : ∀ (j : Nat) t v, Tryd.f5.params[j]? = some t → args[j]? = some v → Value.okWide Tryd.prog W .any base t v := hval0
  have hW' := hW
  obtain ⟨p, q, hA0, hV, rfl, hfz, hnd⟩ := hW
  have hA : DataW.TrodAll enc Tryd.prog W 0 (fun _ => true) true Tryd.f5.params.toList args.toList ds p := hA0
  rw [Tryd.params5] at hA hval
  obtain ⟨v0, vs0, d0, ds0, p0, q0, hargs, rfl, rfl, h0, r0⟩ := trodAll_cons hA
  obtain ⟨rfl, rfl, rfl⟩ := trodAll_nil r0
  obtain rfl : args = #[v0] := by cases args; simp_all
  obtain ⟨rfl, rfl⟩ := trodVars_none hV
  obtain ⟨a0, len0, cap0, rfl⟩ := okWide_slice Tryd.underlying34 (hval 0 34 v0 rfl rfl)
  have k0 := h0
  have lt0 : ∀ x ∈ p0, x.block < W.heap.size := by obtain ⟨m, hm⟩ := k0; exact DataW.trod_lt m _ _ _ hm
  obtain ⟨fuel0, hf0⟩ := h0
  obtain ⟨a0', len0', cap0', P0, C0, B0, hcs0, w0⟩ := pieces_of hf0
  simp [Value.cells] at hcs0
  obtain ⟨rfl, rfl, rfl⟩ := hcs0
  clear hf0
  clear hA0 hval0
  refine (walk a0 len0 cap0 P0 C0 B0 W w0 (of_laid hL)).mono fun e W' ⟨he, bel⟩ => ?_
  subst he
  exact ⟨_, rfl, _, _, _, [], _, [], hW', trodAll_mk1 (shut_bool Tryd.underlying4 _), (trodAll_cons_mk (Below.trod laidOut (by kernel_rfl) (of_decide_eq_true (by kernel_rfl)) k0 bel lt0) trodAll_mk0), rfl, bel.frame _, fun h => by cases h⟩

theorem row : Rows.ShaSumsSaid :=
  OpenClaim.holds_of_wide 5 Tryd.f5 rfl rfl rfl rfl rfl rfl rfl ⟨rfl, rfl, rfl, rfl, rfl⟩ rfl rfl rfl rfl rfl (by kernel_rfl) Tryd.func5 (by kernel_rfl)
    (of_decide_eq_true (by kernel_rfl)) (by unfold Func.isWrapper; first | (rw [if_pos (by decide +kernel)]; kernel_rfl) | (rw [if_neg (by decide +kernel)]; exact ⟨rfl, rfl⟩))
    (fun os started H enc _ => lifted os started H enc)

theorem card : Rows.ShaSumsCardSaid :=
  Claim7.holds_tied_plain_at .later [] [.data, .data] true (true, Rows.shaSumsCard.stood.harness.2) false
    row (fun _ h => by cases h) (by kernel_rfl) (fun _ h => by cases h) shaSums_row_tie rfl ⟨rfl, rfl⟩ (by kernel_rfl) rfl
    (fun f fn hf hfn => by
      obtain rfl : f = 5 := Option.some.inj ((show Tryd.prog.funcNamed "oriel/oriellaw02.ShaSums" = some 5 by kernel_rfl).symm.trans hf) |>.symm
      obtain rfl : fn = Tryd.f5 := (Option.some.inj (Tryd.func5.symm.trans hfn)).symm
      exact ⟨by kernel_rfl, fun j t ht => by
        rw [Tryd.params5] at ht
        have hm : t ∈ [34] := by simpa using Array.mem_of_getElem? ht
        have hall : ([34].all fun u => !Tryd.prog.wantsStandIn u) = true := by kernel_rfl
        exact (show Tryd.prog.wantsStandIn t = false by simpa using List.all_eq_true.1 hall t hm)⟩)
    (by kernel_rfl)

end ShaSumsProof

theorem shaSums_holds : Rows.ShaSumsCardSaid := ShaSumsProof.card
#print axioms shaSums_holds

end Go.Proofs.YtfopjobcjafgaaaDoor
