/-
  UtfBack: forms of code points, one behind the other, are told as these.
-/
import Derived.Test.YtijjifdgmffenaaDoorUP
import Derived.Test.YtijjifdgmffenaaDoorUM
namespace Go.Proofs.YtijjifdgmffenaaDoor
namespace UtfBackProof
open Go.ChangeShapes Go.WideShapes Go.ChangeAt Go.WideMaps Go.WideElems Go.RowKit

set_option maxHeartbeats 2000000 in
theorem walk_out (L cap : Nat) (p : Option Addr) (w : World) (hL : LaidU w) (d1 : decide ((500 : Int) < (L : Int)) = true) :
    Calls Tryd.prog 8 #[.slice p L cap] w fun e w' => e = .returned (.bool true) ∧ Below w.heap.size w w' := by
  have HK := hide (known_any w hL)
  clear hL
  go_enter Tryd.func8, Tryd.ntmps8
  go_wp2_with fail
  refine HK.out.mono ?_
  rintro r w0 ⟨rfl, b0⟩
  have HB0 := hide b0
  clear b0 HK
  go_wp2_with fail
  go_ret
  exact ⟨rfl, HB0.out⟩

def ptsF (xs : List Int) : List Nat := xs.map ptF
theorem ptsF_pt (xs : List Int) : ∀ x ∈ ptsF xs, IsPt (x : Int) := by
  intro x hx
  obtain ⟨y, _, rfl⟩ := List.mem_map.1 hx
  exact ptF_pt y
theorem ptsF_succ (xs : List Int) (i : Nat) (hi : i < xs.length) : ptsF (xs.take (i + 1)) = ptsF (xs.take i) ++ [ptF (xs.getD i 0)] := by
  have e : xs.take (i + 1) = xs.take i ++ [xs.getD i 0] := by
    rw [List.take_add_one]
    simp [List.getD, hi]
  rw [e]
  simp [ptsF]

set_option maxHeartbeats 8000000 in
set_option maxRecDepth 100000 in
theorem walk_in (L cap : Nat) (p : Option Addr) (xs : List Int) (w : World) (hp : RPiece w p cap xs) (hl : xs.length = L) (hL2 : L ≤ 500) (hL : LaidU w) :
    Calls Tryd.prog 8 #[.slice p L cap] w fun e w' => e = .returned (.bool true) ∧ Below w.heap.size w w' := by
  have HK := hide (known_any w hL)
  have HN := hide new_any
  have HP := hide (And.intro hp (And.intro hl hL2))
  have HL := hide hL
  have d1 : decide ((500 : Int) < (L : Int)) = false := decide_eq_false (by omega)
  clear hp hl hL2 hL
  go_enter Tryd.func8, Tryd.ntmps8
  go_wp2_with fail
  refine HK.out.mono ?_
  rintro r w0 ⟨rfl, b0⟩
  have HP0 := hide (HP.out.1.kept b0)
  have HL0 := hide (HL.out.kept b0)
  have HB0 := hide b0
  have HS0 : Hid (BkS w0 w0 (formsF (ptsF (xs.take 0))) (ints (ptsF (xs.take 0))) (.slice none 0 0) (.slice none 0 0)) := ⟨⟨rfl, Or.inl ⟨rfl, rfl⟩⟩, ⟨rfl, Or.inl ⟨rfl, rfl⟩⟩, Below.refl _ _⟩
  clear b0 HK
  go_wp2_with fail
  clear d1
  go_loopg [3, 4, 5] (L + 1) (fun f s3 s4 s5 wx => ∃ i : Nat, s5 = .int .i64 (i : Int) ∧ i ≤ L ∧ L - i < f ∧ Hid (BkS w0 wx (formsF (ptsF (xs.take i))) (ints (ptsF (xs.take i))) s3 s4))
  case atStart => exact ⟨0, rfl, Nat.zero_le _, by omega, HS0.out⟩
  case round =>
    clear HS0
    obtain ⟨i, rfl, hiL, hif, HS⟩ := hrel
    by_cases hlt : i < L
    · obtain ⟨x, hx⟩ : ∃ x, x = xs.getD i 0 := ⟨_, rfl⟩
      have hil : i < xs.length := by rw [HP.out.2.1]; exact hlt
      obtain ⟨g, o, rfl, hc⟩ := HP0.out.cell (Nat.lt_of_le_of_lt (Nat.zero_le _) hil)
      have ca := hc i hil
      rw [← hx] at ca
      have cx : wr.cell? ⟨g, o + i, none⟩ = some (.int .i32 x) := (HS.out.lo.cell (p := ⟨g, o + i, none⟩) (block_lt_of_cell ca)).trans ca
      have i1 : (i : Int) < (L : Int) := by omega
      obtain ⟨N, hN⟩ : ∃ N, N = ptF x := ⟨_, rfl⟩
      have HPT : Hid (IsPt (N : Int)) := by rw [hN]; exact ptF_pt x
      have HSUC : Hid (ptsF (xs.take (i + 1)) = ptsF (xs.take i) ++ [N]) := by show _ = _; rw [hN, hx]; exact ptsF_succ xs i hil
      have HNX := hide hN
      have HCX := hide ca
      clear hx hil hc hN ca
      obtain ⟨z, hz⟩ : ∃ z, decide (IsPt x) = z := ⟨_, rfl⟩
      have HZ := hide hz
      clear hz
      go_upto_region 11 with fail
      go_cut [38] (fun s38 wy => s38 = .bool (!z) ∧ wy = wr)
      case first => as_aux_lemma =>
        clear HPT HSUC HNX HCX HS
        by_cases h0 : x < 0
        · have k0 : decide (x < 0) = true := decide_eq_true h0
          have HV : Hid (z = false) := HZ.out.symm.trans (decide_eq_false (show ¬ IsPt x from fun h => by have := h.1; omega))
          clear h0
          go_wp2_with fail
          go_meet
          case rel => exact ⟨by rw [HV.out]; rfl, rfl⟩
        · have k0 : decide (x < 0) = false := decide_eq_false h0
          by_cases h1 : 1114111 < x
          · have k1 : decide (1114111 < x) = true := decide_eq_true h1
            have HV : Hid (z = false) := HZ.out.symm.trans (decide_eq_false (show ¬ IsPt x from fun h => by have := h.2.1; omega))
            clear h0 h1
            go_wp2_with fail
            go_meet
            case rel => exact ⟨by rw [HV.out]; rfl, rfl⟩
          · have k1 : decide (1114111 < x) = false := decide_eq_false h1
            by_cases h2 : 55296 ≤ x
            · have k2 : decide (55296 ≤ x) = true := decide_eq_true h2
              by_cases h3 : x ≤ 57343
              · have k3 : decide (x ≤ 57343) = true := decide_eq_true h3
                have HV : Hid (z = false) := HZ.out.symm.trans (decide_eq_false (show ¬ IsPt x from fun h => by have := h.2.2; omega))
                clear h0 h1 h2 h3
                go_wp2_with fail
                go_meet
                case rel => exact ⟨by rw [HV.out]; rfl, rfl⟩
              · have k3 : decide (x ≤ 57343) = false := decide_eq_false h3
                have HV : Hid (z = true) := HZ.out.symm.trans (decide_eq_true (show IsPt x from ⟨by omega, by omega, by omega⟩))
                clear h0 h1 h2 h3
                go_wp2_with fail
                go_meet
                case rel => exact ⟨by rw [HV.out]; rfl, rfl⟩
            · have k2 : decide (55296 ≤ x) = false := decide_eq_false h2
              have HV : Hid (z = true) := HZ.out.symm.trans (decide_eq_true (show IsPt x from ⟨by omega, by omega, by omega⟩))
              clear h0 h1 h2
              go_wp2_with fail
              go_meet
              case rel => exact ⟨by rw [HV.out]; rfl, rfl⟩
      case rest =>
        obtain ⟨rfl, rfl⟩ := hcut
        go_upto_if 38 with fail
        go_cut [6] (fun s6 wy => s6 = .int .i32 (N : Int) ∧ wy = wc)
        case first => as_aux_lemma =>
          clear HPT HSUC HCX HS cx
          cases z
          · have hv : (65533 : Int) = (N : Int) := by rw [HNX.out, ptF_bad (of_decide_eq_false HZ.out)]; rfl
            have HV := hide hv
            clear hv HNX HZ
            go_wp2_with fail
            go_meet
            case rel => exact ⟨by rw [HV.out], rfl⟩
          · have hv : x = (N : Int) := by
              rw [HNX.out]
              have h := of_decide_eq_true HZ.out
              unfold ptF
              rw [if_pos h, Int.toNat_of_nonneg h.1]
            have HV := hide hv
            clear hv HNX HZ
            go_wp2_with fail
            go_meet
            case rel => exact ⟨by rw [← HV.out], rfl⟩
        case rest =>
          obtain ⟨rfl, rfl⟩ := hcut
          clear HZ
          have HF := hide (form_any x wc (HL0.out.kept HS.out.lo))
          obtain ⟨F, hF⟩ : ∃ F, formF N = F := ⟨_, rfl⟩
          go_wp2_with fail
          refine HF.out.mono ?_
          rintro r wa ⟨pf, Lf, cf, rfl, l1, q1, b1⟩
          rw [← HNX.out, hF] at l1 q1
          have hff := form_facts N HPT.out
          rw [hF, l1] at hff
          have hf1 : 1 ≤ Lf := hff.2.1
          have hf4 : Lf ≤ 4 := hff.2.2.1
          have HFL := hide (And.intro hf1 (And.intro hf4 (And.intro hF l1)))
          have HSA := hide (HS.out.kept b1)
          have HQ1 := hide q1
          have c1 : decide ((Lf : Int) < 1) = false := decide_eq_false (by omega)
          have c2 : decide ((4 : Int) < (Lf : Int)) = false := decide_eq_false (by omega)
          clear HF cx HS b1 q1 l1 hff hF
          go_wp2_with fail
          refine (HN.out wa).mono ?_
          rintro r wb ⟨rfl, a2, b2⟩
          obtain ⟨G, hG⟩ : ∃ G, wa.heap.size = G := ⟨_, rfl⟩
          rw [hG] at a2 b2
          rw [hG]
          have HG := hide hG
          have HI0 : Hid (Arr wb G 41 (dcC (dcAt N 0)) ∧ Below G wa wb) := ⟨a2, b2⟩
          clear a2 b2 hG
          go_wp2_with fail
          go_loopg [9] 5 (fun f s9 wy => ∃ k : Nat, s9 = .int .i64 (k : Int) ∧ k + 1 ≤ Lf ∧ Lf - k < f ∧ Hid (Arr wy G 41 (dcC (dcAt N k)) ∧ Below G wa wy))
          case atStart => exact ⟨0, rfl, hf1, by omega, HI0.out⟩
          case round =>
            clear HI0
            obtain ⟨k, rfl, hkL, hkf, HI⟩ := hrel
            by_cases hk : k + 1 < Lf
            · have dk : decide ((k : Int) < (Lf : Int) - 1) = true := decide_eq_true (by omega)
              have hcf : k + 1 ≤ cf := by
                have h1 := HQ1.out.2.2.2.1
                have h2 := HFL.out.2.2.2
                omega
              have S1 : ∀ v : World, (Instr.slice 22 (.slice pf Lf cf) (some (.int .i64 (k : Int))) (some (.int .i64 ((k : Int) + 1))) none).run Tryd.prog v = .ok (.slice (cutP pf k cf) 1 (cf - k)) v := fun v => by
                have h := run_mid v pf Lf cf k (k + 1) (by omega) hcf
                rw [show k + 1 - k = 1 from by omega] at h
                exact h
              have HLW : Hid (LaidU wr) := HL0.out.kept (HSA.out.lo.trans (HI.out.2.mono (by rw [← HG.out]; exact HSA.out.lo.size)))
              have HG0 : Hid (0 < G) := by rw [← HG.out]; exact Nat.lt_of_lt_of_le HL0.out.size HSA.out.lo.size
              have HQR : Hid (Piece wr pf cf F) := HQ1.out.kept (by rw [HG.out]; exact HI.out.2)
              have hst := dcAt_step N HPT.out k (by have h1 := HFL.out.2.2.1; have h2 := HFL.out.2.2.2; rw [h1, h2]; omega)
              rw [HFL.out.2.2.1] at hst
              have HPU := hide (put_of (dcAt N k) G 1 (cf - k) (cutP pf k cf) ((F.drop k).take 1) wr (dcAt_ok N k) HLW.out HI.out.1 HG0.out ((HQR.out.from k (by have h2 := HFL.out.2.2.2; omega)).take 1) (by rw [List.length_take, List.length_drop]; have h2 := HFL.out.2.2.2; omega) (by omega) hst)
              have HTL : Hid ((dcAt N (k + 1)).h = k + 1) := (at_told N HPT.out (k + 1) (by have h1 := HFL.out.2.2.1; have h2 := HFL.out.2.2.2; rw [h1, h2]; omega)).2
              clear hst HLW HG0 HQR hcf
              go_wp2_with fail
              refine HPU.out.mono ?_
              rintro r wy ⟨py, cy, rfl, _, _, a4, k4⟩
              have hhe := held_any _ G wy a4
              rw [HTL.out, show ((k + 1 : Nat) : Int) = (k : Int) + 1 from rfl] at hhe
              have HHE := hide hhe
              have HI4 : Hid (Arr wy G 41 (dcC (dcAt N (k + 1))) ∧ Below G wa wy) := ⟨a4, HI.out.2.trans (k4.toBelow (Nat.le_of_lt HI.out.1.lt))⟩
              clear a4 k4 hhe HPU HTL HI S1
              go_wp2_with fail
              refine HHE.out.mono ?_
              rintro r wz ⟨rfl, rfl⟩
              clear HHE
              go_wp2_with fail
              go_roundg (Lf - k)
              case measure => omega
              case rel => exact ⟨k + 1, by rw [show ((k + 1 : Nat) : Int) = (k : Int) + 1 from rfl], by omega, by omega, HI4⟩
            · have ek : k + 1 = Lf := by omega
              have dk : decide ((k : Int) < (Lf : Int) - 1) = false := decide_eq_false (by omega)
              have S2 : ∀ v : World, (Instr.slice 22 (.slice pf Lf cf) (some (.int .i64 ((Lf : Int) - 1))) none none).run Tryd.prog v = .ok (.slice (cutP pf k cf) 1 (cf - k)) v := fun v => by
                have h := run_fromL v pf Lf cf k (by omega)
                rw [show Lf - k = 1 from by omega, show (k : Int) = (Lf : Int) - 1 from by omega] at h
                exact h
              have HBW : Hid (Below wa.heap.size wa wr) := by rw [HG.out]; exact HI.out.2
              have HLW : Hid (LaidU wr) := HL0.out.kept ((HSA.out.kept HBW.out).lo)
              have HG0 : Hid (0 < G) := by rw [← HG.out]; exact Nat.lt_of_lt_of_le HL0.out.size HSA.out.lo.size
              have HQR : Hid (Piece wr pf cf F) := HQ1.out.kept HBW.out
              have hst := dcAt_last N HPT.out
              rw [HFL.out.2.2.1, HFL.out.2.2.2, show Lf - 1 = k from by omega] at hst
              have HPU := hide (put_of (dcAt N k) G 1 (cf - k) (cutP pf k cf) (F.drop k) wr (dcAt_ok N k) HLW.out HI.out.1 HG0.out (HQR.out.from k (by have h2 := HFL.out.2.2.2; omega)) (by rw [List.length_drop]; have h2 := HFL.out.2.2.2; omega) (by omega) hst)
              clear hst HLW HG0 HQR
              go_wp2_with fail
              refine HPU.out.mono ?_
              rintro r wy ⟨py, cy, rfl, r4, _, a4, k4⟩
              have HBY : Hid (Below wa.heap.size wa wy) := HBW.out.trans (by rw [HG.out]; exact k4.toBelow (Nat.le_of_lt HI.out.1.lt))
              have HSA2 := hide (same_any 1 cy 1 py (some ⟨wy.heap.size, 0, none⟩) [(N : Int)] (wy.alloc (Obj.cells #[Value.int .i32 (N : Int)] 21)) (r4.kept ((Below.refl _ _).alloc (Nat.le_refl _) _)) (lit_runes (heap_alloc_new _ _) rfl (by decide)) rfl (by decide))
              clear r4 a4 k4 HPU HI HBW S2 dk c1 c2
              go_wp2_with fail
              refine HSA2.out.mono ?_
              rintro r wz ⟨rfl, bz⟩
              have HBZ : Hid (Below wa.heap.size wa wz) := HBY.out.trans (((Below.refl _ _).alloc HBY.out.size _).trans (bz.mono (Nat.le_trans HBY.out.size (by simp))))
              have HSZ := hide (HSA.out.kept HBZ.out)
              have HQZ := hide (HQ1.out.kept HBZ.out)
              obtain ⟨ns, hns⟩ : ∃ ns, ns = ptsF (xs.take i) := ⟨_, rfl⟩
              rw [← hns] at HSZ
              have hnl : ns.length = i := by rw [hns]; unfold ptsF; rw [List.length_map, List.length_take]; have := HP.out.2.1; omega
              have hfl := formsF_length ns (by rw [hns]; exact ptsF_pt _)
              have hL5 := HP.out.2.2
              have HN1 : Hid ((formsF ns).length + Lf ≤ 140737488355328) := by show _ ≤ _; omega
              have HN2 : Hid ((ints ns).length + 1 ≤ 17592186044416) := by show _ ≤ _; rw [ints_length]; omega
              have HNS := hide hns
              clear hns hnl hfl hL5 bz HSA2 HBY HSA HQ1
              go_upto_region 25 with (refine wpList_append_bytes rfl _ _ rfl w0.heap.size _ (formsF ns) rfl (formsF ns).length rfl HSZ.out.b pf Lf cf F HFL.out.2.2.2 rfl HQZ.out.1 HQZ.out.2.1 HN1.out HSZ.out.lo.size ?_; intro v5 w5 ho5 hw5; have HS5 := hide (HSZ.out.bytes HFL.out.2.2.2 ho5 hw5); clear ho5 hw5)
              clear HSZ HQZ
              go_wp2_with (refine wpList_append_runes rfl _ _ rfl w0.heap.size _ (ints ns) rfl (ints ns).length rfl (HS5.out.kept ((Below.refl _ _).alloc (Nat.le_refl _) _)).r (some ⟨_, 0, none⟩) 1 1 [(N : Int)] rfl rfl (ni_one (heap_alloc_new _ _)) (fun h => by cases h) HN2.out (Nat.le_trans HS5.out.lo.size (by simp)) ?_; intro v6 w6 ho6 hw6; have HS6 := hide ((HS5.out.kept ((Below.refl _ _).alloc (Nat.le_refl _) _)).runes rfl ho6 hw6); clear ho6 hw6)
              have HWI : Hid (wrap64 ((i : Int) + 1) = ((i + 1 : Nat) : Int)) := by show _ = _; have hL5 := HP.out.2.2; unfold wrap64; omega
              go_roundg (L - i)
              case measure => omega
              case rel =>
                refine ⟨i + 1, by rw [HWI.out], by omega, by omega, ?_⟩
                show BkS _ _ _ _ _ _
                rw [HSUC.out, ← HNS.out, formsF_append, formsF_one, HFL.out.2.2.1, ints_append]
                exact HS6.out
    · have ei : i = L := by omega
      subst ei
      have et : xs.take i = xs := List.take_of_length_le (by rw [HP.out.2.1]; exact Nat.le_refl _)
      rw [et] at HS
      obtain ⟨ns, hns⟩ : ∃ ns, ns = ptsF xs := ⟨_, rfl⟩
      rw [← hns] at HS
      have hpt : ∀ x ∈ ns, IsPt (x : Int) := by rw [hns]; exact ptsF_pt _
      have hnl : ns.length = i := by rw [hns]; unfold ptsF; rw [List.length_map]; exact HP.out.2.1
      have hfl := formsF_length ns hpt
      have hL5 := HP.out.2.2
      obtain ⟨pb, cb, rfl, hQ, _⟩ := own_piece_n HS.out.b rfl (forms_bytes ns hpt)
      obtain ⟨pw, cw, rfl, hR, _⟩ := own_rpiece HS.out.r
      have HD := hide (decode_of (formsF ns).length cb pb (formsF ns) wr (HL0.out.kept HS.out.lo) hQ rfl (by omega) (forms_utf ns hpt))
      have HR := hide hR
      have HIN : Hid ((ints ns).length = ns.length ∧ ns.length ≤ 99000) := ⟨ints_length ns, by omega⟩
      have HBW := hide HS.out.lo
      have hil : (ints ns).length = ns.length := ints_length ns
      rw [hil]
      clear hil et hns hpt hnl hfl hL5 hQ hR HS
      go_wp2_with fail
      refine HD.out.mono ?_
      rintro r wa ⟨pa, ca, rfl, ra, _, ba⟩
      have HBA : Hid (Below w0.heap.size w0 wa) := HBW.out.trans (ba.mono HBW.out.size)
      have HSM := hide (same_any ns.length ca cw pa pw (ints ns) wa ra (HR.out.kept ba) HIN.out.1 HIN.out.2)
      clear ra ba HD HR HBW
      go_wp2_with fail
      refine HSM.out.mono ?_
      rintro r wb ⟨rfl, bb⟩
      have HBB : Hid (Below w0.heap.size w0 wb) := HBA.out.trans (bb.mono HBA.out.size)
      clear bb HSM HBA
      go_wp2_with fail
      go_ret
      exact ⟨rfl, HB0.out.trans (HBB.out.mono HB0.out.size)⟩

theorem walk (p : Option Addr) (cap : Nat) (xs : List Int) (w : World) (hp : RPiece w p cap xs) (hL : LaidU w) :
    Calls Tryd.prog 8 #[.slice p xs.length cap] w fun e w' => e = .returned (.bool true) ∧ Below w.heap.size w w' := by
  by_cases h1 : (500 : Int) < (xs.length : Int)
  · exact walk_out _ cap p w hL (decide_eq_true h1)
  · exact walk_in _ cap p xs w hp rfl (by omega) hL

set_option maxRecDepth 100000 in
theorem lifted (os : Os) (started : os.Started) (H : Type) (enc : TypeId × Value → H) :
    ReturnsInHanded {} Tryd.checked os 8 .any (fun w args => (Rows.utfBackSpec.pre enc Tryd.prog Tryd.f8 [] false w args ∧ laidMetH Tryd.prog laid1 w) ∧ sizedMet enc Tryd.prog Tryd.f8 (OpenSpec.ofChange Rows.utfBackSpec) false w args)
      (Rows.utfBackSpec.post enc Tryd.prog Tryd.f8 false true false false) := by
  refine returnsInHanded_of_change_and (C := Tryd.checked) (X := fun w _ => laidMetH Tryd.prog laid1 w) (fun _ _ _ hh h => h.of_heap hh) own started (by kernel_rfl) Tryd.func8
    (ChangeSpec.witness_shaped (enc := enc) (C := Tryd.checked) (os := os) (X := fun w _ => laidMetH Tryd.prog laid1 w) false (World.doorLaid Tryd.prog 400 os) #[.slice none 0 0] 8 rfl (World.shaped_of_RefB (by kernel_rfl) (by kernel_rfl)) (by kernel_rfl) (by kernel_rfl) (by kernel_rfl) (door_met os _)) ?_
  intro W base args ds gs before hval0 hW _ hsz hL _
  have hval : ∀ (j : Nat) t v, Tryd.f8.params[j]? = some t → args[j]? = some v → Value.okWide Tryd.prog W .any base t v := hval0
  have hW' := hW
  obtain ⟨p, q, hA0, hV, rfl, hfz, hnd⟩ := hW
  have hA : DataW.TrodAll enc Tryd.prog W 0 (fun _ => true) true Tryd.f8.params.toList args.toList ds p := hA0
  rw [Tryd.params8] at hA hval
  obtain ⟨v0, vs0, d0, ds0, p0, q0, hargs, rfl, rfl, h0, r0⟩ := trodAll_cons hA
  obtain ⟨rfl, rfl, rfl⟩ := trodAll_nil r0
  obtain rfl : args = #[v0] := by cases args; simp_all
  obtain ⟨rfl, rfl⟩ := trodVars_none hV
  obtain ⟨a0, len0, cap0, rfl⟩ := okWide_slice Tryd.underlying27 (hval 0 27 v0 rfl rfl)
  have k0 := h0
  have lt0 : ∀ x ∈ p0, x.block < W.heap.size := by obtain ⟨m, hm⟩ := k0; exact DataW.trod_lt m _ _ _ hm
  obtain ⟨fuel0, hf0⟩ := h0
  obtain ⟨a0', cap0', x0, hcs0, w0⟩ := runes_of hf0
  simp [Value.cells] at hcs0
  obtain ⟨rfl, rfl, rfl⟩ := hcs0
  clear hf0
  clear hA0 hval0
  refine (walk a0 cap0 x0 W w0 (of_laid hL)).mono fun e W' ⟨he, bel⟩ => ?_
  subst he
  exact ⟨_, rfl, _, _, _, [], _, [], hW', trodAll_mk1 (shut_bool Tryd.underlying4 _), (trodAll_cons_mk (Below.trod laidOut (by kernel_rfl) (of_decide_eq_true (by kernel_rfl)) k0 bel lt0) trodAll_mk0), rfl, bel.frame _, fun h => by cases h⟩

theorem row : Rows.UtfBackSaid :=
  OpenClaim.holds_of_wide 8 Tryd.f8 rfl rfl rfl rfl rfl rfl rfl ⟨rfl, rfl, rfl, rfl, rfl⟩ rfl rfl rfl rfl rfl (by kernel_rfl) Tryd.func8 (by kernel_rfl)
    (of_decide_eq_true (by kernel_rfl)) (by unfold Func.isWrapper; first | (rw [if_pos (by decide +kernel)]; kernel_rfl) | (rw [if_neg (by decide +kernel)]; exact ⟨rfl, rfl⟩))
    (fun os started H enc _ => lifted os started H enc)

theorem card : Rows.UtfBackCardSaid :=
  Claim7.holds_tied_plain_at .later [] [.data] true (true, Rows.utfBackCard.stood.harness.2) false
    row (fun _ h => by cases h) (by kernel_rfl) (fun _ h => by cases h) utfBack_row_tie rfl ⟨rfl, rfl⟩ (by kernel_rfl) rfl
    (fun f fn hf hfn => by
      obtain rfl : f = 8 := Option.some.inj ((show Tryd.prog.funcNamed "oriel/oriellaw10.UtfBack" = some 8 by kernel_rfl).symm.trans hf) |>.symm
      obtain rfl : fn = Tryd.f8 := (Option.some.inj (Tryd.func8.symm.trans hfn)).symm
      exact ⟨by kernel_rfl, fun j t ht => by
        rw [Tryd.params8] at ht
        have hm : t ∈ [27] := by simpa using Array.mem_of_getElem? ht
        have hall : ([27].all fun u => !Tryd.prog.wantsStandIn u) = true := by kernel_rfl
        exact (show Tryd.prog.wantsStandIn t = false by simpa using List.all_eq_true.1 hall t hm)⟩)
    (by kernel_rfl)


end UtfBackProof

/-- The forms of code points, one behind the other, are told as these. -/
theorem utfBack_holds : Rows.UtfBackCardSaid := UtfBackProof.card
#print axioms utfBack_holds
end Go.Proofs.YtijjifdgmffenaaDoor
