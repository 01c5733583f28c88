/-
  CtrStreams: whatever the key, the nonce, the place and the length, the program's bytes of a stream are the document's, none where there are none, and the known rows come out: the law returns true. No condition.
-/
import Derived.Test.YtflakgigekfgcaaEO
import Derived.Test.YtflakgigekfgcaaCI
import Derived.Test.YtflakgigekfgcaaCH
namespace Go.Proofs.Ytflakgigekfgcaa
namespace CtrStreamsProof
open Go.ChangeShapes Go.WideShapes Go.ChangeAt Go.WideMaps Go.WideElems Go.RowKit
set_option linter.unusedVariables false
set_option linter.unusedSimpArgs false

theorem tr_zero (B : Nat → List Nat) (f m : Nat) : trF B f (List.replicate m 0) = stF B f m := by
  rw [trF, stF, List.length_replicate]
  apply List.map_congr_left
  intro j hj
  have e : (List.replicate m 0).getD j 0 = 0 := by simp [List.getD, List.getElem?_replicate]; split <;> rfl
  rw [e, Nat.zero_xor]

def Far (f n : Int) : Bool := decide ((2000 : Int) < n ∧ n ≤ 1048576 ∧ 0 ≤ f ∧ f ≤ 1048576 - n)
def Out (f n : Int) : Bool := decide (f < 0 ∨ n < 0 ∨ 1048576 < f ∨ 1048576 - f < n)

theorem made_own {w : World} {B : Nat} {v : Value} {m : Nat} (h : w.ownsRow B 5 1 v m (madeCells (Value.cells (.int .u8 0)) (m * 1)).toList) : w.ownsRow B 5 1 v m (u8s (List.replicate m 0)) := by
  rw [Nat.mul_one, show Value.cells (.int .u8 0) = #[.int .u8 0] from rfl, made_u8] at h
  exact h

set_option maxHeartbeats 8000000 in
set_option maxRecDepth 100000 in
theorem walk_in (key T : List Nat) (nn m : Nat) (f n : Int) (w : World) (hk : Blk key) (hf1 : -9223372036854775808 ≤ f) (hf2 : f ≤ 9223372036854775807) (hn1 : -9223372036854775808 ≤ n) (hn2 : n ≤ 9223372036854775807)
    (hm : Far f n = false → Out f n = false → n = (m : Int) ∧ m ≤ 2000) (hTl : T.length = m) (hTb : BytesN T)
    (h0 : ∀ v, Far f n = false → Out f n = true → Calls Try.prog 10 #[.agg (u8s key).toArray, .int .u64 (nn : Int), .int .i64 f, .int .i64 n] v fun r w' => r = .returned (.slice none 0 0) ∧ Below v.heap.size v w')
    (h1 : ∀ v, Far f n = false → Out f n = false → Calls Try.prog 10 #[.agg (u8s key).toArray, .int .u64 (nn : Int), .int .i64 f, .int .i64 (m : Int)] v fun r w' => ∃ u, r = .returned u ∧ w'.ownsRow v.heap.size 5 1 u m (u8s T) ∧ Below v.heap.size v w')
    (h2 : ∀ (p : Option Addr) (c : Nat) (v : World), Far f n = false → Out f n = false → Piece v p c (List.replicate m 0) → Calls Try.prog 11 #[.agg (u8s key).toArray, .int .u64 (nn : Int), .int .i64 f, .slice p m c] v fun r w' => ∃ u, r = .returned u ∧ w'.ownsRow v.heap.size 5 1 u m (u8s T) ∧ Below v.heap.size v w') :
    Calls Try.prog 3 #[.agg (u8s key).toArray, .int .u64 (nn : Int), .int .i64 f, .int .i64 n] w fun e w' => e = .returned (.bool true) ∧ Below w.heap.size w w' := by
  obtain ⟨i0, hi, hz0, hz1, hz2⟩ := info_parts infoU8
  have H0 := hide h0
  have H1 := hide h1
  have H2 := hide h2
  have HM := hide hm
  have HTL := hide hTl
  have HTB := hide hTb
  have IK := hide (szb hk)
  have IKl := hide (szl hk)
  have A0 : Hid (Arr (w.alloc (Obj.cells (u8s key).toArray 22)) w.heap.size 22 (u8s key) ∧ Below w.heap.size w (w.alloc (Obj.cells (u8s key).toArray 22))) := ⟨Arr.new w _ _, (Below.refl _ _).alloc (Nat.le_refl _) _⟩
  clear hk hm hTl hTb h0 h1 h2
  go_enter Try.func3, Try.ntmps3
  go_wp2_with fail
  generalize w.alloc (Obj.cells (u8s key).toArray 22) = w1 at *
  refine (known_any w1).mono ?_
  rintro e w2 ⟨rfl, hb⟩
  have A2 : Hid (Arr w2 w.heap.size 22 (u8s key) ∧ Below w.heap.size w w2) := ⟨A0.out.1.kept hb, A0.out.2.trans (hb.mono A0.out.2.size)⟩
  clear hb A0
  go_upto_region 3 with fail
  go_cut [27] (fun s27 wc => s27 = .bool (Far f n) ∧ wc = w2)
  case first =>
    clear H0 H1 H2 HM A2
    by_cases h1 : (2000 : Int) < n
    · have d1 : decide ((2000 : Int) < n) = true := decide_eq_true h1
      by_cases h2 : n ≤ 1048576
      · have d2 : decide (n ≤ (1048576 : Int)) = true := decide_eq_true h2
        by_cases h3 : (0 : Int) ≤ f
        · have d3 : decide ((0 : Int) ≤ f) = true := decide_eq_true h3
          have e : Far f n = decide (f ≤ 1048576 - n) := by simp [Far, h1, h2, h3]
          go_wp2
          go_meet
          case rel => exact ⟨by rw [e], rfl⟩
        · have d3 : decide ((0 : Int) ≤ f) = false := decide_eq_false h3
          have e : Far f n = false := by simp [Far, h1, h2, h3]
          go_wp2
          go_meet
          case rel => exact ⟨by rw [e], rfl⟩
      · have d2 : decide (n ≤ (1048576 : Int)) = false := decide_eq_false h2
        have e : Far f n = false := by simp [Far, h1, h2]
        go_wp2
        go_meet
        case rel => exact ⟨by rw [e], rfl⟩
    · have d1 : decide ((2000 : Int) < n) = false := decide_eq_false h1
      have e : Far f n = false := by simp [Far, h1]
      go_wp2
      go_meet
      case rel => exact ⟨by rw [e], rfl⟩
  case rest =>
    obtain ⟨rfl, rfl⟩ := hcut
    cases hF : Far f n
    · cases hO : Out f n
      · obtain ⟨hnm, hm2⟩ := HM.out hF hO
        subst hnm
        go_wp2_with (refine wpList_load_row rfl 22 _ rfl w.heap.size rfl 22 _ (0, 0) _ A2.out.1 Try.underlying22 rfl IK.out ?_)
        refine (H1.out wc hF hO).mono ?_
        rintro r w3 ⟨u, rfl, ho, hb⟩
        obtain ⟨p3, c3, rfl, hP3, _⟩ := own_piece_n ho HTL.out HTB.out
        have A3 : Hid (Arr w3 w.heap.size 22 (u8s key) ∧ Below w.heap.size w w3 ∧ Piece w3 p3 c3 T) := ⟨A2.out.1.kept hb, A2.out.2.trans (hb.mono A2.out.2.size), hP3⟩
        have CL := hide (fun (p : Option Addr) (c : Nat) (v : World) (hp : Piece v p c (List.replicate m 0)) => H2.out p c v hF hO hp)
        clear ho hb hP3 A2 H0 H1
        go_upto_region 6 with fail
        go_cut [48] (fun s48 wc => s48 = .bool (Out f (m : Int)) ∧ wc = w3)
        case first =>
          clear H2 HM CL
          by_cases h1 : f < 0
          · have d1 : decide (f < 0) = true := decide_eq_true h1
            have e : Out f (m : Int) = true := by simp [Out, h1]
            clear hF hO
            go_wp2
            go_meet
            case rel => exact ⟨by rw [e], rfl⟩
          · have d1 : decide (f < 0) = false := decide_eq_false h1
            by_cases h2 : (m : Int) < 0
            · have d2 : decide ((m : Int) < 0) = true := decide_eq_true h2
              have e : Out f (m : Int) = true := by simp [Out, h1, h2]
              clear hF hO
              go_wp2
              go_meet
              case rel => exact ⟨by rw [e], rfl⟩
            · have d2 : decide ((m : Int) < 0) = false := decide_eq_false h2
              by_cases h3 : 1048576 < f
              · have d3 : decide (1048576 < f) = true := decide_eq_true h3
                have e : Out f (m : Int) = true := by simp [Out, h1, h2, h3]
                clear hF hO
                go_wp2
                go_meet
                case rel => exact ⟨by rw [e], rfl⟩
              · have d3 : decide (1048576 < f) = false := decide_eq_false h3
                have e : Out f (m : Int) = decide (1048576 - f < (m : Int)) := by unfold Out; exact decide_eq_decide.2 ⟨fun h => by omega, fun h => by omega⟩
                clear hF hO
                go_wp2
                go_meet
                case rel => exact ⟨by rw [e], rfl⟩
        case rest =>
          obtain ⟨rfl, rfl⟩ := hcut
          rw [hO]
          have Lk : Hid (∀ v : World, Hid (Below wc.heap.size wc v) → Arr v w.heap.size 22 (u8s key)) := fun v h => A3.out.1.kept h.out
          have C3 : Hid (∀ v : World, Hid (Below wc.heap.size wc v) → (convert 25 9 (.slice p3 m c3)).run Try.prog v = .ok (.string (strF T)) v) := fun v h => conv_any (A3.out.2.2.kept h.out).1 m HTL.out
          have AB := hide A3.out.2.1
          clear A3 HM H2 hF hO
          go_upto_region 8 with fail
          refine wp_region_held_drew (S := fun v => Hid (Below wc.heap.size wc v)) (by kernel_rfl) (hide (Below.refl wc.heap.size wc).drew) (fun hHeld => ?_)
          refine take_dstH (i := 0) (d := 52) (v := ?_) rfl rfl (by kernel_rfl) (by kernel_rfl) (by kernel_rfl) (fun _ _ _ h => h) (by rfl) hHeld ?_ ?_
          rotate_left
          · intro wZ hSw; clear hSw; go_simp; first | (with_reducible rfl) | (rw [if_pos (by omega)]; with_reducible rfl) | skip
          try simp only [Act.put, List.setIfInBounds_toArray, List.set_cons_zero, List.set_cons_succ]
          refine take_dstH (i := 1) (d := 53) (v := ?_) rfl rfl (by kernel_rfl) (by kernel_rfl) (by kernel_rfl) (fun _ _ _ h => h) (by rfl) hHeld ?_ ?_
          rotate_left
          · intro wZ hSw; have hfS := C3.out wZ hSw; clear hSw; go_simp; first | (with_reducible rfl) | (rw [if_pos (by omega)]; with_reducible rfl) | skip
          try simp only [Act.put, List.setIfInBounds_toArray, List.set_cons_zero, List.set_cons_succ]
          refine take_dstH (i := 2) (d := 54) (v := ?_) rfl rfl (by kernel_rfl) (by kernel_rfl) (by kernel_rfl) (fun _ _ _ h => h) (by rfl) hHeld ?_ ?_
          rotate_left
          · intro wZ hSw; refine exec_load_all 22 (.tmp 4) ?_ w.heap.size ?_ 22 (u8s key) _ (Lk.out wZ hSw) Try.underlying22 rfl IKl.out <;> rfl
          try simp only [Act.put, List.setIfInBounds_toArray, List.set_cons_zero, List.set_cons_succ]
          refine take_dstH (i := 3) (d := 55) (v := ?_) rfl rfl (by kernel_rfl) (by kernel_rfl) (by kernel_rfl) (fun _ _ _ h => h) (by rfl) hHeld ?_ ?_
          rotate_left
          · intro wZ hSw; clear hSw; go_simp; first | (with_reducible rfl) | (rw [if_pos (by omega)]; with_reducible rfl) | skip
          try simp only [Act.put, List.setIfInBounds_toArray, List.set_cons_zero, List.set_cons_succ]
          refine take_dstH (i := 4) (d := 56) (v := ?_) rfl rfl (by kernel_rfl) (by kernel_rfl) (by kernel_rfl) (fun _ _ _ h => h) (by rfl) hHeld ?_ ?_
          rotate_left
          · intro wZ hSw; clear hSw; go_simp; first | (with_reducible rfl) | (rw [if_pos (by omega)]; with_reducible rfl) | skip
          try simp only [Act.put, List.setIfInBounds_toArray, List.set_cons_zero, List.set_cons_succ]
          refine take_dstH (i := 5) (d := 57) (v := ?_) rfl rfl (by kernel_rfl) (by kernel_rfl) (by kernel_rfl) (fun _ _ _ h => h) (by rfl) hHeld ?_ ?_
          rotate_left
          · intro wZ hSw; clear hSw; go_simp; first | (with_reducible rfl) | (rw [if_pos (by omega)]; with_reducible rfl) | skip
          try simp only [Act.put, List.setIfInBounds_toArray, List.set_cons_zero, List.set_cons_succ]
          refine wpAnyH_ready (rs := [6]) (by kernel_rfl) (by simp) ?_
          refine (AllReadyH.cons rfl (fun K hK => ?_) AllReadyH.nil)
          refine wp_make_full _ rfl (.tmp 57) (.tmp 57) 25 rfl w.heap.size 5 i0 (.int .u8 0) 1 Try.underlying25 hi hz0 hz1 .i64 .i64 _ _ m rfl rfl rfl rfl (by rw [hz2]; omega) (by unfold maxLen; omega) (AB.out.trans ((Hid.out hHeld).mono AB.out.size)).size ?_; intro w5 ho5 hg5; have HBd : Hid (Below wc.heap.size wc w5) := (Hid.out hHeld).grown hg5 (Hid.out hHeld).size (fun k e => by cases e); have ho6 : w5.ownsRow w.heap.size 5 1 (.slice (some ⟨_, 0, none⟩) m m) m (u8s (List.replicate m 0)) := made_own ho5; obtain ⟨p5, c5, hv5, hP5, _⟩ := own_piece_n ho6 (by simp) (fun x hx => by rw [List.eq_of_mem_replicate hx]; omega); have HP5 := hide hP5; rw [hv5]; clear ho5 hg5 ho6 hP5 hv5
          refine hK.out _ _ ?_ (fun hHeld => ?_)
          · exact HBd
          clear hK K
          try simp only [Act.put, List.setIfInBounds_toArray, List.set_cons_zero, List.set_cons_succ]
          refine wpAnyH_ready (rs := [7]) (by kernel_rfl) (by simp) ?_
          refine (AllReadyH.cons rfl (fun K hK => ?_) AllReadyH.nil)
          go_simp
          refine (CL.out _ _ _ HP5.out).mono ?_; rintro r w6 ⟨u, rfl, ho, hb⟩; obtain ⟨p6, c6, rfl, hP6, _⟩ := own_piece_n ho HTL.out HTB.out; have HBe : Hid (Below wc.heap.size wc w6) := (Hid.out hHeld).trans (hb.mono (Hid.out hHeld).size); have cv6 := conv_any hP6.1 (c := c6) m HTL.out; clear ho hb
          go_wp2_with fail
          refine hK.out _ _ ?_ (fun hHeld => ?_)
          · exact HBe
          clear hK K
          try simp only [Act.put, List.setIfInBounds_toArray, List.set_cons_zero, List.set_cons_succ]
          refine wpAnyH_ready (rs := [8]) (by kernel_rfl) (by simp) ?_
          refine (AllReadyH.cons rfl (fun K hK => ?_) AllReadyH.nil)
          go_simp
          refine hK.out _ _ ?_ (fun hHeld => ?_)
          · exact hHeld
          clear hK K
          try simp only [Act.put, List.setIfInBounds_toArray, List.set_cons_zero, List.set_cons_succ]
          refine take_dstH (i := 9) (d := 61) (v := ?_) rfl rfl (by kernel_rfl) (by kernel_rfl) (by kernel_rfl) (fun _ _ _ h => h) (by rfl) hHeld ?_ ?_
          rotate_left
          · intro wZ hSw; clear hSw; go_simp; first | (with_reducible rfl) | (rw [if_pos (by omega)]; with_reducible rfl) | skip
          try simp only [Act.put, List.setIfInBounds_toArray, List.set_cons_zero, List.set_cons_succ]
          refine take_dstH (i := 10) (d := 8) (v := ?_) rfl rfl (by kernel_rfl) (by kernel_rfl) (by kernel_rfl) (fun _ _ _ h => h) (by rfl) hHeld ?_ ?_
          rotate_left
          · intro wZ hSw; clear hSw; go_simp; first | (with_reducible rfl) | (rw [if_pos (by omega)]; with_reducible rfl) | skip
          try simp only [Act.put, List.setIfInBounds_toArray, List.set_cons_zero, List.set_cons_succ]
          refine wpAnyH_done (by kernel_rfl) ?_ _
          all_goals
            go_wp2
            go_ret
            exact ⟨rfl, AB.out.trans ((Hid.out hHeld).mono AB.out.size)⟩
      · go_wp2_with (refine wpList_load_row rfl 22 _ rfl w.heap.size rfl 22 _ (0, 0) _ A2.out.1 Try.underlying22 rfl IK.out ?_)
        refine (H0.out wc hF hO).mono ?_
        rintro r w3 ⟨rfl, hb⟩
        have A3 := hide (A2.out.2.trans (hb.mono A2.out.2.size))
        have CL := hide True.intro
        clear hb A2
        go_upto_region 6 with fail
        go_cut [48] (fun s48 wc => s48 = .bool (Out f n) ∧ wc = w3)
        case first =>
          clear H0 H1 H2 HM CL
          by_cases h1 : f < 0
          · have d1 : decide (f < 0) = true := decide_eq_true h1
            have e : Out f n = true := by simp [Out, h1]
            clear hF hO
            go_wp2
            go_meet
            case rel => exact ⟨by rw [e], rfl⟩
          · have d1 : decide (f < 0) = false := decide_eq_false h1
            by_cases h2 : n < 0
            · have d2 : decide (n < 0) = true := decide_eq_true h2
              have e : Out f n = true := by simp [Out, h1, h2]
              clear hF hO
              go_wp2
              go_meet
              case rel => exact ⟨by rw [e], rfl⟩
            · have d2 : decide (n < 0) = false := decide_eq_false h2
              by_cases h3 : 1048576 < f
              · have d3 : decide (1048576 < f) = true := decide_eq_true h3
                have e : Out f n = true := by simp [Out, h1, h2, h3]
                clear hF hO
                go_wp2
                go_meet
                case rel => exact ⟨by rw [e], rfl⟩
              · have d3 : decide (1048576 < f) = false := decide_eq_false h3
                have e : Out f n = decide (1048576 - f < n) := by unfold Out; exact decide_eq_decide.2 ⟨fun h => by omega, fun h => by omega⟩
                clear hF hO
                go_wp2
                go_meet
                case rel => exact ⟨by rw [e], rfl⟩
        case rest =>
          obtain ⟨rfl, rfl⟩ := hcut
          rw [hO]
          go_wp2
          go_ret
          exact ⟨rfl, A3.out⟩
    · go_wp2
      go_ret
      exact ⟨rfl, A2.out.2⟩

theorem walk (key : List Nat) (a f n : Int) (w : World) (hk : Blk key) (ha : (Lit.int .u64 a).wf = true) (hf : (Lit.int .i64 f).wf = true) (hn : (Lit.int .i64 n).wf = true) :
    Calls Try.prog 3 #[.agg (u8s key).toArray, .int .u64 a, .int .i64 f, .int .i64 n] w fun e w' => e = .returned (.bool true) ∧ Below w.heap.size w w' := by
  obtain ⟨nn, rfl, hnn⟩ := wf_u64 ha
  have bf := bounds_i64 hf
  have bn := bounds_i64 hn
  have hff : Far f n = false → Out f n = false → f = (f.toNat : Int) ∧ n = (n.toNat : Int) ∧ f.toNat + n.toNat ≤ 1048576 ∧ n.toNat ≤ 2000 := fun h1 h2 => by
    have h1' := of_decide_eq_false h1
    have h2' := of_decide_eq_false h2
    omega
  refine walk_in key (stF (hbF key nn) f.toNat n.toNat) nn n.toNat f n w hk (by omega) (by omega) (by omega) (by omega) (fun h1 h2 => ⟨(hff h1 h2).2.1, (hff h1 h2).2.2.2⟩) (stF_length _ _ _) (stF_bytes (fun i => hbF_blk hk nn i) _ _) ?_ ?_ ?_
  · intro v h1 h2
    have h2' := of_decide_eq_true h2
    exact strm_none _ key nn f n v rfl (by omega) (by omega) (by omega)
  · intro v h1 h2
    obtain ⟨e1, e2, e3, e4⟩ := hff h1 h2
    have := strm_any key nn f.toNat n.toNat v hk hnn e3
    rw [← e1] at this
    exact this
  · intro p c v h1 h2 hp
    obtain ⟨e1, e2, e3, e4⟩ := hff h1 h2
    have := rturn_any key nn f.toNat n.toNat p c (List.replicate n.toNat 0) v hk hp (by simp) (by omega) (by omega)
    rw [← e1, tr_zero] at this
    exact this

theorem own : ownKnob Try.prog.godebug = none := by kernel_rfl
theorem laidOut : laidOutB Try.prog = true := by kernel_rfl
set_option maxRecDepth 100000 in
theorem lifted (os : Os) (started : os.Started) (H : Type) (enc : TypeId × Value → H) :
    ReturnsInHanded {} Try.checked os 3 .any (Rows.ctrStreamsSpec.pre6 enc Try.prog Try.f3 Rows.ctrStreamsRow.domain false) (Rows.ctrStreamsSpec.post enc Try.prog Try.f3 false true false false) := by
  refine returnsInHanded_of_change (C := Try.checked) own started (by kernel_rfl) Try.func3
    (ChangeSpec.witness6 (enc := enc) (C := Try.checked) false ⟨#[], #[.agg (u8s z16).toArray, .int .u64 0, .int .i64 0, .int .i64 0], []⟩ 8 (by kernel_rfl) (by kernel_rfl) (by kernel_rfl) (by kernel_rfl)) ?_
  intro W base args ds gs before hval0 hW hcnd _
  have hval : ∀ (j : Nat) t v, Try.f3.params[j]? = some t → args[j]? = some v → Value.okWide Try.prog W .any base t v := hval0
  have hW' := hW
  obtain ⟨p, q, hA0, hV, rfl, hfz, hnd⟩ := hW
  have hA : DataW.TrodAll enc Try.prog W 0 (fun _ => true) true Try.f3.params.toList args.toList ds p := hA0
  rw [Try.params3] at hA hval
  obtain ⟨v0, vs0, d0, ds0, p0, q0, hargs, rfl, rfl, h0, r0⟩ := trodAll_cons hA
  obtain ⟨v1, vs1, d1, ds1, p1, q1, rfl, rfl, rfl, h1, r1⟩ := trodAll_cons r0
  obtain ⟨v2, vs2, d2, ds2, p2, q2, rfl, rfl, rfl, h2, r2⟩ := trodAll_cons r1
  obtain ⟨v3, vs3, d3, ds3, p3, q3, rfl, rfl, rfl, h3, r3⟩ := trodAll_cons r2
  obtain ⟨rfl, rfl, rfl⟩ := trodAll_nil r3
  obtain rfl : args = #[v0, v1, v2, v3] := by cases args; simp_all
  obtain ⟨rfl, rfl⟩ := trodVars_none hV
  have k0 := h0
  obtain ⟨x0, rfl, w0, z0⟩ := open_blk (hval 0 22 v0 rfl rfl) h0
  obtain ⟨a1, rfl, rfl, rfl, w1⟩ := open_int Try.underlying23 (hval 1 23 v1 rfl rfl) h1
  obtain ⟨a2, rfl, rfl, rfl, w2⟩ := open_int Try.underlying3 (hval 2 3 v2 rfl rfl) h2
  obtain ⟨a3, rfl, rfl, rfl, w3⟩ := open_int Try.underlying3 (hval 3 3 v3 rfl rfl) h3
  clear hA0 hval0
  refine (walk x0 a1 a2 a3 W w0 w1 w2 w3).mono fun e W' ⟨he, bel⟩ => ?_
  subst he
  exact ⟨_, rfl, _, _, _, [], _, [], hW', trodAll_mk1 (shut_bool Try.underlying4 _), (trodAll_cons_mk (Below.trod laidOut (by kernel_rfl) (of_decide_eq_true (by kernel_rfl)) k0 bel (fun x hx => (z0 x hx).elim)) (trodAll_cons_mk (shut_int Try.underlying23 w1) (trodAll_cons_mk (shut_int Try.underlying3 w2) (trodAll_cons_mk (shut_int Try.underlying3 w3) trodAll_mk0)))), rfl, bel.frame _, fun h => by cases h⟩

theorem over : Rows.ctrStreamsRow.holds Try.pinned (OpenSpec.ofChange Rows.ctrStreamsSpec) :=
  OpenClaim.holds_of_wide 3 Try.f3 rfl rfl rfl rfl rfl rfl rfl ⟨rfl, rfl, rfl, rfl, rfl⟩ rfl rfl rfl rfl rfl (by kernel_rfl) Try.func3 (by kernel_rfl)
    (of_decide_eq_true (by kernel_rfl)) (by unfold Func.isWrapper; first | (rw [if_pos (by decide +kernel)]; kernel_rfl) | (rw [if_neg (by decide +kernel)]; exact ⟨rfl, rfl⟩))
    (fun os started H enc _ => lifted os started H enc)

end CtrStreamsProof

/-- Any bytes of any stream are the document's; what is beyond is none. -/
theorem ctrStreams_holds : Rows.CtrStreamsSaid := CtrStreamsProof.over

#print axioms ctrStreams_holds
end Go.Proofs.Ytflakgigekfgcaa
