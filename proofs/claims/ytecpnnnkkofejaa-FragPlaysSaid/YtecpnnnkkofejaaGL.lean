/-
  Walks of the program: the text; a map copied.
-/
import Derived.Test.YtecpnnnkkofejaaGJ
namespace Go.Proofs.Ytecpnnnkkofejaa
open Go.RowKit Go.Maps

/-- the bytes of so many places -/
def whP (ks : List Pk) : Nat → List Nat
  | 0 => []
  | k + 1 => whP ks k ++ (atX ks (k : Int)).b
theorem whP_le (ks : List Pk) {k m : Nat} (h : k ≤ m) : (whP ks k).length ≤ (whP ks m).length := by
  induction h with
  | refl => exact Nat.le_refl _
  | step _ ih => simp only [whP, List.length_append]; omega
theorem sumB_mem {ks : List Pk} {k : Pk} (h : k ∈ ks) : k.x.b.length ≤ sumB ks := by
  induction ks with
  | nil => cases h
  | cons y l ih =>
    rcases List.mem_cons.1 h with rfl | h
    · simp [sumB]
    · have := ih h
      simp [sumB]
      omega
theorem whP_bound (ks : List Pk) : ∀ m, (whP ks m).length ≤ m * sumB ks
  | 0 => by simp [whP]
  | m + 1 => by
    have h1 := whP_bound ks m
    have h2 : (atX ks (m : Int)).b.length ≤ sumB ks := by
      unfold atX
      cases hf : findP ks (m : Int) with
      | none => simp [Pc.none]
      | some k => exact sumB_mem (findP_mem hf).1
    rw [whP, List.length_append, Nat.add_mul]
    omega
theorem ep_at {w : World} {ks : List Pk} (h : ∀ k ∈ ks, EP w k) (a : Int) : BI w (atP ks a) (atX ks a).b ∧ (atP ks a = none → atC ks a = 0) ∧ BytesN (atX ks a).b := by
  unfold atP atX atC
  cases hf : findP ks a with
  | none => exact ⟨Or.inl rfl, fun _ => rfl, fun x hx => by cases hx⟩
  | some k =>
    have h1 := h k (findP_mem hf).1
    exact ⟨h1.1.1.1, h1.2, h1.1.1.2⟩
theorem whP_bytes {w : World} {ks : List Pk} (h : ∀ k ∈ ks, EP w k) : ∀ m, BytesN (whP ks m)
  | 0 => fun x hx => by cases hx
  | m + 1 => bytes_append (whP_bytes h m) (ep_at h m).2.2

set_option maxHeartbeats 4000000 in
set_option maxRecDepth 100000 in
/-- the text -/
theorem text_any (w : World) (g i M S L : Nat) (done : Bool) (q : Option Nat) (ks : List Pk) (h : PJ w g i done (M : Int) q ks) (hM : M ≤ 256) (hS : S ≤ 1000000) (hL : (whP ks M).length = L) (hL2 : L ≤ 100000000) :
    Calls Try.prog 38 #[.pointer (some ⟨g, 0, none⟩), .int .i64 (S : Int)] w fun e w' => ∃ v, e = .returned v ∧ w'.ownsRow w.heap.size 5 1 v L (u8s (whP ks M)) ∧ Below w.heap.size w w' := by
  obtain ⟨i0, hi, hz0, hz1, hz2⟩ := info_parts infoU8
  have H := hide h
  have HL := hide hL
  clear h hL
  go_enter Try.func38, Try.ntmps38
  go_wp2_with (at_make; refine wpList_make_own _ rfl _ _ 23 rfl w.heap.size 5 i0 (.int .u8 0) 1 Try.underlying23 hi hz0 hz1 .i64 .i64 (S : Int) S rfl rfl rfl (by rw [hz2]; omega) (by unfold maxLen; omega) (Nat.le_refl _) ?_)
  intro w1 ho hg
  have O1 := hide ho
  have B1 : Hid (Below w.heap.size w w1) := grown_below hg (Nat.le_refl _) (fun k hk => by cases hk)
  clear ho hg
  have c2 := (H.out.j.kept B1.out).cell 2
  simp only [List.getElem?_cons_zero, List.getElem?_cons_succ] at c2
  go_wp2_with fail
  go_loopg [5, 13] (M + 1) (fun f s5 s13 wr => ∃ (k l : Nat), s13 = .int .i64 (k : Int) ∧ k ≤ M ∧ M - k < f ∧ Hid ((whP ks k).length = l) ∧ Hid (wr.ownsRow w.heap.size 5 1 s5 l (u8s (whP ks k))) ∧ Hid (Below w.heap.size w wr))
  case atStart => exact ⟨0, 0, rfl, by omega, by omega, rfl, O1.out, B1.out⟩
  case round =>
    obtain ⟨k, l, rfl, hk, hf, HLL, HO, HB⟩ := hrel
    by_cases hkM : k < M
    · have c3 := (H.out.j.kept HB.out).cell 3
      simp only [List.getElem?_cons_zero, List.getElem?_cons_succ] at c3
      have lk := (pj_look (H.out.kept HB.out) (k : Int) (wf_place (by omega) (by omega))).2
      have HE := hide (ep_at (H.out.kept HB.out).e (k : Int))
      have HX : Hid ((whP ks (k + 1)) = whP ks k ++ (atX ks (k : Int)).b) := rfl
      generalize atP ks (k : Int) = ep at *
      generalize atC ks (k : Int) = ec at *
      generalize (atX ks (k : Int)).b = eb at *
      have HEL : Hid (eb.length = eb.length) := rfl
      generalize hel : eb.length = el at *
      have HN : Hid ((whP ks (k + 1)).length = l + el) := by show _ = _; rw [HX.out, List.length_append, HLL.out, hel]
      have hle : l + el ≤ 100000000 := by
        have h1 := HN.out
        have h2 := whP_le ks (show k + 1 ≤ M by omega)
        rw [HL.out] at h2
        omega
      clear hel HEL
      have HEL : Hid (eb.length = el) := by
        have h1 := HN.out
        rw [HX.out, List.length_append, HLL.out] at h1
        show _ = _
        omega
      go_wp2_with (first | (at_builtin; refine wpList_append_bytes rfl (.tmp 16) (.tmp 22) rfl w.heap.size _ (whP ks k) rfl l HLL.out HO.out ep el ec eb HEL.out rfl HE.out.1 HE.out.2.1 (by omega) HB.out.size ?_))
      intro v' w' ho hg
      have O2 := hide ho
      have B2 := hide (HB.out.grown hg HB.out.size (fun j hj => (HO.out.lt j hj).1))
      clear ho hg lk HE
      go_wp2_with fail
      go_roundg (M - k)
      case measure => omega
      case rel => exact ⟨k + 1, l + el, by simp, by omega, by omega, HN, by rw [HX.out]; exact O2.out, B2⟩
    · have e : k = M := by omega
      subst e
      have HE : Hid (l = L) := HLL.out.symm.trans HL.out
      go_wp2
      go_ret
      exact ⟨_, rfl, by rw [← HE.out]; exact HO.out, HB.out⟩

set_option maxHeartbeats 4000000 in
set_option maxRecDepth 100000 in
/-- a map copied onto one that is empty -/
theorem mcopy_any (w : World) (b n : Nat) (q : Option Nat) (ks : List Pk) (hd : Mp w b 0 (mapOf [])) (hs : Held w q ks) (hne : q ≠ some b) (hD : Dist ks) (hn : ks.length = n) (hn2 : n ≤ 100000) :
    Calls Try.prog 46 #[.map (some b), .map q] w fun e w' => e = .returned (.tuple #[]) ∧ Mp w' b n (mapOf ks) ∧ w.grownBy w' (some b) := by
  have HN := hide hn
  have HC := hide (canon_mapOf hD)
  have HDD := hide hD
  clear hn hD
  cases q with
  | none =>
    have e : ks = [] := hs
    subst e
    obtain rfl : n = 0 := HN.out.symm
    have HM := hide hd
    clear hd hs hne HC HDD
    have hrg := run_range_nilMap (P := Try.prog) w 53 3 23 Try.underlying53
    have hnx : ∀ ty, (Instr.next (.pointer (some ⟨w.heap.size, 0, none⟩)) false ty).run Try.prog (w.alloc (.mapIter none 0 #[] 0)) = _ := fun ty => run_next_nilMap w ty 0 0 #[]
    go_enter Try.func46, Try.ntmps46
    go_wp2
    refine wp_loop_rounds 1 ?_
    rw [rounds_succ]
    go_wp2
    go_end0
    exact ⟨rfl, HM.out.alloc _, World.grownBy_alloc _ _ _⟩
  | some s =>
    obtain ⟨D, hDe⟩ : ∃ D, mapOf ks = D := ⟨_, rfl⟩
    have HM : Hid (Mp w s n D) := by
      have h1 : Mp w s ks.length (mapOf ks) := hs
      rw [hDe, HN.out] at h1
      exact h1
    have HZ : Hid (Maps.size D = n) := by show _ = _; rw [← hDe, size_mapOf, HN.out]
    rw [hDe] at HC ⊢
    have HB := hide hd
    have hsb : s ≠ b := fun e => hne (by rw [e])
    have HLT := hide (And.intro hd.lt HM.out.lt)
    clear hs hne hd hDe HDD HN
    go_enter Try.func46, Try.ntmps46
    go_wp2_with (first | (at_range; refine wpList_range_own _ rfl _ 53 rfl 3 23 mpKeyed Try.underlying53 _ s n D rfl HM.out ?_; intro w0 hrg0 hg0 hs0) | go_in)
    have R0 := hide hrg0
    have G0 : Hid (w.grownBy w0 (some b)) := hg0.but _
    have M0 : Hid (Mp w0 b 0 (mapOf [])) := HB.out.kept hg0 (by simp)
    rw [mapOf_nil] at M0
    clear hrg0 hg0 hs0
    go_frame
    go_loopg [4] (Maps.size D + 1) (fun f _ wr => ∃ (left : Lit → Bool) (cnt k : Nat) (E : DataW Value), cnt < f ∧ k + cnt ≤ n ∧ Hid (Rg wr s w.heap.size n D left cnt) ∧ Hid (Mp wr b k E) ∧ Hid (Agree E D left) ∧ Hid (w.grownBy wr (some b)))
    case atStart => exact ⟨_, _, 0, _, Nat.lt_succ_self _, by rw [HZ.out]; omega, R0, M0, hide (agree_start D), G0⟩
    case round =>
      obtain ⟨left, cnt, k, E, hf, hkn, HR, HE, HA, HG⟩ := hrel
      go_wp2_with (first | (at_next; refine wpList_next_mp rfl _ rfl s w.heap.size n D left cnt rfl HR.out ?_ ?_) | go_in)
      · intro _ hl0
        have HF : Hid (E = D) := agree_end HA.out hl0 (HE.out.canon mpKeyed) HC.out
        clear hl0
        go_wp2
        go_end0
        exact ⟨rfl, by rw [← HF.out]; exact HE.out.mono (by omega), HG.out⟩
      · intro x p l c w1 cnt1 hwx hlx hat hrg1 hlt hg1 hs1 hen
        have R1 := hide hrg1
        have G1 : Hid (w.grownBy w1 (some b)) := HG.out.andThen hg1 (fun j hj => by cases hj; exact Or.inl (Nat.le_refl _))
        have E1 : Hid (Mp w1 b k E) := HE.out.kept hg1 (by have := HLT.out.1; simp; omega)
        have A1 := hide (agree_step (kl := .int .i64 x) HA.out HE.out.isMap trivial hat)
        have HWX := hide hwx
        clear hrg1 hg1 hs1 hlx hat hwx
        go_wp2_with (first | (at_mapUpdate; refine wpList_mapUpdate_own _ rfl _ _ _ 53 rfl 3 23 mpKeyed Try.underlying53 _ b k E rfl E1.out (by unfold maxLen; omega) _ _ _ rfl rfl (mpKey HWX.out) _ [] (selfE_mk p l c) ?_; intro w2 hown2 hgrow2) | go_in)
        have R2 : Hid (Rg w2 s w.heap.size n D (fun z => left z && !z.sameKey (Lit.int .i64 x)) cnt1) := R1.out.kept hgrow2 (by simpa using hsb) (by have := HLT.out.1; simp; omega)
        have G2 := hide (grown_trans G1.out hgrow2)
        have E2 := hide hown2
        clear hown2 hgrow2
        go_frame
        go_roundg cnt
        case measure => omega
        case rel => exact ⟨_, cnt1, k + 1, _, by omega, by omega, R2, E2, A1, G2⟩

end Go.Proofs.Ytecpnnnkkofejaa
