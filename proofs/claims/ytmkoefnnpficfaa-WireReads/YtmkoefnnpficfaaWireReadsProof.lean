/-
  Proved here: a reader tells of any bytes what the document says, call by call, and how it stands behind each; what was handed in is written over (whatever the bytes and the calls; bytes of more than 5000, or more than 200 calls, are let go).
-/
import Derived.Test.YtmkoefnnpficfaaRows
import Derived.Test.YtmkoefnnpficfaaWU
import Derived.ProofKit
import Derived.OpenShut
import Derived.ShutString
import Derived.ChangeOld
import Derived.Below
import Derived.Deep.RegionWith
import Derived.Deep.DrawnRows
import Derived.Deep.LoopGhost
import Derived.Deep.DeepCutAuto
import Derived.Deep.CutBlock
import Derived.Deep.SlicePairs
import Derived.BigQuiet
import Derived.Deep.QuietTactic
namespace Go.Proofs.Ytmkoefnnpficfaa
namespace WireReadsProof
open Go.ChangeShapes Go.WideShapes Go.ChangeAt Go.RowKit
set_option linter.unusedVariables false
set_option linter.unusedSimpArgs false
attribute [local go_sem ↓] Go.wp_at_zero Go.wp_at_succ

/-- what is asked, as it came in: two numbers each -/
def Asks (w : World) (p : Option Addr) (len cap : Nat) (K N : Nat → Int) : Prop :=
  (len = 0 ∧ len ≤ cap ∧ cap ≤ maxLen) ∨ ∃ b o, p = some ⟨b, o, none⟩ ∧ len ≤ cap ∧ cap ≤ maxLen ∧ ∀ i, i < len → w.cell? ⟨b, o + i * 2, none⟩ = some (.int .i64 (K i)) ∧ w.cell? ⟨b, o + (i * 2 + 1), none⟩ = some (.int .i64 (N i)) ∧ N i ≤ 9223372036854775807

theorem asks_of_pairs {H : Type} {enc : TypeId × Value → H} {w : World} {base : Nat} {spare : Nat → Bool} {held : Bool} {x : Addr} {len cap m n : Nat} {t : TypeId} {V0 V1 : Nat → Value} {D0 D1 : Nat → DataW H} {P0 P1 : Nat → List MemPlace} (ht : Try.prog.underlying t = some (.int .i64))
    (hl : len ≤ cap) (hm : cap ≤ maxLen) (hmm : m = cap)
    (h : ∀ i, i < m → w.cell? (x.add (i * 2)) = some (V0 i) ∧ w.cell? (x.add (i * 2 + 1)) = some (V1 i) ∧ DataW.trod enc Try.prog w base spare held n t [V0 i] = some (D0 i, P0 i) ∧ DataW.trod enc Try.prog w base spare held n t [V1 i] = some (D1 i, P1 i)) :
    ∃ K N, Asks w (some x) len cap K N := by
  subst hmm
  refine ⟨fun i => intOf (V0 i), fun i => intOf (V1 i), ?_⟩
  by_cases h0 : len = 0
  · exact Or.inl ⟨h0, hl, hm⟩
  · right
    obtain ⟨b, off, spot⟩ := x
    have hc := (h 0 (by omega)).1
    have hspot : spot = none := by simpa [Addr.add] using World.cell?_spot hc
    subst hspot
    refine ⟨b, off, rfl, hl, hm, fun i hi => ?_⟩
    obtain ⟨c0, c1, t0, t1⟩ := h i (by omega)
    rw [addr_add] at c0 c1
    obtain ⟨n0, e0, _, _⟩ := DataW.trod_int ht t0
    obtain ⟨n1, e1, _, wf1⟩ := DataW.trod_int ht t1
    simp at e0 e1
    have i0 : intOf (V0 i) = n0 := by rw [e0]; rfl
    have i1 : intOf (V1 i) = n1 := by rw [e1]; rfl
    have := bounds_i64 wf1
    show _ = some (Value.int .i64 (intOf (V0 i))) ∧ _ = some (Value.int .i64 (intOf (V1 i))) ∧ intOf (V1 i) ≤ _
    rw [i0, i1, c0, c1, e0, e1]
    exact ⟨rfl, rfl, by omega⟩

theorem okWide_lt {P : Program} {w : World} {base : Nat} {t e : TypeId} {a : Addr} {len cap : Nat} (ht : P.underlying t = some (.slice e)) (h : Value.okWide P w .any base t (.slice (some a) len cap)) : a.block < w.heap.size := by
  simp only [Value.okWide, ht, Cell.okWide, Cell.ok, World.has] at h
  obtain ⟨_, _, _, _, row, cells, hs, _⟩ := h
  rcases Nat.lt_or_ge a.block w.heap.size with h' | h'
  · exact h'
  · exfalso
    simp [World.shape?, Array.getElem?_eq_none h'] at hs

set_option maxHeartbeats 2000000 in
set_option maxRecDepth 100000 in
theorem walk_long (p : Option Addr) (cp : Nat) (xs : List Int) (q : Option Addr) (lq cq : Nat) (w : World) (hbig : 5000 < xs.length ∨ 200 < lq) :
    Calls Try.prog 4 #[.slice p xs.length cp, .slice q lq cq] w fun e w' => e = .returned (.bool true) ∧ Below w.heap.size w w' := by
  generalize xs.length = lx at *
  go_enter Try.func4, Try.ntmps4
  go_wp2_with fail
  refine (known_any _).mono ?_
  rintro e w1 ⟨rfl, hb1⟩
  by_cases h1 : 5000 < lx
  · clear hbig
    go_wp2
    go_ret
    exact ⟨rfl, hb1⟩
  · have h1' : decide (5000 < lx) = false := by simp; omega
    have h1'' : decide ((5000 : Int) < (lx : Int)) = false := by simp; omega
    have h2 : 200 < lq := by omega
    clear hbig
    go_wp2
    go_ret
    exact ⟨rfl, hb1⟩

/-- how both readers stand -/
def Both (w : World) (A1 A2 : Nat → Prop) (rb wb : Nat) (w' : World) : Prop :=
  ∃ bs x, Rd A1 w' rb bs x ∧ Rd A2 w' wb bs x ∧ bs.length ≤ 5000 ∧ Below w.heap.size w w'

theorem both_first {w wr wa : World} {A1 : Nat → Prop} {rb wb : Nat} {bs bs' : List Int} {x x' : Int} (hrw : w.heap.size ≤ rb) (hrwb : rb < wb)
    (hB : Below w.heap.size w wr) (hW : Rd (fun k => k < w.heap.size) wr wb bs x) (hg : wr.grownBy wa (some rb)) : Rd (fun k => k < w.heap.size) wa wb bs x ∧ Below w.heap.size w wa :=
  ⟨hW.apart hg (by omega) (fun k hk => by have : k < w.heap.size := hk; omega), hB.grown hg hB.size (by intro k hk; cases hk; exact hrw)⟩

theorem both_next {w wa wz : World} {A1 : Nat → Prop} {rb wb : Nat} {bs' : List Int} {x' : Int} (hwwb : w.heap.size ≤ wb) (hrwb : rb < wb) (HA1 : ∀ k, A1 k → k < rb)
    (hB : Below w.heap.size w wa) (hR : Rd A1 wa rb bs' x') (hg : wa.grownBy wz (some wb)) (hW : Rd (fun k => k < w.heap.size) wz wb bs' x') (hl : bs'.length ≤ 5000) : Both w A1 (fun k => k < w.heap.size) rb wb wz :=
  ⟨bs', x', hR.apart hg (by omega) (fun k hk => by have := HA1 k hk; omega), hW, hl, hB.grown hg hB.size (by intro k hk; cases hk; exact hwwb)⟩

theorem sNum_some (bs : List Int) (x : Int) (hb : ∀ c ∈ bs, 0 ≤ c ∧ c < 256) : ∃ m bs' x', sNum bs x = (m, bs', x') ∧ bs'.length ≤ bs.length := by
  by_cases hx : x = 0
  · rw [sNum, if_pos hx]
    rcases h : rdNum bs with _ | ⟨m, r⟩
    · exact ⟨_, _, _, rfl, Nat.le_refl _⟩
    · exact ⟨_, _, _, rfl, (rdNum_shorter hb h).1⟩
  · rw [sNum, if_neg hx]
    exact ⟨_, _, _, rfl, Nat.le_refl _⟩

theorem sFix_some (s : Int) (bs : List Int) (x : Int) : ∃ m bs' x', sFix s bs x = (m, bs', x') ∧ bs'.length ≤ bs.length := by
  by_cases hx : x = 0
  · rw [sFix, if_pos hx]
    by_cases h : 1 ≤ s ∧ s ≤ 8 ∧ s ≤ bs.length
    · rw [if_pos h]; exact ⟨_, _, _, rfl, by simp⟩
    · rw [if_neg h]; exact ⟨_, _, _, rfl, Nat.le_refl _⟩
  · rw [sFix, if_neg hx]
    exact ⟨_, _, _, rfl, Nat.le_refl _⟩

theorem sTxt_some (most : Int) (bs : List Int) (x : Int) (hb : ∀ c ∈ bs, 0 ≤ c ∧ c < 256) : ∃ tx bs' x', sTxt most bs x = (tx, bs', x') ∧ bs'.length ≤ bs.length ∧ ∀ c ∈ tx, 0 ≤ c ∧ c < 256 := by
  by_cases hx : x = 0
  · rw [sTxt, if_pos hx]
    rcases h : rdTxt most.toNat bs with e | ⟨t, r⟩
    · exact ⟨_, _, _, rfl, Nat.le_refl _, by simp⟩
    · exact ⟨_, _, _, rfl, (rdTxt_shorter hb h).1, fun c hc => hb c (by rw [← (rdTxt_form hb h).1]; simp [txtF, hc])⟩
  · rw [sTxt, if_neg hx]
    exact ⟨_, _, _, rfl, Nat.le_refl _, by simp⟩

theorem sRest_some (bs : List Int) (x : Int) (hb : ∀ c ∈ bs, 0 ≤ c ∧ c < 256) : ∃ tx bs' x', sRest bs x = (tx, bs', x') ∧ bs'.length ≤ bs.length ∧ ∀ c ∈ tx, 0 ≤ c ∧ c < 256 := by
  by_cases hx : x = 0
  · rw [sRest, if_pos hx]
    exact ⟨_, _, _, rfl, by simp, hb⟩
  · rw [sRest, if_neg hx]
    exact ⟨_, _, _, rfl, Nat.le_refl _, by simp⟩

set_option maxHeartbeats 4000000 in
set_option maxRecDepth 100000 in
theorem walk_in (p : Option Addr) (cp : Nat) (xs : List Int) (q : Option Addr) (lq cq : Nat) (K N : Nat → Int) (w : World) (ha : Arg w p cp xs) (hblk : ∀ a, p = some a → a.block < w.heap.size) (hq : Asks w q lq cq K N) (hx : xs.length ≤ 5000) (hlq : lq ≤ 200) :
    Calls Try.prog 4 #[.slice p xs.length cp, .slice q lq cq] w fun e w' => e = .returned (.bool true) ∧ Below w.heap.size w w' := by
  have HA := hide ha
  have HQ := hide hq
  have HBLK := hide hblk
  clear ha hq hblk
  generalize hlx : xs.length = lx at *
  have HLX := hide hlx
  clear hlx
  have d1 : decide ((5000 : Int) < (lx : Int)) = false := by simp; omega
  have d2 : decide ((200 : Int) < (lq : Int)) = false := by simp; omega
  go_enter Try.func4, Try.ntmps4
  go_wp2_with fail
  refine (known_any _).mono ?_
  rintro e w1 ⟨rfl, hb1⟩
  have HB1 := hide hb1
  clear hb1
  have hA1 : Arg w1 p cp xs := ⟨bytes_kept HA.out.1 (below_grown HB1.out none) (fun a _ => by simp), HA.out.2⟩
  have HA1 := hide hA1
  clear hA1
  go_wp2_with (at_builtin; refine wpList_append_bytes rfl (.tmp 20) (.tmp 21) rfl w1.heap.size _ [] rfl 0 rfl (World.ownsRow_made w1 #[] 0 (Nat.le_refl _) (Nat.zero_le _) rfl) p lx cp xs HLX.out rfl ?h1 HA1.out.2.2.2 ?h3 ?h4 ?_)
  case h1 => exact bytes_kept HA1.out.1 (World.grownBy_alloc w1 _ none) (fun a _ => by simp)
  case h3 => omega
  case h4 => simp
  intro vk w2 zk kk hzk hkk hok hgk hnn
  obtain rfl : zk = xs := by simpa using hzk.out
  obtain rfl : kk = lx := by rw [← hkk.out]; exact HLX.out
  have hb12 : Below w1.heap.size w1 w2 := ((Below.refl _ w1).alloc (Nat.le_refl _) _).trans (grown_below hgk (by simp) (by intro k hk; simp [Value.ownBlock] at hk; omega))
  have HB2 := hide (HB1.out.trans (hb12.mono HB1.out.size))
  have HOK := hide hok
  obtain ⟨qk, ck, hvk, _, _, hqk, hqb⟩ := own_bytes (xs := zk) (by rw [HLX.out]; exact hok) HA.out.1.1
  rw [HLX.out] at hvk
  subst hvk
  have hop := open_any qk ck zk w2 (by rw [HLX.out]; omega) hqk
  rw [HLX.out] at hop
  have HOP := hide hop
  have hw12 : w.heap.size ≤ w1.heap.size := HB1.out.size
  have HQB := hide hqb
  clear hzk hkk hok hgk hb12 hqk HA1 HB1 hop hnn hqb
  go_wp2_with fail
  refine (show Calls _ _ _ _ _ from HOP.out).mono ?_
  rintro e w3 ⟨rb, rfl, hrb, hrd, hb3⟩
  have HB3 := hide (HB2.out.trans (hb3.mono HB2.out.size))
  have HOK3 : Hid (w3.ownsRow w1.heap.size 5 1 (.slice qk kk ck) kk (zk.map (Value.int .u8))) := own_below HOK.out hb3
  have HR3 := hide hrd
  have hw23 : w.heap.size ≤ w2.heap.size := HB2.out.size
  have hrw : w.heap.size ≤ rb := by omega
  generalize hA1 : (fun k => w2.heap.size ≤ k ∧ k < rb) = A1 at *
  have HA1 : Hid (∀ k, A1 k → w2.heap.size ≤ k ∧ k < rb) := by
    intro k hk
    rw [← hA1] at hk
    exact hk
  clear hrd hb3 HOP HOK HB2 hA1
  go_wp2_with fail
  go_loopg [7] 5002 (fun r s7 wx => ∃ i : Nat, s7 = .int .i64 i ∧ i ≤ kk ∧ kk - i < r ∧ (∃ zs : List Int, zs.length = kk ∧ wx.ownsRow w1.heap.size 5 1 (.slice qk kk ck) kk (zs.map (Value.int .u8))) ∧ Rd A1 wx rb zk 0 ∧ Below w.heap.size w wx)
  case atStart => exact ⟨0, rfl, by omega, by omega, ⟨zk, HLX.out, HOK3.out⟩, HR3.out, HB3.out⟩
  case round =>
    obtain ⟨i, rfl, hil, hir, ⟨zs, hzl, ho⟩, hr, hb⟩ := hrel
    have HO := hide ho
    have HZL := hide hzl
    have HR := hide hr
    have HB := hide hb
    clear hzl ho hr hb
    by_cases hlt : i < kk
    · obtain ⟨g, c, hv, hg, hgs, _, _⟩ := own_shape HO.out (by omega)
      simp only [Value.slice.injEq] at hv
      obtain ⟨rfl, _, rfl⟩ := hv
      have ci := (HO.out.cellAt i (by omega)).trans (map_at_u8 (by rw [HZL.out]; exact hlt))
      have fi := HO.out.frozenAt i
      have hg2 := (HQB.out _ rfl).2
      have hg2' : g < w2.heap.size := hg2
      clear hg2
      go_wp2
      go_roundg (kk - i)
      case measure => omega
      case rel =>
        have h2 := HO.out.stored i (.int .u8 3)
        rw [map_set_u8] at h2
        refine ⟨i + 1, by go_num, by omega, by omega, ⟨zs.set i 3, by simpa using HZL.out, h2.1⟩, HR.out.apart h2.2 (by omega) (fun k hk => by have := HA1.out k hk; omega), HB.out.grown h2.2 HB.out.size (by intro k hk; cases hk; omega)⟩
    · generalize hwl : wr = wl at *
      clear hwl HO HZL HR3 HB3 HOK3 HQB
      go_wp2_with fail
      clear hlt hil hir
      have hwbs : rb < wl.heap.size := HR.out.lt
      obtain ⟨wb, hwb⟩ : ∃ wb, wb = wl.heap.size := ⟨_, rfl⟩
      have hnew : Rd (fun k => k < w.heap.size) (wl.alloc (Obj.cells #[.slice p kk cp, .int .i64 0] 35)) wl.heap.size zk 0 := by
        have h := rd_new (A := fun k => k < w.heap.size) (w := wl) (q := p) (xs := zk) (cap := cp) (t := 35) HA.out.2.1 HA.out.2.2.1 (by rw [HLX.out]; omega) (bytes_kept HA.out.1 (below_grown HB.out none) (fun a _ => by simp)) (fun a ha => by have := HBLK.out a ha; have := HB.out.size; omega) (fun a ha => HBLK.out a ha)
        rw [HLX.out] at h
        exact h
      have HST : Hid (Both w A1 (fun k => k < w.heap.size) rb wl.heap.size (wl.alloc (Obj.cells #[.slice p kk cp, .int .i64 0] 35))) :=
        ⟨zk, 0, HR.out.kept ((Below.refl _ wl).alloc (Nat.le_refl _) _), hnew, by rw [HLX.out]; exact hx, HB.out.alloc HB.out.size _⟩
      have hrwb : rb < wb := by omega
      have hwwb : w.heap.size ≤ wb := by have := HB.out.size; omega
      rw [← hwb] at HST ⊢
      clear hnew hwbs HR HB hwb
      go_loopg [9] 202 (fun r s9 wx => ∃ i : Nat, s9 = .int .i64 i ∧ i ≤ lq ∧ lq - i < r ∧ Both w A1 (fun k => k < w.heap.size) rb wb wx)
      case atStart => exact ⟨0, rfl, by omega, by omega, HST.out⟩
      case round =>
        obtain ⟨i, rfl, hil, hir, bs, x, hr, hw, hlen, hb⟩ := hrel
        have HR := hide hr
        have HW := hide hw
        have HB := hide hb
        clear hr hw hb HST
        by_cases hlt : i < lq
        · rcases HQ.out with ⟨h0, _⟩ | ⟨qb, qo, rfl, hqc, hqm, hqcell⟩
          · omega
          obtain ⟨hk0, hk1, hkn⟩ := hqcell i hlt
          have hqb : qb < w.heap.size := block_lt_of_cell hk0
          have HN : Hid (∀ w', Hid (Below w.heap.size w w') → w'.cell? ⟨qb, qo + i * 2 + 1, none⟩ = some (.int .i64 (N i))) := fun w' h => (h.out.cell (p := ⟨qb, qo + i * 2 + 1, none⟩) hqb).trans hk1
          have hkc := (HB.out.cell (p := ⟨qb, qo + i * 2, none⟩) hqb).trans hk0
          clear hk0 hk1 hqcell
          generalize K i = kd at *
          generalize N i = nn at *
          unfold maxLen at hqm
          go_upto_block 4 with fail
          go_cut [] (fun wc => Hid (Both w A1 (fun k => k < w.heap.size) rb wb wc))
          case first =>
            have HBY := hide HR.out.bytes
            have hA1r : Hid (∀ k, A1 k → k < rb) := fun k hk => (HA1.out k hk).2
            by_cases hk0 : kd = 0
            · subst hk0
              obtain ⟨m, bs', x', hst, hle⟩ := sNum_some bs x HBY.out
              have c1 := fun w' (h : Rd A1 w' rb bs x) => rnum_any rb bs x w' h
              have c2 := fun w' (h : Rd (fun k => k < w.heap.size) w' wb bs x) => rrnum_any wb bs x w' h
              simp only [hst] at c1 c2
              have C1 := hide c1
              have C2 := hide c2
              have HL : Hid (bs'.length ≤ 5000) := Nat.le_trans hle hlen
              clear c1 c2 hst hle
              go_wp2_with fail
              refine (C1.out _ HR.out).mono ?_
              rintro e wa ⟨rfl, hra, hga⟩
              have HF := hide (both_first hrw hrwb HB.out HW.out hga (A1 := A1) (bs' := bs') (x' := x'))
              have HRa := hide hra
              clear hra hga
              go_wp2_with fail
              refine (C2.out _ HF.out.1).mono ?_
              rintro e wz ⟨rfl, hwz, hgz⟩
              have HZ := hide (both_next hwwb hrwb hA1r.out HF.out.2 HRa.out hgz hwz HL.out)
              clear hwz hgz
              go_wp2_with fail
              go_meet
              case rel => exact HZ
            · have k0 : (kd == 0) = false := by simpa using hk0
              clear hk0
              by_cases hk1 : kd = 1
              · subst hk1
                obtain ⟨m, bs', x', hst, hle⟩ := sFix_some nn bs x
                have c1 := fun w' (h : Rd A1 w' rb bs x) => rfix_any rb nn bs x w' h
                have c2 := fun w' (h : Rd (fun k => k < w.heap.size) w' wb bs x) => rrfix_any wb nn bs x w' h
                simp only [hst] at c1 c2
                have C1 := hide c1
                have C2 := hide c2
                have HL : Hid (bs'.length ≤ 5000) := Nat.le_trans hle hlen
                clear c1 c2 hst hle
                go_upto_region 22 with fail
                refine wp_region_held_drew (S := fun w' => Hid (Below w.heap.size w w')) (by kernel_rfl) (hide HB.out.drew) (fun hHeld => ?_)
                refine take_dstH (i := 0) (d := 59) (v := ?_) rfl rfl (by kernel_rfl) (by kernel_rfl) (by kernel_rfl) (fun _ _ _ h => h) (by rfl) hHeld ?_ ?_
                rotate_left
                · intro w hSw; clear hSw; go_simp; try (with_reducible rfl)
                try simp only [Act.put, List.setIfInBounds_toArray, List.set_cons_zero, List.set_cons_succ]
                refine take_dstH (i := 1) (d := 60) (v := ?_) rfl rfl (by kernel_rfl) (by kernel_rfl) (by kernel_rfl) (fun _ _ _ h => h) (by rfl) hHeld ?_ ?_
                rotate_left
                · intro w hSw; clear hSw; go_simp; try (with_reducible rfl)
                try simp only [Act.put, List.setIfInBounds_toArray, List.set_cons_zero, List.set_cons_succ]
                refine take_dstH (i := 2) (d := 61) (v := ?_) rfl rfl (by kernel_rfl) (by kernel_rfl) (by kernel_rfl) (fun _ _ _ h => h) (by rfl) hHeld ?_ ?_
                rotate_left
                · intro w hSw; clear hSw; go_simp; try (with_reducible rfl)
                try simp only [Act.put, List.setIfInBounds_toArray, List.set_cons_zero, List.set_cons_succ]
                refine take_dstH (i := 3) (d := 62) (v := ?_) rfl rfl (by kernel_rfl) (by kernel_rfl) (by kernel_rfl) (fun _ _ _ h => h) (by rfl) hHeld ?_ ?_
                rotate_left
                · intro w hSw; clear hSw; go_simp; try (with_reducible rfl)
                try simp only [Act.put, List.setIfInBounds_toArray, List.set_cons_zero, List.set_cons_succ]
                refine take_dstH (i := 4) (d := 63) (v := ?_) rfl rfl (by kernel_rfl) (by kernel_rfl) (by kernel_rfl) (fun _ _ _ h => h) (by rfl) hHeld ?_ ?_
                rotate_left
                · intro w hSw; clear hSw; go_simp; try (with_reducible rfl)
                try simp only [Act.put, List.setIfInBounds_toArray, List.set_cons_zero, List.set_cons_succ]
                refine take_dstH (i := 5) (d := 64) (v := ?_) rfl rfl (by kernel_rfl) (by kernel_rfl) (by kernel_rfl) (fun _ _ _ h => h) (by rfl) hHeld ?_ ?_
                rotate_left
                · intro w hSw; have hfS := HN.out w hSw; clear hSw; go_simp; try (with_reducible rfl)
                try simp only [Act.put, List.setIfInBounds_toArray, List.set_cons_zero, List.set_cons_succ]
                refine take_dstH (i := 7) (d := 66) (v := ?_) rfl rfl (by kernel_rfl) (by kernel_rfl) (by kernel_rfl) (fun _ _ _ h => h) (by rfl) hHeld ?_ ?_
                rotate_left
                · intro w hSw; clear hSw; go_simp; try (with_reducible rfl)
                try simp only [Act.put, List.setIfInBounds_toArray, List.set_cons_zero, List.set_cons_succ]
                refine take_dstH (i := 8) (d := 67) (v := ?_) rfl rfl (by kernel_rfl) (by kernel_rfl) (by kernel_rfl) (fun _ _ _ h => h) (by rfl) hHeld ?_ ?_
                rotate_left
                · intro w hSw; clear hSw; go_simp; try (with_reducible rfl)
                try simp only [Act.put, List.setIfInBounds_toArray, List.set_cons_zero, List.set_cons_succ]
                refine take_dstH (i := 9) (d := 68) (v := ?_) rfl rfl (by kernel_rfl) (by kernel_rfl) (by kernel_rfl) (fun _ _ _ h => h) (by rfl) hHeld ?_ ?_
                rotate_left
                · intro w hSw; clear hSw; go_simp; try (with_reducible rfl)
                try simp only [Act.put, List.setIfInBounds_toArray, List.set_cons_zero, List.set_cons_succ]
                refine take_dstH (i := 10) (d := 69) (v := ?_) rfl rfl (by kernel_rfl) (by kernel_rfl) (by kernel_rfl) (fun _ _ _ h => h) (by rfl) hHeld ?_ ?_
                rotate_left
                · intro w hSw; clear hSw; go_simp; try (with_reducible rfl)
                try simp only [Act.put, List.setIfInBounds_toArray, List.set_cons_zero, List.set_cons_succ]
                refine take_dstH (i := 11) (d := 70) (v := ?_) rfl rfl (by kernel_rfl) (by kernel_rfl) (by kernel_rfl) (fun _ _ _ h => h) (by rfl) hHeld ?_ ?_
                rotate_left
                · intro w hSw; clear hSw; go_simp; try (with_reducible rfl)
                try simp only [Act.put, List.setIfInBounds_toArray, List.set_cons_zero, List.set_cons_succ]
                refine take_dstH (i := 12) (d := 71) (v := ?_) rfl rfl (by kernel_rfl) (by kernel_rfl) (by kernel_rfl) (fun _ _ _ h => h) (by rfl) hHeld ?_ ?_
                rotate_left
                · intro w hSw; have hfS := HN.out w hSw; clear hSw; go_simp; try (with_reducible rfl)
                try simp only [Act.put, List.setIfInBounds_toArray, List.set_cons_zero, List.set_cons_succ]
                refine wpAnyH_ready (rs := [6]) (by kernel_rfl) (by simp) ?_
                refine (AllReadyH.cons rfl (fun K hK => ?_) AllReadyH.nil)
                go_simp
                refine (C1.out _ (show Rd A1 wr.drew rb _ _ from HR.out)).mono ?_; rintro e wa ⟨rfl, hra, hga⟩; have HF := hide (both_first hrw hrwb HB.out.drew (show Rd _ wr.drew wb _ _ from HW.out) hga (A1 := A1) (bs' := bs') (x' := x')); have HBa : Hid (Below w.heap.size w wa) := HF.out.2; have HRa := hide hra; clear hra hga
                go_wp2_with fail
                refine hK.out _ _ ?_ (fun hHeld => ?_)
                · exact HBa
                clear hK K
                try simp only [Act.put, List.setIfInBounds_toArray, List.set_cons_zero, List.set_cons_succ]
                refine wpAnyH_ready (rs := [13]) (by kernel_rfl) (by simp) ?_
                refine (AllReadyH.cons rfl (fun K hK => ?_) AllReadyH.nil)
                go_simp
                refine (C2.out _ HF.out.1).mono ?_; rintro e wz ⟨rfl, hwz, hgz⟩; have HZ := hide (both_next hwwb hrwb hA1r.out HF.out.2 HRa.out hgz hwz HL.out); have HBz : Hid (Below w.heap.size w wz) := (show Both _ _ _ _ _ _ from HZ.out).choose_spec.choose_spec.2.2.2; clear hwz hgz
                go_wp2_with fail
                refine hK.out _ _ ?_ (fun hHeld => ?_)
                · exact HBz
                clear hK K
                try simp only [Act.put, List.setIfInBounds_toArray, List.set_cons_zero, List.set_cons_succ]
                refine take_dstH (i := 14) (d := 73) (v := ?_) rfl rfl (by kernel_rfl) (by kernel_rfl) (by kernel_rfl) (fun _ _ _ h => h) (by rfl) hHeld ?_ ?_
                rotate_left
                · intro w hSw; clear hSw; go_simp; try (with_reducible rfl)
                try simp only [Act.put, List.setIfInBounds_toArray, List.set_cons_zero, List.set_cons_succ]
                refine wpAnyH_done (by kernel_rfl) ?_ _
                go_wp2_with fail
                go_meet
                case rel => exact HZ
              · have k1 : (kd == 1) = false := by simpa using hk1
                clear hk1
                by_cases hk2 : kd = 2
                · subst hk2
                  obtain ⟨tx, bs', x', hst, hle, htb⟩ := sTxt_some nn bs x HBY.out
                  have c1 := fun w' (h : Rd A1 w' rb bs x) => rtxt_any rb nn hkn bs x w' h
                  have c2 := fun w' (h : Rd (fun k => k < w.heap.size) w' wb bs x) => rrtxt_any wb nn hkn bs x w' h (by omega)
                  simp only [hst] at c1 c2
                  have C1 := hide c1
                  have C2 := hide c2
                  have HTB := hide htb
                  have HL : Hid (bs'.length ≤ 5000) := Nat.le_trans hle hlen
                  have hwbr : wb < wr.heap.size := HW.out.lt
                  clear c1 c2 hst hle htb
                  generalize hlt' : tx.length = lt at *
                  have HLT := hide hlt'
                  clear hlt'
                  go_upto_region 25 with fail
                  refine wp_region_held_drew (S := fun w' => Hid (Below w.heap.size w w')) (by kernel_rfl) (hide HB.out.drew) (fun hHeld => ?_)
                  refine take_dstH (i := 0) (d := 76) (v := ?_) rfl rfl (by kernel_rfl) (by kernel_rfl) (by kernel_rfl) (fun _ _ _ h => h) (by rfl) hHeld ?_ ?_
                  rotate_left
                  · intro w hSw; clear hSw; go_simp; try (with_reducible rfl)
                  try simp only [Act.put, List.setIfInBounds_toArray, List.set_cons_zero, List.set_cons_succ]
                  refine take_dstH (i := 1) (d := 77) (v := ?_) rfl rfl (by kernel_rfl) (by kernel_rfl) (by kernel_rfl) (fun _ _ _ h => h) (by rfl) hHeld ?_ ?_
                  rotate_left
                  · intro w hSw; clear hSw; go_simp; try (with_reducible rfl)
                  try simp only [Act.put, List.setIfInBounds_toArray, List.set_cons_zero, List.set_cons_succ]
                  refine take_dstH (i := 2) (d := 78) (v := ?_) rfl rfl (by kernel_rfl) (by kernel_rfl) (by kernel_rfl) (fun _ _ _ h => h) (by rfl) hHeld ?_ ?_
                  rotate_left
                  · intro w hSw; clear hSw; go_simp; try (with_reducible rfl)
                  try simp only [Act.put, List.setIfInBounds_toArray, List.set_cons_zero, List.set_cons_succ]
                  refine take_dstH (i := 3) (d := 79) (v := ?_) rfl rfl (by kernel_rfl) (by kernel_rfl) (by kernel_rfl) (fun _ _ _ h => h) (by rfl) hHeld ?_ ?_
                  rotate_left
                  · intro w hSw; clear hSw; go_simp; try (with_reducible rfl)
                  try simp only [Act.put, List.setIfInBounds_toArray, List.set_cons_zero, List.set_cons_succ]
                  refine take_dstH (i := 4) (d := 80) (v := ?_) rfl rfl (by kernel_rfl) (by kernel_rfl) (by kernel_rfl) (fun _ _ _ h => h) (by rfl) hHeld ?_ ?_
                  rotate_left
                  · intro w hSw; clear hSw; go_simp; try (with_reducible rfl)
                  try simp only [Act.put, List.setIfInBounds_toArray, List.set_cons_zero, List.set_cons_succ]
                  refine take_dstH (i := 5) (d := 81) (v := ?_) rfl rfl (by kernel_rfl) (by kernel_rfl) (by kernel_rfl) (fun _ _ _ h => h) (by rfl) hHeld ?_ ?_
                  rotate_left
                  · intro w hSw; have hfS := HN.out w hSw; clear hSw; go_simp; try (with_reducible rfl)
                  try simp only [Act.put, List.setIfInBounds_toArray, List.set_cons_zero, List.set_cons_succ]
                  refine take_dstH (i := 8) (d := 84) (v := ?_) rfl rfl (by kernel_rfl) (by kernel_rfl) (by kernel_rfl) (fun _ _ _ h => h) (by rfl) hHeld ?_ ?_
                  rotate_left
                  · intro w hSw; clear hSw; go_simp; try (with_reducible rfl)
                  try simp only [Act.put, List.setIfInBounds_toArray, List.set_cons_zero, List.set_cons_succ]
                  refine take_dstH (i := 9) (d := 85) (v := ?_) rfl rfl (by kernel_rfl) (by kernel_rfl) (by kernel_rfl) (fun _ _ _ h => h) (by rfl) hHeld ?_ ?_
                  rotate_left
                  · intro w hSw; clear hSw; go_simp; try (with_reducible rfl)
                  try simp only [Act.put, List.setIfInBounds_toArray, List.set_cons_zero, List.set_cons_succ]
                  refine take_dstH (i := 10) (d := 86) (v := ?_) rfl rfl (by kernel_rfl) (by kernel_rfl) (by kernel_rfl) (fun _ _ _ h => h) (by rfl) hHeld ?_ ?_
                  rotate_left
                  · intro w hSw; clear hSw; go_simp; try (with_reducible rfl)
                  try simp only [Act.put, List.setIfInBounds_toArray, List.set_cons_zero, List.set_cons_succ]
                  refine take_dstH (i := 11) (d := 87) (v := ?_) rfl rfl (by kernel_rfl) (by kernel_rfl) (by kernel_rfl) (fun _ _ _ h => h) (by rfl) hHeld ?_ ?_
                  rotate_left
                  · intro w hSw; clear hSw; go_simp; try (with_reducible rfl)
                  try simp only [Act.put, List.setIfInBounds_toArray, List.set_cons_zero, List.set_cons_succ]
                  refine take_dstH (i := 12) (d := 88) (v := ?_) rfl rfl (by kernel_rfl) (by kernel_rfl) (by kernel_rfl) (fun _ _ _ h => h) (by rfl) hHeld ?_ ?_
                  rotate_left
                  · intro w hSw; clear hSw; go_simp; try (with_reducible rfl)
                  try simp only [Act.put, List.setIfInBounds_toArray, List.set_cons_zero, List.set_cons_succ]
                  refine take_dstH (i := 13) (d := 89) (v := ?_) rfl rfl (by kernel_rfl) (by kernel_rfl) (by kernel_rfl) (fun _ _ _ h => h) (by rfl) hHeld ?_ ?_
                  rotate_left
                  · intro w hSw; have hfS := HN.out w hSw; clear hSw; go_simp; try (with_reducible rfl)
                  try simp only [Act.put, List.setIfInBounds_toArray, List.set_cons_zero, List.set_cons_succ]
                  refine wpAnyH_ready (rs := [6]) (by kernel_rfl) (by simp) ?_
                  refine (AllReadyH.cons rfl (fun K hK => ?_) AllReadyH.nil)
                  go_simp
                  refine (C1.out _ (show Rd A1 wr.drew rb _ _ from HR.out)).mono ?_; rintro e wa ⟨va, rfl, hoa, hra, hga⟩; have HF := hide (both_first hrw hrwb HB.out.drew (show Rd _ wr.drew wb _ _ from HW.out) hga (A1 := A1) (bs' := bs') (x' := x')); have HBa : Hid (Below w.heap.size w wa) := HF.out.2; have HRa := hide hra; obtain ⟨qa, ca, hva, _, _, hya, hqa⟩ := own_bytes (xs := tx) (by rw [HLT.out]; exact hoa) HTB.out; rw [HLT.out] at hva; subst hva; have hcva := conv_any hya lt ca HLT.out; have HYA := hide hya; have HQA := hide hqa; clear hra hga hoa hya hqa
                  go_wp2_with fail
                  refine hK.out _ _ ?_ (fun hHeld => ?_)
                  · exact HBa
                  clear hK K
                  try simp only [Act.put, List.setIfInBounds_toArray, List.set_cons_zero, List.set_cons_succ]
                  refine wpAnyH_ready (rs := [7, 14]) (by kernel_rfl) (by simp) ?_
                  refine (AllReadyH.cons rfl (fun K hK => ?_) (AllReadyH.cons rfl (fun K hK => ?_) AllReadyH.nil))
                  focus
                    go_simp
                    refine hK.out _ _ ?_ (fun hHeld => ?_)
                    · exact hHeld
                    clear hK K
                    try simp only [Act.put, List.setIfInBounds_toArray, List.set_cons_zero, List.set_cons_succ]
                    refine wpAnyH_ready (rs := [14]) (by kernel_rfl) (by simp) ?_
                    refine (AllReadyH.cons rfl (fun K hK => ?_) AllReadyH.nil)
                    go_simp
                    try clear hcva; refine (C2.out _ HF.out.1).mono ?_; rintro e wz ⟨qz, cz, rfl, hyz, hwz, hgz⟩; have HZ := hide (both_next hwwb hrwb hA1r.out HF.out.2 HRa.out hgz hwz HL.out); have HBz : Hid (Below w.heap.size w wz) := (show Both _ _ _ _ _ _ from HZ.out).choose_spec.choose_spec.2.2.2; have hcva := conv_any (bytes_kept HYA.out hgz (fun a ha e => by have := (HQA.out a ha).1; simp at e this; omega)) lt ca HLT.out; have hcvz := conv_any hyz lt cz HLT.out; clear hwz hgz hyz
                    go_wp2_with fail
                    refine hK.out _ _ ?_ (fun hHeld => ?_)
                    · exact HBz
                    clear hK K
                    try simp only [Act.put, List.setIfInBounds_toArray, List.set_cons_zero, List.set_cons_succ]
                    refine wpAnyH_ready (rs := [15]) (by kernel_rfl) (by simp) ?_
                    refine (AllReadyH.cons rfl (fun K hK => ?_) AllReadyH.nil)
                    go_simp
                    refine hK.out _ _ ?_ (fun hHeld => ?_)
                    · exact hHeld
                    clear hK K
                    try simp only [Act.put, List.setIfInBounds_toArray, List.set_cons_zero, List.set_cons_succ]
                    refine take_dstH (i := 16) (d := 92) (v := ?_) rfl rfl (by kernel_rfl) (by kernel_rfl) (by kernel_rfl) (fun _ _ _ h => h) (by rfl) hHeld ?_ ?_
                    rotate_left
                    · intro w hSw; clear hSw; go_simp; try (with_reducible rfl)
                    try simp only [Act.put, List.setIfInBounds_toArray, List.set_cons_zero, List.set_cons_succ]
                    refine wpAnyH_done (by kernel_rfl) ?_ _
                  rotate_left 1
                  focus
                    go_simp
                    try clear hcva; refine (C2.out _ HF.out.1).mono ?_; rintro e wz ⟨qz, cz, rfl, hyz, hwz, hgz⟩; have HZ := hide (both_next hwwb hrwb hA1r.out HF.out.2 HRa.out hgz hwz HL.out); have HBz : Hid (Below w.heap.size w wz) := (show Both _ _ _ _ _ _ from HZ.out).choose_spec.choose_spec.2.2.2; have hcva := conv_any (bytes_kept HYA.out hgz (fun a ha e => by have := (HQA.out a ha).1; simp at e this; omega)) lt ca HLT.out; have hcvz := conv_any hyz lt cz HLT.out; clear hwz hgz hyz
                    go_wp2_with fail
                    refine hK.out _ _ ?_ (fun hHeld => ?_)
                    · exact HBz
                    clear hK K
                    try simp only [Act.put, List.setIfInBounds_toArray, List.set_cons_zero, List.set_cons_succ]
                    refine wpAnyH_ready (rs := [7, 15]) (by kernel_rfl) (by simp) ?_
                    refine (AllReadyH.cons rfl (fun K hK => ?_) (AllReadyH.cons rfl (fun K hK => ?_) AllReadyH.nil))
                    focus
                      go_simp
                      refine hK.out _ _ ?_ (fun hHeld => ?_)
                      · exact hHeld
                      clear hK K
                      try simp only [Act.put, List.setIfInBounds_toArray, List.set_cons_zero, List.set_cons_succ]
                      refine wpAnyH_ready (rs := [15]) (by kernel_rfl) (by simp) ?_
                      refine (AllReadyH.cons rfl (fun K hK => ?_) AllReadyH.nil)
                      go_simp
                      refine hK.out _ _ ?_ (fun hHeld => ?_)
                      · exact hHeld
                      clear hK K
                      try simp only [Act.put, List.setIfInBounds_toArray, List.set_cons_zero, List.set_cons_succ]
                      refine take_dstH (i := 16) (d := 92) (v := ?_) rfl rfl (by kernel_rfl) (by kernel_rfl) (by kernel_rfl) (fun _ _ _ h => h) (by rfl) hHeld ?_ ?_
                      rotate_left
                      · intro w hSw; clear hSw; go_simp; try (with_reducible rfl)
                      try simp only [Act.put, List.setIfInBounds_toArray, List.set_cons_zero, List.set_cons_succ]
                      refine wpAnyH_done (by kernel_rfl) ?_ _
                    rotate_left 1
                    focus
                      go_simp
                      refine hK.out _ _ ?_ (fun hHeld => ?_)
                      · exact hHeld
                      clear hK K
                      try simp only [Act.put, List.setIfInBounds_toArray, List.set_cons_zero, List.set_cons_succ]
                      refine wpAnyH_ready (rs := [7]) (by kernel_rfl) (by simp) ?_
                      refine (AllReadyH.cons rfl (fun K hK => ?_) AllReadyH.nil)
                      go_simp
                      refine hK.out _ _ ?_ (fun hHeld => ?_)
                      · exact hHeld
                      clear hK K
                      try simp only [Act.put, List.setIfInBounds_toArray, List.set_cons_zero, List.set_cons_succ]
                      refine take_dstH (i := 16) (d := 92) (v := ?_) rfl rfl (by kernel_rfl) (by kernel_rfl) (by kernel_rfl) (fun _ _ _ h => h) (by rfl) hHeld ?_ ?_
                      rotate_left
                      · intro w hSw; clear hSw; go_simp; try (with_reducible rfl)
                      try simp only [Act.put, List.setIfInBounds_toArray, List.set_cons_zero, List.set_cons_succ]
                      refine wpAnyH_done (by kernel_rfl) ?_ _
                  all_goals
                    clear hcva hcvz HYA HQA
                    go_wp2_with fail
                    go_meet
                    case rel => exact HZ
                · have k2 : (kd == 2) = false := by simpa using hk2
                  clear hk2
                  by_cases hk3 : kd = 3
                  · subst hk3
                    obtain ⟨tx, bs', x', hst, hle, htb⟩ := sRest_some bs x HBY.out
                    have c1 := fun w' (h : Rd A1 w' rb bs x) => rest_any rb bs x w' h
                    have c2 := fun w' (h : Rd (fun k => k < w.heap.size) w' wb bs x) => rrest_any wb bs x w' h
                    simp only [hst] at c1 c2
                    have C1 := hide c1
                    have C2 := hide c2
                    have HTB := hide htb
                    have HL : Hid (bs'.length ≤ 5000) := Nat.le_trans hle hlen
                    have hwbr : wb < wr.heap.size := HW.out.lt
                    clear c1 c2 hst hle htb
                    generalize hlt' : tx.length = lt at *
                    have HLT := hide hlt'
                    clear hlt'
                    go_upto_region 28 with fail
                    refine wp_region_held_drew (S := fun w' => Hid (Below w.heap.size w w')) (by kernel_rfl) (hide HB.out.drew) (fun hHeld => ?_)
                    refine take_dstH (i := 0) (d := 95) (v := ?_) rfl rfl (by kernel_rfl) (by kernel_rfl) (by kernel_rfl) (fun _ _ _ h => h) (by rfl) hHeld ?_ ?_
                    rotate_left
                    · intro w hSw; clear hSw; go_simp; try (with_reducible rfl)
                    try simp only [Act.put, List.setIfInBounds_toArray, List.set_cons_zero, List.set_cons_succ]
                    refine take_dstH (i := 3) (d := 98) (v := ?_) rfl rfl (by kernel_rfl) (by kernel_rfl) (by kernel_rfl) (fun _ _ _ h => h) (by rfl) hHeld ?_ ?_
                    rotate_left
                    · intro w hSw; clear hSw; go_simp; try (with_reducible rfl)
                    try simp only [Act.put, List.setIfInBounds_toArray, List.set_cons_zero, List.set_cons_succ]
                    refine wpAnyH_ready (rs := [1]) (by kernel_rfl) (by simp) ?_
                    refine (AllReadyH.cons rfl (fun K hK => ?_) AllReadyH.nil)
                    go_simp
                    refine (C1.out _ (show Rd A1 wr.drew rb _ _ from HR.out)).mono ?_; rintro e wa ⟨va, rfl, hoa, hra, hga⟩; have HF := hide (both_first hrw hrwb HB.out.drew (show Rd _ wr.drew wb _ _ from HW.out) hga (A1 := A1) (bs' := bs') (x' := x')); have HBa : Hid (Below w.heap.size w wa) := HF.out.2; have HRa := hide hra; obtain ⟨qa, ca, hva, _, _, hya, hqa⟩ := own_bytes (xs := tx) (by rw [HLT.out]; exact hoa) HTB.out; rw [HLT.out] at hva; subst hva; have hcva := conv_any hya lt ca HLT.out; have HYA := hide hya; have HQA := hide hqa; clear hra hga hoa hya hqa
                    go_wp2_with fail
                    refine hK.out _ _ ?_ (fun hHeld => ?_)
                    · exact HBa
                    clear hK K
                    try simp only [Act.put, List.setIfInBounds_toArray, List.set_cons_zero, List.set_cons_succ]
                    refine wpAnyH_ready (rs := [2, 4]) (by kernel_rfl) (by simp) ?_
                    refine (AllReadyH.cons rfl (fun K hK => ?_) (AllReadyH.cons rfl (fun K hK => ?_) AllReadyH.nil))
                    focus
                      go_simp
                      refine hK.out _ _ ?_ (fun hHeld => ?_)
                      · exact hHeld
                      clear hK K
                      try simp only [Act.put, List.setIfInBounds_toArray, List.set_cons_zero, List.set_cons_succ]
                      refine wpAnyH_ready (rs := [4]) (by kernel_rfl) (by simp) ?_
                      refine (AllReadyH.cons rfl (fun K hK => ?_) AllReadyH.nil)
                      go_simp
                      try clear hcva; refine (C2.out _ HF.out.1).mono ?_; rintro e wz ⟨qz, cz, rfl, hyz, hwz, hgz⟩; have HZ := hide (both_next hwwb hrwb hA1r.out HF.out.2 HRa.out hgz hwz HL.out); have HBz : Hid (Below w.heap.size w wz) := (show Both _ _ _ _ _ _ from HZ.out).choose_spec.choose_spec.2.2.2; have hcva := conv_any (bytes_kept HYA.out hgz (fun a ha e => by have := (HQA.out a ha).1; simp at e this; omega)) lt ca HLT.out; have hcvz := conv_any hyz lt cz HLT.out; clear hwz hgz hyz
                      go_wp2_with fail
                      refine hK.out _ _ ?_ (fun hHeld => ?_)
                      · exact HBz
                      clear hK K
                      try simp only [Act.put, List.setIfInBounds_toArray, List.set_cons_zero, List.set_cons_succ]
                      refine wpAnyH_ready (rs := [5]) (by kernel_rfl) (by simp) ?_
                      refine (AllReadyH.cons rfl (fun K hK => ?_) AllReadyH.nil)
                      go_simp
                      refine hK.out _ _ ?_ (fun hHeld => ?_)
                      · exact hHeld
                      clear hK K
                      try simp only [Act.put, List.setIfInBounds_toArray, List.set_cons_zero, List.set_cons_succ]
                      refine take_dstH (i := 6) (d := 101) (v := ?_) rfl rfl (by kernel_rfl) (by kernel_rfl) (by kernel_rfl) (fun _ _ _ h => h) (by rfl) hHeld ?_ ?_
                      rotate_left
                      · intro w hSw; clear hSw; go_simp; try (with_reducible rfl)
                      try simp only [Act.put, List.setIfInBounds_toArray, List.set_cons_zero, List.set_cons_succ]
                      refine wpAnyH_done (by kernel_rfl) ?_ _
                    rotate_left 1
                    focus
                      go_simp
                      try clear hcva; refine (C2.out _ HF.out.1).mono ?_; rintro e wz ⟨qz, cz, rfl, hyz, hwz, hgz⟩; have HZ := hide (both_next hwwb hrwb hA1r.out HF.out.2 HRa.out hgz hwz HL.out); have HBz : Hid (Below w.heap.size w wz) := (show Both _ _ _ _ _ _ from HZ.out).choose_spec.choose_spec.2.2.2; have hcva := conv_any (bytes_kept HYA.out hgz (fun a ha e => by have := (HQA.out a ha).1; simp at e this; omega)) lt ca HLT.out; have hcvz := conv_any hyz lt cz HLT.out; clear hwz hgz hyz
                      go_wp2_with fail
                      refine hK.out _ _ ?_ (fun hHeld => ?_)
                      · exact HBz
                      clear hK K
                      try simp only [Act.put, List.setIfInBounds_toArray, List.set_cons_zero, List.set_cons_succ]
                      refine wpAnyH_ready (rs := [2, 5]) (by kernel_rfl) (by simp) ?_
                      refine (AllReadyH.cons rfl (fun K hK => ?_) (AllReadyH.cons rfl (fun K hK => ?_) AllReadyH.nil))
                      focus
                        go_simp
                        refine hK.out _ _ ?_ (fun hHeld => ?_)
                        · exact hHeld
                        clear hK K
                        try simp only [Act.put, List.setIfInBounds_toArray, List.set_cons_zero, List.set_cons_succ]
                        refine wpAnyH_ready (rs := [5]) (by kernel_rfl) (by simp) ?_
                        refine (AllReadyH.cons rfl (fun K hK => ?_) AllReadyH.nil)
                        go_simp
                        refine hK.out _ _ ?_ (fun hHeld => ?_)
                        · exact hHeld
                        clear hK K
                        try simp only [Act.put, List.setIfInBounds_toArray, List.set_cons_zero, List.set_cons_succ]
                        refine take_dstH (i := 6) (d := 101) (v := ?_) rfl rfl (by kernel_rfl) (by kernel_rfl) (by kernel_rfl) (fun _ _ _ h => h) (by rfl) hHeld ?_ ?_
                        rotate_left
                        · intro w hSw; clear hSw; go_simp; try (with_reducible rfl)
                        try simp only [Act.put, List.setIfInBounds_toArray, List.set_cons_zero, List.set_cons_succ]
                        refine wpAnyH_done (by kernel_rfl) ?_ _
                      rotate_left 1
                      focus
                        go_simp
                        refine hK.out _ _ ?_ (fun hHeld => ?_)
                        · exact hHeld
                        clear hK K
                        try simp only [Act.put, List.setIfInBounds_toArray, List.set_cons_zero, List.set_cons_succ]
                        refine wpAnyH_ready (rs := [2]) (by kernel_rfl) (by simp) ?_
                        refine (AllReadyH.cons rfl (fun K hK => ?_) AllReadyH.nil)
                        go_simp
                        refine hK.out _ _ ?_ (fun hHeld => ?_)
                        · exact hHeld
                        clear hK K
                        try simp only [Act.put, List.setIfInBounds_toArray, List.set_cons_zero, List.set_cons_succ]
                        refine take_dstH (i := 6) (d := 101) (v := ?_) rfl rfl (by kernel_rfl) (by kernel_rfl) (by kernel_rfl) (fun _ _ _ h => h) (by rfl) hHeld ?_ ?_
                        rotate_left
                        · intro w hSw; clear hSw; go_simp; try (with_reducible rfl)
                        try simp only [Act.put, List.setIfInBounds_toArray, List.set_cons_zero, List.set_cons_succ]
                        refine wpAnyH_done (by kernel_rfl) ?_ _
                    all_goals
                      clear hcva hcvz HYA HQA
                      go_wp2_with fail
                      go_meet
                      case rel => exact HZ
                  · have k3 : (kd == 3) = false := by simpa using hk3
                    clear hk3
                    go_wp2_with fail
                    go_meet
                    case rel => exact ⟨bs, x, HR.out, HW.out, hlen, HB.out⟩
          case rest =>
            have HC := hcut
            clear hcut HR HW HB hlen
            obtain ⟨bs, x, hr, hw, hlen, hb⟩ := HC.out
            have HR := hide hr
            have HW := hide hw
            have HL := hide hlen
            have HB := hide hb
            obtain ⟨p2, cap2, h0, h1, _⟩ := hw
            clear hr hb HC hlen
            generalize hln : bs.length = n at *
            have hlf := fun w' (h : Rd A1 w' rb bs x) => left_rd rb bs x w' h
            rw [hln] at hlf
            have HLF := hide hlf
            clear hlf
            have HLN := hide hln
            clear hln
            go_upto_region 30 with fail
            go_quiet ((first
              | (go_at_call 25; exact Calls.quiet_of_same (HLF.out _ (by exact HR.out)))
              | (go_at_call 26; exact Calls.quiet_of_same (err_rd rb bs x _ (by exact HR.out)))
              | (go_at_call 27; exact Calls.quiet_of_same (end_at rb bs x _ (by exact HR.out)))
              | (go_at_call 28; exact Calls.quiet_of_same (rrend_any (A := fun k => k < w.heap.size) wb bs x _ (by exact HW.out)))))
            go_wp2
            go_roundg (lq - i)
            case measure => omega
            case rel =>
              refine ⟨i + 1, by go_num, by omega, by omega, bs, x, ?_, ?_, by rw [HLN.out]; exact HL.out, below_drewN HB.out nq⟩
              · exact HR.out
              · exact HW.out
        · go_wp2
          go_ret
          exact ⟨rfl, HB.out⟩

theorem walk (p : Option Addr) (cp : Nat) (xs : List Int) (q : Option Addr) (lq cq : Nat) (K N : Nat → Int) (w : World) (w0 : Arg w p cp xs) (b0 : ∀ a, p = some a → a.block < w.heap.size) (w1 : Asks w q lq cq K N) :
    Calls Try.prog 4 #[.slice p xs.length cp, .slice q lq cq] w fun e w' => e = .returned (.bool true) ∧ Below w.heap.size w w' := by
  by_cases h : 5000 < xs.length ∨ 200 < lq
  · exact walk_long p cp xs q lq cq w h
  · exact walk_in p cp xs q lq cq K N w w0 b0 w1 (by omega) (by omega)

theorem own : ownKnob Try.prog.godebug = none := by kernel_rfl
theorem laidOut : laidOutB Try.prog = true := by kernel_rfl
set_option maxRecDepth 100000 in
theorem lifted (os : Os) (started : os.Started) (H : Type) (enc : TypeId × Value → H) :
    ReturnsInHanded {} Try.checked os 4 .any (Rows.wireReadsSpec.pre6 enc Try.prog Try.f4 Rows.wireReadsRow.domain false) (Rows.wireReadsSpec.post enc Try.prog Try.f4 false true false false) := by
  refine returnsInHanded_of_change (C := Try.checked) own started (by kernel_rfl) Try.func4
    (ChangeSpec.witness6 (enc := enc) (C := Try.checked) false ⟨#[], #[.slice none 0 0, .slice none 0 0], []⟩ 8 (by kernel_rfl) (by kernel_rfl) (by kernel_rfl) (by kernel_rfl)) ?_
  intro W base args ds gs before hval0 hW hcnd _
  have hval : ∀ (j : Nat) t v, Try.f4.params[j]? = some t → args[j]? = some v → Value.okWide Try.prog W .any base t v := hval0
  have hW' := hW
  obtain ⟨p, q, hA0, hV, rfl, hfz, hnd⟩ := hW
  have hA : DataW.TrodAll enc Try.prog W 0 (fun _ => true) true Try.f4.params.toList args.toList ds p := hA0
  rw [Try.params4] at hA hval
  obtain ⟨v0, vs0, d0, ds0, p0, q0, hargs, rfl, rfl, h0, r0⟩ := trodAll_cons hA
  obtain ⟨v1, vs1, d1, ds1, p1, q1, rfl, rfl, rfl, h1, r1⟩ := trodAll_cons r0
  obtain ⟨rfl, rfl, rfl⟩ := trodAll_nil r1
  obtain rfl : args = #[v0, v1] := by cases args; simp_all
  obtain ⟨rfl, rfl⟩ := trodVars_none hV
  obtain ⟨a0, len0, cap0, rfl⟩ := okWide_slice Try.underlying23 (hval 0 23 v0 rfl rfl)
  have k0 := h0
  have lt0 : ∀ x ∈ p0, x.block < W.heap.size := by obtain ⟨m, hm⟩ := k0; exact DataW.trod_lt m _ _ _ hm
  obtain ⟨z0, hz0, w0⟩ : ∃ xs : List Int, xs.length = len0 ∧ Arg W a0 cap0 xs := by
    obtain ⟨fuel, hf⟩ := h0
    rcases open_ints Try.underlying23 Try.underlying5 (by kernel_rfl) hf with ⟨hcs, _⟩ | ⟨x, l, c, zs, hcs, _, hl, hm, hz, _, hcell, hwz⟩
    · simp [Value.cells] at hcs
      obtain ⟨rfl, rfl, rfl⟩ := hcs
      exact ⟨[], rfl, ⟨by simp, Or.inl rfl⟩, Nat.le_refl _, Nat.zero_le _, fun _ => rfl⟩
    · simp [Value.cells] at hcs
      obtain ⟨rfl, rfl, rfl⟩ := hcs
      exact bytes_of_row hl hm (by simpa using hz) hcell hwz
  subst hz0
  have b0 : ∀ a, a0 = some a → a.block < W.heap.size := fun a ha => by subst ha; exact okWide_lt Try.underlying23 (hval 0 23 _ rfl rfl)
  obtain ⟨a1, len1, cap1, rfl⟩ := okWide_slice Try.underlying29 (hval 1 29 v1 rfl rfl)
  have k1 := h1
  have lt1 : ∀ x ∈ p1, x.block < W.heap.size := by obtain ⟨m, hm⟩ := k1; exact DataW.trod_lt m _ _ _ hm
  obtain ⟨K1, N1, w1⟩ : ∃ K N, Asks W a1 len1 cap1 K N := by
    obtain ⟨fuel, hf⟩ := h1
    rcases Go.Deep.open_slice_pairs Try.underlying29 Try.underlying37 (by kernel_rfl) rfl rfl (by kernel_rfl) (by kernel_rfl) hf with ⟨hcs, _⟩ | ⟨x, l, c, mm, nn, V0, V1, D0, D1, Q0, Q1, hcs, _, hl, hm, hmm, _, hcell⟩
    · simp [Value.cells] at hcs
      obtain ⟨rfl, rfl, rfl⟩ := hcs
      exact ⟨fun _ => 0, fun _ => 0, Or.inl ⟨rfl, Nat.le_refl _, Nat.zero_le _⟩⟩
    · simp [Value.cells] at hcs
      obtain ⟨rfl, rfl, rfl⟩ := hcs
      exact asks_of_pairs Try.underlying3 hl hm (by simpa using hmm) hcell
  clear hA0 hval0
  refine (walk a0 cap0 z0 a1 len1 cap1 K1 N1 W w0 b0 w1).mono fun e W' ⟨he, bel⟩ => ?_
  subst he
  exact ⟨_, rfl, _, _, _, [], _, [], hW', trodAll_mk1 (shut_bool Try.underlying4 _), (trodAll_cons_mk (Below.trod laidOut (by kernel_rfl) (of_decide_eq_true (by kernel_rfl)) k0 bel lt0) (trodAll_cons_mk (Below.trod laidOut (by kernel_rfl) (of_decide_eq_true (by kernel_rfl)) k1 bel lt1) trodAll_mk0)), rfl, bel.frame _, fun h => by cases h⟩

theorem over : Rows.wireReadsRow.holds Try.pinned (OpenSpec.ofChange Rows.wireReadsSpec) :=
  OpenClaim.holds_of_wide 4 Try.f4 rfl rfl rfl rfl rfl rfl rfl ⟨rfl, rfl, rfl, rfl, rfl⟩ rfl rfl rfl rfl rfl (by kernel_rfl) Try.func4 (by kernel_rfl)
    (of_decide_eq_true (by kernel_rfl)) (by unfold Func.isWrapper; first | (rw [if_pos (by decide +kernel)]; kernel_rfl) | (rw [if_neg (by decide +kernel)]; exact ⟨rfl, rfl⟩))
    (fun os started H enc _ => lifted os started H enc)

end WireReadsProof

/-- A reader tells of any bytes what the document says, call by call, and how it stands behind each; what was handed in is written over. -/
theorem wireReads_holds : Rows.WireReadsSaid := WireReadsProof.over

#print axioms wireReads_holds
end Go.Proofs.Ytmkoefnnpficfaa
