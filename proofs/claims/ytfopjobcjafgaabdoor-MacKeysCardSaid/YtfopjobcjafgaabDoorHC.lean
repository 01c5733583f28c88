/-
  A walk: Sum of a hash: the digest of all that it has, which stays.
-/
import Derived.Test.YtfopjobcjafgaabDoorHB
namespace Go.Proofs.YtfopjobcjafgaabDoor
open Go.RowKit

theorem run_index26 (T : List Nat) (i x : Nat) (w : World) (hi : i < 8) (hx : (u32s T)[i]? = some (.int .u32 ((x : Nat) : Int))) :
    (Instr.index 51 (Value.agg (u32s T).toArray) (Value.int IntKind.i64 (i : Int))).run Tryd.prog w = .ok (.int .u32 ((x : Nat) : Int)) w := by
  obtain ⟨i0, hi0, hz0, hz1, hz2⟩ := info_parts info22s
  unfold Instr.index
  simp [asIntOf, run_underlying Tryd.underlying51 w, hi, Go.sizeOf, typeInfo, hi0, hz1, Go.part, hx]

theorem own_bi {w : World} {B : Nat} {v : Value} {xs : List Nat} (h : w.ownsRow B 5 1 v xs.length (u8s xs)) (hn : 0 < xs.length) :
    ∃ e cap, v = .slice (some ⟨e, 0, none⟩) xs.length cap ∧ B ≤ e ∧ xs.length ≤ cap ∧ cap ≤ maxLen ∧ BI w (some ⟨e, 0, none⟩) xs := by
  obtain ⟨e, cap, rfl, hB, _, hc, hm⟩ := own_shape h hn
  exact ⟨e, cap, rfl, hB, hc, hm, Or.inr ⟨e, 0, rfl, fun i hi => by rw [Nat.zero_add]; exact (h.cellAt i (by omega)).trans (u8s_at hi)⟩⟩

set_option maxHeartbeats 4000000 in
set_option maxRecDepth 100000 in
theorem hsum_of (hv : Value) (l D : List Nat) (w : World) (hI : IsH w hv l) (hln : l.length ≤ 100000) (hL : Laid w) (hD : sumF l = D) :
    Calls Tryd.prog 17 #[hv] w fun e w' => e = .returned (.agg (u8s D).toArray) ∧ Below w.heap.size w w' := by
  have hel : (endF l.length).length = 9 + padZ l.length := by simp [endF, be8_length]; omega
  have hz64 : padZ l.length < 64 := Nat.mod_lt _ (by omega)
  have heb : BytesN (endF l.length) := by
    intro x hx
    simp only [endF, List.mem_append] at hx
    rcases hx with (hx | hx) | hx
    · simp at hx; omega
    · rw [List.eq_of_mem_replicate hx]; omega
    · exact be8_bytes _ _ x hx
  have hpe := padF_end l
  have hpw := padF_whole l
  have hDl : D.length = 32 := by rw [← hD]; exact digestF_length _
  have hDa : ∀ i, i < 32 → D.getD i 0 = (hashTo (padF l) ((padF l).length / 64)).getD (i / 4) 0 / 2 ^ (24 - 8 * (i % 4)) % 256 := fun i hi => by rw [← hD]; exact digestF_at _ i hi
  have HCopy := hide (fun (u : World) (h1 : IsH u hv l) (h2 : Laid u) => copy_is hv l u h1 h2)
  have HEnd := hide (fun (v : World) => ending_any l.length v (by omega))
  have HWr := hide (fun (x : Nat) (p : Option Addr) (c : Nat) (v : World) (h1 : MadeH v x l) (h2 : BI v p (endF l.length)) (h3 : p = none → c = 0) (h4 : ∀ a, p = some a → a.block ≠ x) (h5 : (endF l.length).length ≤ c) (h6 : c ≤ maxLen) (h7 : Laid v) (h8 : 2 ≤ x) =>
    write_any x l p c (endF l.length) v h1 h2 h3 (fun a ha _ => h4 a ha) heb h5 h6 (by omega) h7 h8)
  have HSZ : Hid (∀ (v : World) (x : Nat), MadeH v x l → v.cell? ⟨x, 72, none⟩ = some (.int .i64 (l.length : Int))) := fun v x hM => by
    obtain ⟨ws, rest, hA, hR⟩ := hM
    exact hash_size hR.h8 hR.2.1 hA
  rw [← hpe] at HWr
  have HA := hide hI
  have HL := hide hL
  have hL2 := hL.size
  have DL := hide hDl
  have DA := hide hDa
  have HPW := hide hpw
  have HEL := hide hel
  clear hI hL hD hDl hDa hpe hpw hel heb
  generalize padF l = PF at *
  generalize endF l.length = E at *
  generalize hnn : l.length = n at *
  clear hnn
  go_enter Tryd.func17, Tryd.ntmps17
  go_upto_region 1 with fail
  rw [← u8s_zeros]
  have B1 : Hid (Below w.heap.size w (w.alloc Z32)) := (Below.refl _ _).alloc (Nat.le_refl _) _
  have A1 := hide (Arr.new w 25 (u8s (List.replicate 32 0)))
  have hs1 : Hid ((w.alloc Z32).heap.size = w.heap.size + 1) := by show _ = _; simp
  generalize w.alloc Z32 = w1 at *
  go_wp2_with fail
  refine (HCopy.out w1 (HA.out.kept B1.out) (HL.out.keptB (B := w.heap.size) hL2 B1.out)).mono ?_
  rintro e w2 ⟨rfl, hX2, hb2⟩
  have B2 : Hid (Below w.heap.size w w2) := B1.out.trans (hb2.mono B1.out.size)
  have A2 := hide (A1.out.kept hb2)
  have X2 := hide hX2
  have c72 := HSZ.out _ _ hX2
  have hXw2 := hX2.lt
  have HXW2 := hide hXw2
  have HLd2 := hide (HL.out.keptB (B := w.heap.size) hL2 B2.out)
  clear hX2 hb2 hXw2 HCopy A1 B1
  have hs1' := hs1.out
  generalize w1.heap.size = X at *
  have HX1 := hide hs1'
  clear hs1' hs1
  go_wp2_with fail
  refine (HEnd.out w2).mono ?_
  rintro e w3 ⟨ve, rfl, hown3, hb3⟩
  have hElen : 0 < E.length := by rw [HEL.out]; omega
  obtain ⟨eb, ec, rfl, heB, hec, hem, hbi⟩ := own_bi hown3 hElen
  have B3 : Hid (Below w.heap.size w w3) := B2.out.trans (hb3.mono B2.out.size)
  have A3 := hide (A2.out.kept hb3)
  have X3 := hide (X2.out.kept hb3)
  have HLd3 := hide (HL.out.keptB (B := w.heap.size) hL2 B3.out)
  have HBI := hide hbi
  have hne : Hid (eb ≠ X) := by have := HXW2.out; show _ ≠ _; omega
  have HEC := hide hec
  have HEM := hide hem
  clear hown3 hb3 hbi A2 X2 c72 HEnd B2 hec hem
  go_wp2_with fail
  refine (HWr.out X (some ⟨eb, 0, none⟩) ec w3 X3.out HBI.out (fun h => by cases h) (fun a ha => by cases ha; exact hne.out) HEC.out HEM.out HLd3.out (by have := HX1.out; omega)).mono ?_
  rintro e w4 ⟨rfl, ⟨ws', rest', hX4, hR4⟩, hg4⟩
  have hwX : w.heap.size ≠ X := by have := HX1.out; omega
  have A4 := hide (A3.out.grown' hg4 hwX)
  have B4 : Hid (Below w.heap.size w w4) := B3.out.grown hg4 B3.out.size (by intro k hk; cases hk; have := HX1.out; omega)
  have h8' : ws'.length = 8 := by rw [hR4.1]; exact hashTo_length _ _
  have hww' : Words ws' := by rw [hR4.1]; exact hashTo_words _ _
  have hDa := DA.out
  rw [← hR4.1] at hDa
  have DA' := hide hDa
  have XR := hide (hash_range hX4)
  have H8' := hide h8'
  have HW' := hide hww'
  have I26 : Hid ((Tryd.prog.info? 51).map (·.size) = some (u32s ws').length) := by show _ = _; rw [info26]; simp [u32s, h8']
  clear hX4 hR4 hg4 hDa DA A3 B3 X3 HWr HLd3 HLd2 h8' hww' HPW
  go_upto_region 4 with fail
  rw [← u8s_zeros]
  have B5 : Hid (Below w.heap.size w (w4.alloc Z32)) := B4.out.alloc B4.out.size _
  have A5 := hide (A4.out.alloc Z32)
  have XR5 := hide (World.rangeAt_alloc XR.out Z32)
  have O5 := hide (Arr.new w4 25 (u8s (List.replicate 32 0)))
  have HO5 : Hid (w.heap.size < w4.heap.size) := A4.out.lt
  clear A4 B4 XR
  generalize w4.alloc Z32 = w5 at *
  generalize w4.heap.size = O at *
  go_wp2_with (refine wpList_load_mid rfl 51 _ rfl X 0 rfl (u32s ws') _ XR5.out Tryd.underlying51 rfl I26.out ?_)
  go_loopg [21] 9 (fun f s21 wr => ∃ (i : Nat), s21 = .int .i64 i ∧ i ≤ 8 ∧ 8 - i < f ∧ Arr wr w.heap.size 25 (u8s (List.replicate 32 0)) ∧ Arr wr O 25 (u8s (part D 32 (4 * i))) ∧ Below w.heap.size w wr)
  case atStart => exact ⟨0, rfl, by omega, by omega, A5.out, O5.out, B5.out⟩
  case round =>
    clear A5 O5 B5 XR5
    obtain ⟨i, rfl, hi, hf, hA, hO, hB⟩ := hrel
    by_cases hi8 : i < 8
    · have hix := run_index26 ws' i (ws'.getD i 0) wr hi8 (u32s_at (by rw [H8'.out]; exact hi8))
      have ly := HW'.out.getD i
      have DI : Hid (∀ j, j < 4 → D.getD (4 * i + j) 0 = ws'.getD i 0 / 2 ^ (24 - 8 * j) % 256) := fun j hj => by
        rw [DA'.out (4 * i + j) (by omega), show (4 * i + j) / 4 = i by omega, show (4 * i + j) % 4 = j by omega]
      have HA := hide hA
      have HO := hide hO
      have HB := hide hB
      clear hA hO hB
      have hi8' : (i : Int) < 8 := by omega
      generalize ws'.getD i 0 = y at *
      go_wp2
      go_loopg [25] 5 (fun f s25 wr => ∃ (j : Nat), s25 = .int .i64 j ∧ j ≤ 4 ∧ 4 - j < f ∧ Arr wr w.heap.size 25 (u8s (List.replicate 32 0)) ∧ Arr wr O 25 (u8s (part D 32 (4 * i + j))) ∧ Below w.heap.size w wr)
      case atStart => exact ⟨0, rfl, by omega, by omega, HA.out, HO.out, HB.out⟩
      case round =>
        clear HA HO HB hix
        obtain ⟨j, rfl, hj, hfj, hA, hO, hB⟩ := hrel
        by_cases hj4 : j < 4
        · obtain ⟨q, hq⟩ : ∃ q, q = 4 * i + j := ⟨_, rfl⟩
          obtain ⟨sf, hsf⟩ : ∃ q, q = 24 - 8 * j := ⟨_, rfl⟩
          have hdv := DI.out j hj4
          rw [← hq, ← hsf] at hdv
          have ez : ∃ x, wr.cell? ⟨O, q, none⟩ = some (.int .u8 x) := ⟨_, (hO.cell q).trans (u8s_at (by rw [part_length _ _ _ DL.out (by omega)]; omega))⟩
          obtain ⟨xz, cz⟩ := ez
          have fz := hO.frozen q
          have HST := hide (hO.set q (.int .u8 ((D.getD q 0 : Nat) : Int)))
          rw [← hq, u8s_set, part_set _ _ _ DL.out (by omega)] at HST
          have e1 : (4 : Int) * (i : Int) + (j : Int) = (q : Int) := by omega
          have e2 : (24 : Int) - 8 * (j : Int) = (sf : Int) := by omega
          have pq : (q : Int) < 32 := by omega
          have pj : (j : Int) < 4 := by omega
          have hs24 : sf ≤ 24 := by omega
          have e3 : ((y : Int) / 2 ^ sf) % 256 = ((D.getD q 0 : Nat) : Int) := by rw [hdv]; simp
          have HA := hide hA
          have HB := hide hB
          have HQ := hide hq
          clear hA hO hB hsf hdv hq
          generalize D.getD q 0 = dv at *
          go_wp2
          go_roundg (4 - j)
          case measure => omega
          case rel =>
            refine ⟨j + 1, by go_num, by omega, by omega, HA.out.other _ _ (Nat.ne_of_lt HO5.out), ?_, HB.out.setCell (Nat.le_of_lt HO5.out) _⟩
            rw [show 4 * i + (j + 1) = q + 1 by have := HQ.out; omega]
            exact HST.out
        · have e : j = 4 := by omega
          subst e
          have HA := hide hA
          have HO := hide hO
          have HB := hide hB
          clear hA hO hB
          go_wp2
          go_roundg (8 - i)
          case measure => omega
          case rel => exact ⟨i + 1, by go_num, by omega, by omega, HA.out, HO.out, HB.out⟩
    · have e : i = 8 := by omega
      subst e
      have hO' := hO
      rw [show 4 * 8 = 32 from rfl, part_full _ _ DL.out] at hO'
      have HZ2 := hide hO'
      have HG0 := hide hA
      have HB := hide hB
      have HI32 : Hid ((Tryd.prog.info? 25).map (·.size) = some (u8s D).toArray.size) := by show _ = _; rw [info35]; simp [u8s, DL.out]
      have HO32 : Hid ((u8s (List.replicate 32 0)).toArray.size = (u8s D).toArray.size) := by show _ = _; simp [u8s, DL.out]
      clear hO hO' hA hB
      go_wp2_with (first
        | (refine wpList_load_row rfl 25 _ rfl O rfl 25 _ (0, 0) _ HZ2.out Tryd.underlying25 rfl HI32.out ?_)
        | (refine wpList_store_row rfl 25 _ _ rfl w.heap.size _ rfl rfl 25 _ HG0.out HI32.out HO32.out (all_u8s _) ?_))
      exact bodyPost_ret (v := .agg (u8s D).toArray) (results_cell_row Tryd.results17 _ _ w.heap.size 25 _ (0, 0) _ rfl (HG0.out.row _) Tryd.underlying25 rfl HI32.out) rfl ⟨rfl, below_setRow HB.out (Nat.le_refl _) HG0.out.lt _⟩

end Go.Proofs.YtfopjobcjafgaabDoor
