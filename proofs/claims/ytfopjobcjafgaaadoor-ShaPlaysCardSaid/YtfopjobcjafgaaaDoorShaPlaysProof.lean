/-
  ShaPlays, the tied card: whatever is done with hashes, a hash tells the digest of what it has, again and again, and how many bytes that is; a copy goes its own way (of more than 40 calls, or of more than 3000 bytes, nothing more is asked): the law returns true, and what is handed in stays. No condition but the two tables, which the card ties to the program's text.
-/
import Derived.Test.YtfopjobcjafgaaaDoorHE
import Derived.Test.YtfopjobcjafgaaaDoorHG
import Derived.Test.YtfopjobcjafgaaaDoorHL
import Derived.Test.YtfopjobcjafgaaaDoorFO
namespace Go.Proofs.YtfopjobcjafgaaaDoor
namespace ShaPlaysProof
open Go.ChangeShapes Go.WideShapes Go.ChangeAt Go.WideMaps Go.WideElems Go.RowKit

/-- what lies in memory: the hash, the row of all that it has -/
def St (W wr : World) (X : Nat) (v : Value) (l : List Nat) : Prop :=
  MadeH wr X l ∧ wr.ownsRow W.heap.size 5 1 v l.length (u8s l) ∧ W.heap.size ≤ X ∧ Below W.heap.size W wr ∧ l.length ≤ 3000 ∧ BytesN l

/-- a hash is no row of bytes -/
theorem own_ne {w : World} {B X : Nat} {v : Value} {n : Nat} {xs : List Value} {l : List Nat} (h : w.ownsRow B 5 1 v n xs) (hM : MadeH w X l) : v.ownBlock ≠ some X := by
  intro e
  obtain ⟨ws, rest, hA, _⟩ := hM
  rcases h.2 with ⟨rfl, _⟩ | ⟨g, cap, cur, rfl, hb, hg, _⟩
  · simp [Value.ownBlock] at e
  · simp [Value.ownBlock] at e
    subst e
    unfold Arr at hA
    rw [hA] at hg
    simp at hg

theorem made_keptR {w w' : World} {g : Nat} {l : List Nat} {r : Option Nat} (h : MadeH w g l) (hg : w.grownBy w' r) (hne : r ≠ some g) : MadeH w' g l := by
  obtain ⟨ws, rest, hA, hR⟩ := h
  exact ⟨ws, rest, (hg.block g hA.lt (fun e => hne e.symm)).trans hA, hR⟩

theorem bi_other (w : World) : BI (w.alloc (Obj.cells #[Value.int .u8 111, Value.int .u8 116, Value.int .u8 104, Value.int .u8 101, Value.int .u8 114] 5 (5, 6))) (some ⟨w.heap.size, 0, none⟩) [111, 116, 104, 101, 114] := by
  refine Or.inr ⟨w.heap.size, 0, rfl, fun i hi => ?_⟩
  have h := heap_at w (Obj.cells #[Value.int .u8 111, Value.int .u8 116, Value.int .u8 104, Value.int .u8 101, Value.int .u8 114] 5 (5, 6)) _ rfl
  match i, hi with
  | 0, _ => exact cell_of_row _ _ 0 _ _ _ h
  | 1, _ => exact cell_of_row _ _ 1 _ _ _ h
  | 2, _ => exact cell_of_row _ _ 2 _ _ _ h
  | 3, _ => exact cell_of_row _ _ 3 _ _ _ h
  | 4, _ => exact cell_of_row _ _ 4 _ _ _ h

set_option maxHeartbeats 8000000 in
set_option maxRecDepth 100000 in
theorem walk (sp : Option Addr) (k cc : Nat) (K : Nat → Int) (P : Nat → Option Addr) (C : Nat → Nat) (B : Nat → List Nat) (W : World) (hP : Ops W sp k K P C B) (hL : Laid W) :
    Calls Tryd.prog 6 #[.slice sp k cc] W fun e W' => e = .returned (.bool true) ∧ Below W.heap.size W W' := by
  have hL2 := hL.size
  have HL := hide hL
  have HSL := hide hP.1
  have HPC := hide hP.2.1
  have hkm := hP.2.2
  unfold maxLen at hkm
  clear hP hL
  have HLB : Hid (∀ v, Below W.heap.size W v → Laid v) := fun v hb => HL.out.keptB (B := W.heap.size) hL2 hb
  go_enter Tryd.func6, Tryd.ntmps6
  go_wp2_with fail
  refine (known_any _ HL.out).mono ?_
  rintro e w1 ⟨rfl, hb1⟩
  have B1 := hide hb1
  clear hb1
  go_wp2_with fail
  refine (new_any w1 (HLB.out w1 B1.out)).mono ?_
  rintro e w2 ⟨rfl, hw2⟩
  have S2 : Hid (St W w2 w1.heap.size (.slice none 0 0) []) := by
    show St _ _ _ _ _
    rw [hw2]
    exact ⟨made_new, World.ownsRow_nil _ _ _ _, B1.out.size, B1.out.alloc B1.out.size _, by simp, fun x hx => by cases hx⟩
  clear hw2 B1
  generalize w1.heap.size = X0 at *
  go_wp2
  go_loopg [5, 4, 3] (k + 1) (fun f s5 s4 s3 wr => ∃ (i : Nat) (v : Value) (X : Nat) (l : List Nat), s5 = .int .i64 i ∧ v = s4 ∧ s3 = .pointer (some ⟨X, 0, none⟩) ∧ i ≤ k ∧ k - i < f ∧ i ≤ 40 ∧ St W wr X v l)
  case atStart => exact ⟨0, _, X0, [], rfl, rfl, rfl, by omega, by omega, by omega, S2.out⟩
  case round =>
    clear S2
    obtain ⟨i, v, X, l, rfl, rfl, rfl, hik, hf, hi40, hS⟩ := hrel
    have HS := hide hS
    obtain ⟨pv, cv, rfl, hpv, hbv⟩ := own_piece hS.2.1 hS.2.2.2.2.2
    have hln := hS.2.2.2.2.1
    have HPV := hide hpv
    clear hS hpv hbv
    by_cases hlt : i < k
    · have hlt' : (i : Int) < (k : Int) := by omega
      by_cases h40 : i < 40
      · have h40' : decide ((40 : Int) ≤ (i : Int)) = false := by simp; omega
        rcases HSL.out with h0 | ⟨q, o, rfl, hcell⟩
        · omega
        have hq := hcell i hlt
        have hk' := (HS.out.2.2.2.1.cell (block_lt_of_cell hq.1)).trans hq.1
        have hq' := (HS.out.2.2.2.1.cell (block_lt_of_cell hq.2)).trans hq.2
        have HPI := hide (HPC.out i hlt)
        have HQC : Hid (∀ v, Below W.heap.size W v → v.cell? ⟨q, o + i * 2 + 1, none⟩ = some (.slice (P i) (B i).length (C i))) := fun v hb => (hb.cell (block_lt_of_cell hq.2)).trans hq.2
        clear hq hcell
        generalize hJl : l.length = n at *
        have HJl := hide hJl
        generalize hBl : (B i).length = m at *
        have HBl := hide hBl
        clear hJl hBl
        generalize K i = kd at *
        by_cases hfit : m ≤ 3000 - n
        · have hfit' : decide ((3000 : Int) - (n : Int) < (m : Int)) = false := by simp; omega
          go_upto_block 2 with fail
          clear h40' hfit'
          go_cut [4, 3] (fun s4 s3 wc => ∃ (v : Value) (X : Nat) (l : List Nat), v = s4 ∧ s3 = .pointer (some ⟨X, 0, none⟩) ∧ Hid (St W wc X v l))
          case first =>
            by_cases hk0 : kd = 0
            · subst hk0
              clear hk' hq'
              have hq1 := HQC.out (wr.alloc (Obj.cells #[] 5)) (HS.out.2.2.2.1.alloc HS.out.2.2.2.1.size _)
              have hXr : Hid (X < wr.heap.size) := HS.out.1.lt
              go_wp2_with (at_builtin; refine wpList_append_bytes rfl (.tmp 41) (.tmp 46) rfl wr.heap.size _ [] rfl 0 rfl (World.ownsRow_made wr #[] 0 (Nat.le_refl _) (Nat.zero_le _) rfl) (P i) m (C i) (B i) HBl.out rfl ((HPI.out.1.kept HS.out.2.2.2.1).kept ((Below.refl _ _).alloc (Nat.le_refl _) _)) HPI.out.2.1 (by omega) (by simp) ?_)
              intro v2 w2 hown hgrow
              have b2 : Hid (Below wr.heap.size wr w2) := ((Below.refl _ wr).alloc (Nat.le_refl _) _).trans (grown_below hgrow (by simp) (by intro k hk; simp [Value.ownBlock] at hk; omega))
              try rw [List.nil_append] at hown
              try rw [Nat.zero_add] at hown
              obtain ⟨p2, c2, hv2, hp2, hq2⟩ := own_piece (l := B i) (by rw [HBl.out]; exact hown) HPI.out.2.2.1
              rw [HBl.out] at hv2
              subst hv2
              have O2 := hide hown
              have P2 := hide hp2
              have Q2 := hide hq2
              have B2 : Hid (Below W.heap.size W w2) := HS.out.2.2.2.1.trans (b2.out.mono HS.out.2.2.2.1.size)
              have HW := hide (write_any X l p2 c2 (B i) w2 (HS.out.1.kept b2.out) P2.out.1 P2.out.2.1 (fun a ha _ => by have h1 := (Q2.out a ha).1; have h2 := hXr.out; omega) P2.out.2.2.1 P2.out.2.2.2.1 P2.out.2.2.2.2 (by rw [HJl.out, HBl.out]; omega) (HLB.out w2 B2.out) (by have h1 := HS.out.2.2.1; omega))
              rw [HBl.out] at HW
              have A2 : Hid (w2.ownsRow W.heap.size 5 1 (.slice pv n cv) n (u8s l)) := by
                show World.ownsRow _ _ _ _ _ _ _
                have h := own_below HS.out.2.1 b2.out
                rw [HJl.out] at h
                exact h
              clear hown hgrow hp2 hq2 hq1
              go_wp2_with fail
              refine HW.out.mono ?_
              rintro e w3 ⟨rfl, hM3, hg3⟩
              have M3 := hide hM3
              have O3 : Hid (w3.ownsRow wr.heap.size 5 1 (.slice p2 m c2) m (u8s (B i))) := O2.out.kept hg3 (Or.inr (own_ne O2.out (HS.out.1.kept b2.out)))
              have A3 : Hid (w3.ownsRow W.heap.size 5 1 (.slice pv n cv) n (u8s l)) := A2.out.kept hg3 (Or.inr (own_ne A2.out (HS.out.1.kept b2.out)))
              have B3 : Hid (Below W.heap.size W w3) := B2.out.grown hg3 B2.out.size (by intro k hk; cases hk; exact HS.out.2.2.1)
              have HVL : Hid (∀ g, wr.heap.size ≤ g → (Value.slice pv n cv).ownBlock ≠ some g) := fun g hg e => by
                have h2 := (HS.out.2.1.lt g e).2
                omega
              clear hM3 hg3 HW O2 P2 B2 A2 b2
              go_wp2
              go_loopg [7] (m + 1) (fun f s7 wx => ∃ (j : Nat) (zs : List Nat), s7 = .int .i64 j ∧ j ≤ m ∧ m - j < f ∧ zs.length = m ∧ wx.ownsRow wr.heap.size 5 1 (.slice p2 m c2) m (u8s zs) ∧ MadeH wx X (l ++ B i) ∧ wx.ownsRow W.heap.size 5 1 (.slice pv n cv) n (u8s l) ∧ Below W.heap.size W wx)
              case atStart => exact ⟨0, B i, rfl, by omega, by omega, HBl.out, O3.out, M3.out, A3.out, B3.out⟩
              case round =>
                clear O3 M3 A3 B3
                obtain ⟨j, zs, rfl, hjm, hjf, hzl, ho, hm, ha, hb⟩ := hrel
                have HO := hide ho
                have HM := hide hm
                have HA := hide ha
                have HB := hide hb
                have HZL := hide hzl
                clear ho hm ha hb hzl
                by_cases hjlt : j < m
                · obtain ⟨g, c, hv, hg, hgs, _, _⟩ := own_shape HO.out (by omega)
                  simp only [Value.slice.injEq] at hv
                  obtain ⟨rfl, _, rfl⟩ := hv
                  have ci := (HO.out.cellAt j (by omega)).trans (u8s_at (by rw [HZL.out]; exact hjlt))
                  have fi := HO.out.frozenAt j
                  have hjlt' : (j : Int) < (m : Int) := by omega
                  have HG := hide hg
                  clear hg hgs
                  go_wp2
                  go_roundg (m - j)
                  case measure => omega
                  case rel =>
                    have h2 := HO.out.stored j (.int .u8 7)
                    have e7 := u8s_set zs j 7
                    rw [show ((7 : Nat) : Int) = 7 from rfl] at e7
                    rw [e7] at h2
                    refine ⟨j + 1, zs.set j 7, by go_num, by omega, by omega, by simpa using HZL.out, h2.1, ?_, ?_, HB.out.grown h2.2 HB.out.size (by intro k hk; cases hk; have h3 := HG.out; have h4 := HS.out.2.2.2.1.size; omega)⟩
                    · exact HM.out.grown h2.2 (by have h3 := HG.out; have h4 := hXr.out; omega)
                    · exact HA.out.kept h2.2 (Or.inr (HVL.out g HG.out))
                · have hjlt' : ¬ (j : Int) < (m : Int) := by omega
                  have hq2 := HQC.out wr HB.out
                  go_wp2_with (at_builtin; refine wpList_append_bytes rfl (.tmp 60) (.tmp 65) rfl W.heap.size _ l rfl n HJl.out HA.out (P i) m (C i) (B i) HBl.out rfl (HPI.out.1.kept HB.out) HPI.out.2.1 (by omega) HB.out.size ?_)
                  intro v5 w5 hown hgrow
                  have S5 : Hid (St W w5 X v5 (l ++ B i)) := by
                    refine ⟨made_keptR HM.out hgrow (own_ne HA.out HM.out), by rw [List.length_append, HJl.out, HBl.out]; exact hown, HS.out.2.2.1, HB.out.grown hgrow HB.out.size (fun k hk => (HA.out.lt k hk).1), by rw [List.length_append, HJl.out, HBl.out]; omega, bytes_append HS.out.2.2.2.2.2 HPI.out.2.2.1⟩
                  clear hown hgrow
                  go_wp2_with fail
                  go_meet
                  case rel => exact ⟨v5, X, _, rfl, rfl, S5⟩
            · have k0 : (kd == 0) = false := by simpa using hk0
              clear hk0 hq'
              by_cases hk1 : kd = 1
              · subst hk1
                have HSum := hide (hsum_of (.pointer (some ⟨X, 0, none⟩)) l (sumF l) wr (Or.inl ⟨X, rfl, HS.out.1⟩) (by rw [HJl.out]; omega) (HLB.out wr HS.out.2.2.2.1) rfl)
                have HRef := hide (fun (v : World) (h : Piece v pv cv l) => refsum_of pv cv l v h.1 h.2.1 (by rw [HJl.out]; omega) h.2.2.1)
                rw [HJl.out] at HRef
                have HE := hide (eq_self (sumF l) (sumF_length _) (sumF_bytes _))
                generalize sumF l = D at *
                go_wp2_with fail
                refine HSum.out.mono ?_
                rintro e w6 ⟨rfl, hb6⟩
                have b6 := hide hb6
                clear hb6 HSum
                go_wp2_with fail
                refine (HRef.out w6 (HPV.out.kept b6.out)).mono ?_
                rintro e w7 ⟨rfl, hb7⟩
                have b7 : Hid (Below wr.heap.size wr w7) := b6.out.trans (hb7.mono b6.out.size)
                clear hb7 b6 HRef
                go_wp2_with (refine wpList_neq_agg rfl 35 35 (.tmp 70) (.tmp 72) rfl (u8s D).toArray (u8s D).toArray rfl rfl true (guard35n _ _ _ _ _) (HE.out _) ?_)
                go_meet
                case rel =>
                  refine ⟨_, X, l, rfl, rfl, HS.out.1.kept b7.out, ?_, HS.out.2.2.1, HS.out.2.2.2.1.trans (b7.out.mono HS.out.2.2.2.1.size), HS.out.2.2.2.2⟩
                  have h := own_below HS.out.2.1 b7.out
                  rw [HJl.out] at h ⊢
                  exact h
              · have k1 : (kd == 1) = false := by simpa using hk1
                clear hk1
                by_cases hk2 : kd = 2
                · subst hk2
                  have HC := hide (copy_is (.pointer (some ⟨X, 0, none⟩)) l wr (Or.inl ⟨X, rfl, HS.out.1⟩) (HLB.out wr HS.out.2.2.2.1))
                  go_wp2_with fail
                  refine HC.out.mono ?_
                  rintro e w4 ⟨rfl, hM4, hb4⟩
                  have M4 := hide hM4
                  have b4 := hide hb4
                  have hXr : Hid (X < wr.heap.size) := HS.out.1.lt
                  have HVL : Hid ((Value.slice pv n cv).ownBlock ≠ some wr.heap.size) := fun e => by
                    have h2 := (HS.out.2.1.lt _ e).2
                    omega
                  clear hM4 hb4 HC
                  have B4 : Hid (Below W.heap.size W w4) := HS.out.2.2.2.1.trans (b4.out.mono HS.out.2.2.2.1.size)
                  have kc := fun (w : World) (C : Array Value) (n c : Nat) => Lib.run_convert_bytes_const (P := Tryd.prog) w 30 5 C n c Tryd.underlying30 Tryd.underlying5
                  go_wp2_with fail
                  clear kc
                  have b5 : Hid (Below w4.heap.size w4 (w4.alloc (Obj.cells #[Value.int .u8 111, Value.int .u8 116, Value.int .u8 104, Value.int .u8 101, Value.int .u8 114] 5 (5, 6)))) := (Below.refl _ _).alloc (Nat.le_refl _) _
                  have BI5 := hide (bi_other w4)
                  have X4 : Hid (MadeH w4 X l) := HS.out.1.kept b4.out
                  refine (write_any X l (some ⟨w4.heap.size, 0, none⟩) 5 [111, 116, 104, 101, 114] _ (X4.out.kept b5.out) BI5.out (fun h => by cases h) (fun a ha _ => by cases ha; have := X4.out.lt; exact Nat.ne_of_gt this) (fun x hx => by simp at hx; omega) (Nat.le_refl _) (by unfold maxLen; omega) (by rw [HJl.out]; simp; omega) (HLB.out _ (B4.out.trans (b5.out.mono B4.out.size))) (by have h1 := HS.out.2.2.1; omega)).mono ?_
                  rintro e w6 ⟨rfl, hM6, hg6⟩
                  have S6 : Hid (St W w6 wr.heap.size (.slice pv n cv) l) := by
                    refine ⟨(M4.out.kept b5.out).grown hg6 (Nat.ne_of_gt hXr.out), ?_, HS.out.2.2.2.1.size, (B4.out.trans (b5.out.mono B4.out.size)).grown hg6 (B4.out.trans (b5.out.mono B4.out.size)).size (by intro k hk; cases hk; exact HS.out.2.2.1), by rw [HJl.out]; exact hln, HS.out.2.2.2.2.2⟩
                    have h := own_below (own_below HS.out.2.1 b4.out) b5.out
                    have h' := h.kept hg6 (Or.inr (own_ne h (X4.out.kept b5.out)))
                    rw [HJl.out] at h' ⊢
                    exact h'
                  clear hM6 hg6 M4 b4 b5 BI5 X4 B4
                  go_wp2_with fail
                  go_meet
                  case rel => exact ⟨_, _, _, rfl, rfl, S6⟩
                · have k2 : (kd == 2) = false := by simpa using hk2
                  clear hk2
                  go_wp2_with fail
                  go_meet
                  case rel => exact ⟨_, X, l, rfl, rfl, HS⟩
          case rest =>
            clear HS HPV HPI HQC HJl HBl hln hfit hq' hk'
            obtain ⟨v', X', l', hv', rfl, hS⟩ := hcut
            obtain ⟨pv', cv', hv2, hpv, hbv⟩ := own_piece hS.out.2.1 hS.out.2.2.2.2.2
            rw [hv2] at hv'
            have HS : Hid (St W wc X' (.slice pv' l'.length cv') l') := by rw [← hv2]; exact hS
            subst hv'
            clear hv2 hpv hbv hS
            have HLn := hide (len_is (.pointer (some ⟨X', 0, none⟩)) l' wc (Or.inl ⟨X', rfl, HS.out.1⟩))
            generalize hJl : l'.length = n' at *
            have HJl := hide hJl
            clear hJl
            go_wp2_with fail
            refine HLn.out.mono ?_
            rintro e w8 ⟨rfl, hw8⟩
            have S8 : Hid (St W w8 X' (.slice pv' n' cv') l') := by rw [hw8]; exact HS
            clear hw8 HS HLn
            go_wp2
            go_roundg (k - i)
            case measure => omega
            case rel => exact ⟨i + 1, _, X', l', by go_num, rfl, rfl, by omega, by omega, by omega, S8.out⟩
        · have hfit' : decide ((3000 : Int) - (n : Int) < (m : Int)) = true := by simp; omega
          go_wp2
          go_ret
          exact ⟨rfl, HS.out.2.2.2.1⟩
      · have h40' : decide ((40 : Int) ≤ (i : Int)) = true := by simp; omega
        go_wp2
        go_ret
        exact ⟨rfl, HS.out.2.2.2.1⟩
    · have e : i = k := by omega
      subst e
      have hlt' : ¬ (i : Int) < (i : Int) := by omega
      have HSum := hide (hsum_of (.pointer (some ⟨X, 0, none⟩)) l (sumF l) wr (Or.inl ⟨X, rfl, HS.out.1⟩) (by omega) (HLB.out wr HS.out.2.2.2.1) rfl)
      have HRef := hide (fun (v : World) (h : Piece v pv cv l) => refsum_of pv cv l v h.1 h.2.1 (by omega) h.2.2.1)
      have HE := hide (eq_self (sumF l) (sumF_length _) (sumF_bytes _))
      generalize sumF l = D at *
      go_wp2_with fail
      refine HSum.out.mono ?_
      rintro e w6 ⟨rfl, hb6⟩
      have b6 := hide hb6
      clear hb6 HSum
      go_wp2_with fail
      refine (HRef.out w6 (HPV.out.kept b6.out)).mono ?_
      rintro e w7 ⟨rfl, hb7⟩
      have b7 : Hid (Below wr.heap.size wr w7) := b6.out.trans (hb7.mono b6.out.size)
      clear hb7 b6 HRef
      go_wp2_with (refine wpList_eql_agg rfl 35 35 (.tmp 91) (.tmp 93) rfl (u8s D).toArray (u8s D).toArray rfl rfl true (guard35 _ _ _ _ _) (HE.out _) ?_)
      go_ret
      exact ⟨rfl, HS.out.2.2.2.1.trans (b7.out.mono HS.out.2.2.2.1.size)⟩

set_option maxRecDepth 100000 in
theorem lifted (os : Os) (started : os.Started) (H : Type) (enc : TypeId × Value → H) :
    ReturnsInHanded {} Tryd.checked os 6 .any (fun w args => (Rows.shaPlaysSpec.pre enc Tryd.prog Tryd.f6 [] false w args ∧ laidMetH Tryd.prog laid2 w) ∧ sizedMet enc Tryd.prog Tryd.f6 (OpenSpec.ofChange Rows.shaPlaysSpec) false w args)
      (Rows.shaPlaysSpec.post enc Tryd.prog Tryd.f6 false true false false) := by
  refine returnsInHanded_of_change_and (C := Tryd.checked) (X := fun w _ => laidMetH Tryd.prog laid2 w) (fun _ _ _ hh h => h.of_heap hh) own started (by kernel_rfl) Tryd.func6
    (ChangeSpec.witness_shaped (enc := enc) (C := Tryd.checked) (os := os) (X := fun w _ => laidMetH Tryd.prog laid2 w) false (World.doorLaid Tryd.prog 400 os) #[.slice none 0 0] 8 rfl (World.shaped_of_RefB (by kernel_rfl) (by kernel_rfl)) (by kernel_rfl) (by kernel_rfl) (by kernel_rfl) (door_met os _)) ?_
  intro W base args ds gs before hval0 hW _ _ hL _
  have hval : ∀ (j : Nat) t v, Tryd.f6.params[j]? = some t → args[j]? = some v → Value.okWide Tryd.prog W .any base t v := hval0
  have hW' := hW
  obtain ⟨p, q, hA0, hV, rfl, hfz, hnd⟩ := hW
  have hA : DataW.TrodAll enc Tryd.prog W 0 (fun _ => true) true Tryd.f6.params.toList args.toList ds p := hA0
  rw [Tryd.params6] at hA hval
  obtain ⟨v0, vs0, d0, ds0, p0, q0, hargs, rfl, rfl, h0, r0⟩ := trodAll_cons hA
  obtain ⟨rfl, rfl, rfl⟩ := trodAll_nil r0
  obtain rfl : args = #[v0] := by cases args; simp_all
  obtain ⟨rfl, rfl⟩ := trodVars_none hV
  obtain ⟨a0, len0, cap0, rfl⟩ := okWide_slice Tryd.underlying39 (hval 0 39 v0 rfl rfl)
  have k0 := h0
  have lt0 : ∀ x ∈ p0, x.block < W.heap.size := by obtain ⟨m, hm⟩ := k0; exact DataW.trod_lt m _ _ _ hm
  obtain ⟨fuel0, hf0⟩ := h0
  obtain ⟨a0', len0', cap0', K0, P0, C0, B0, hcs0, w0⟩ := ops_of hf0
  simp [Value.cells] at hcs0
  obtain ⟨rfl, rfl, rfl⟩ := hcs0
  clear hf0
  clear hA0 hval0
  refine (walk a0 len0 cap0 K0 P0 C0 B0 W w0 (of_laid hL)).mono fun e W' ⟨he, bel⟩ => ?_
  subst he
  exact ⟨_, rfl, _, _, _, [], _, [], hW', trodAll_mk1 (shut_bool Tryd.underlying4 _), (trodAll_cons_mk (Below.trod laidOut (by kernel_rfl) (of_decide_eq_true (by kernel_rfl)) k0 bel lt0) trodAll_mk0), rfl, bel.frame _, fun h => by cases h⟩

theorem row : Rows.ShaPlaysSaid :=
  OpenClaim.holds_of_wide 6 Tryd.f6 rfl rfl rfl rfl rfl rfl rfl ⟨rfl, rfl, rfl, rfl, rfl⟩ rfl rfl rfl rfl rfl (by kernel_rfl) Tryd.func6 (by kernel_rfl)
    (of_decide_eq_true (by kernel_rfl)) (by unfold Func.isWrapper; first | (rw [if_pos (by decide +kernel)]; kernel_rfl) | (rw [if_neg (by decide +kernel)]; exact ⟨rfl, rfl⟩))
    (fun os started H enc _ => lifted os started H enc)

theorem card : Rows.ShaPlaysCardSaid :=
  Claim7.holds_tied_plain_at .later [] [.data, .data] true (true, Rows.shaPlaysCard.stood.harness.2) false
    row (fun _ h => by cases h) (by kernel_rfl) (fun _ h => by cases h) shaPlays_row_tie rfl ⟨rfl, rfl⟩ (by kernel_rfl) rfl
    (fun f fn hf hfn => by
      obtain rfl : f = 6 := Option.some.inj ((show Tryd.prog.funcNamed "oriel/oriellaw02.ShaPlays" = some 6 by kernel_rfl).symm.trans hf) |>.symm
      obtain rfl : fn = Tryd.f6 := (Option.some.inj (Tryd.func6.symm.trans hfn)).symm
      exact ⟨by kernel_rfl, fun j t ht => by
        rw [Tryd.params6] at ht
        have hm : t ∈ [39] := by simpa using Array.mem_of_getElem? ht
        have hall : ([39].all fun u => !Tryd.prog.wantsStandIn u) = true := by kernel_rfl
        exact (show Tryd.prog.wantsStandIn t = false by simpa using List.all_eq_true.1 hall t hm)⟩)
    (by kernel_rfl)

end ShaPlaysProof

theorem shaPlays_holds : Rows.ShaPlaysCardSaid := ShaPlaysProof.card
#print axioms shaPlays_holds

end Go.Proofs.YtfopjobcjafgaaaDoor
