/-
  Walks of the reference's numbers: digits, times, above, Prime, root, Start, Turn: what they tell, whatever world they are called in.
-/
import Derived.Test.YtfopjobcjafgaabDoorSA
import Derived.Test.YtfopjobcjafgaabDoorChecked
import Derived.WalkKit
import Derived.WalkSpells
import Derived.WalkLawsBesides
import Derived.RegionTactic
import Derived.BigRegion
import Derived.Deep.LoopGhost
namespace Go.Proofs.YtfopjobcjafgaabDoor
open Go.RowKit

theorem infoU64 : (Tryd.prog.info? 48).map (fun i => (i.zero, i.size, i.bytes)) = some (some (.int .u64 0), 1, 8) := by kernel_rfl

/-- the digits l lie in a slice -/
def Dg (w : World) (v : Value) (l : List Nat) : Prop :=
  ∃ g cap, v = .slice (some ⟨g, 0, none⟩) l.length cap ∧ l.length ≤ cap ∧ cap ≤ maxLen ∧ ∀ i, i < l.length → w.cell? ⟨g, i, none⟩ = some (.int .u64 ((l.getD i 0 : Nat) : Int))

def u64s (l : List Nat) : List Value := l.map fun d => Value.int .u64 ((d : Nat) : Int)

theorem u64s_length (l : List Nat) : (u64s l).length = l.length := by simp [u64s]
theorem u64s_at {l : List Nat} {i : Nat} (h : i < l.length) : (u64s l)[i]? = some (.int .u64 ((l.getD i 0 : Nat) : Int)) := by simp [u64s, List.getD, h]
theorem u64s_set (l : List Nat) (i x : Nat) : (u64s l).set i (.int .u64 ((x : Nat) : Int)) = u64s (l.set i x) := by simp [u64s, List.map_set]

theorem grown_below {B : Nat} {a b : World} {r : Option Nat} (h : a.grownBy b r) (hB : B ≤ a.heap.size) (hr : ∀ k, r = some k → B ≤ k) : Below B a b :=
  (Below.refl B a).grown h hB hr
theorem grown_trans {a b c : World} {r : Option Nat} (h : a.grownBy b r) (k : b.grownBy c r) : a.grownBy c r :=
  ⟨k.os.trans h.os, k.tape.trans h.tape, k.output.trans h.output, Nat.le_trans h.size k.size, fun i hi hr => (k.block i (Nat.lt_of_lt_of_le hi h.size) hr).trans (h.block i hi hr)⟩

theorem grown_drew {a b : World} {r : Option Nat} (h : a.grownBy b r) : a.grownBy b.drew r := ⟨h.os, h.tape, h.output, h.size, h.block⟩

theorem own_shape {w : World} {B : Nat} {e : TypeId} {v : Value} {n : Nat} {xs : List Value} (h : w.ownsRow B e 1 v n xs) (hn : 0 < n) :
    ∃ g cap, v = .slice (some ⟨g, 0, none⟩) n cap ∧ B ≤ g ∧ g < w.heap.size ∧ n ≤ cap ∧ cap ≤ maxLen := by
  rcases h.2 with ⟨_, h0⟩ | ⟨g, cap, cur, rfl, hB, hg, hnc, hcm, _⟩
  · omega
  · refine ⟨g, cap, rfl, hB, ?_, hnc, hcm⟩
    by_cases hlt : g < w.heap.size
    · exact hlt
    · rw [Array.getElem?_eq_none (by omega)] at hg; cases hg

theorem Dg.of_own {w : World} {B : Nat} {v : Value} {l : List Nat} (h : w.ownsRow B 48 1 v l.length (u64s l)) (hn : 0 < l.length) : Dg w v l := by
  obtain ⟨g, cap, rfl, _, _, hc, hm⟩ := own_shape h hn
  exact ⟨g, cap, rfl, hc, hm, fun i hi => (h.cellAt i (by omega)).trans (u64s_at hi)⟩

theorem Dg.kept {w w' : World} {v : Value} {l : List Nat} (h : Dg w v l) (hb : Below w.heap.size w w') : Dg w' v l := by
  obtain ⟨g, cap, rfl, hc, hm, hcell⟩ := h
  exact ⟨g, cap, rfl, hc, hm, fun i hi => (hb.cell (block_lt_of_cell (hcell i hi))).trans (hcell i hi)⟩

def digs : Nat → Nat → List Nat
  | 0, _ => []
  | i + 1, n => digs i n ++ [n / 65536 ^ i % 65536]

theorem digs_length (i n : Nat) : (digs i n).length = i := by induction i with
  | zero => rfl
  | succ i ih => simp [digs, ih]

theorem digs_four (n : Nat) : digs 4 n = digitsF n := by
  simp [digs, digitsF, Nat.div_div_eq_div_mul]

set_option maxHeartbeats 1000000 in
set_option maxRecDepth 100000 in
theorem digits_any (n : Nat) (hn : n < 18446744073709551616) (w : World) :
    Calls Tryd.prog 40 #[.int .u64 n] w fun e w' => ∃ v, e = .returned v ∧ Dg w' v (digitsF n) ∧ Below w.heap.size w w' := by
  obtain ⟨i0, hi, hz0, hz1, hz2⟩ := info_parts infoU64
  go_enter Tryd.func40, Tryd.ntmps40
  go_wp2
  go_loopg [0, 3, 4] 5 (fun k s0 s3 s4 wr => ∃ (i : Nat) (v3 : Value), v3 = s3 ∧ s0 = .int .u64 ((n / 65536 ^ i : Nat) : Int) ∧ s4 = .int .i64 i ∧ i ≤ 4 ∧ 4 - i < k ∧
    wr.ownsRow w.heap.size 48 1 v3 i (u64s (digs i n)) ∧ Below w.heap.size w wr)
  case atStart => exact ⟨0, _, rfl, by simp, rfl, by omega, by omega, World.ownsRow_nil _ _ _ _, Below.refl _ _⟩
  case round =>
    obtain ⟨i, v3, rfl, rfl, rfl, hi4, hk, ho, hb⟩ := hrel
    have HO : Hid (wr.ownsRow w.heap.size 48 1 v3 i (u64s (digs i n))) := ho
    have hmd : n / 65536 ^ i < 18446744073709551616 := Nat.lt_of_le_of_lt (Nat.div_le_self _ _) hn
    have HS : Hid (n / 65536 ^ (i + 1) = n / 65536 ^ i / 65536) := by show _ = _; rw [Nat.pow_succ, Nat.div_div_eq_div_mul]
    clear ho
    by_cases hlt : i < 4
    · have HE : Hid (u64s (digs (i + 1) n) = u64s (digs i n) ++ [.int .u64 ((n / 65536 ^ i % 65536 : Nat) : Int)]) := by show _ = _; simp [u64s, digs]
      generalize hm : n / 65536 ^ i = m at *
      clear hm
      go_wp2_with (at_builtin; refine wpList_append_own _ rfl _ _ 67 rfl w.heap.size 48 i0 (.int .u64 0) 1 8 Tryd.underlying67 hi hz0 hz1 hz2 rfl (by decide) _ _ _ rfl (HO.out.alloc _) ⟨wr.heap.size, 0, none⟩ 1 1 [.int .u64 ((m : Int) % 65536)] rfl rfl ?c1 ?c2 ?c3 ?c4 ?c5 ?_)
      case c1 =>
        intro j u hj
        match j, hj with
        | 0, hj => simp at hj; subst hj; simp [Addr.add]
      case c2 => intro u hu; simp at hu; subst hu; rfl
      case c3 => unfold maxLen; omega
      case c4 => omega
      case c5 => have := hb.size; simp; omega
      intro v' w1 hown' hgrow _
      have hb1 : Below w.heap.size w w1 := (hb.alloc hb.size _).grown hgrow (by have := hb.size; simp; omega) (by intro k hk; exact (HO.out.lt k hk).1)
      clear hgrow HO
      go_wp2
      go_roundg (4 - i)
      case measure => omega
      case rel =>
        refine ⟨i + 1, v', rfl, by rw [HS.out]; go_num, by go_num, by omega, by omega, ?_, hb1⟩
        rw [HE.out]
        exact hown'
    · have e : i = 4 := by omega
      subst e
      go_wp2
      go_ret
      refine ⟨v3, rfl, ?_, hb⟩
      rw [← digs_four]
      exact Dg.of_own (by rw [digs_length]; exact HO.out) (by rw [digs_length]; omega)


theorem shr_dg {w : World} {v : Value} {l : List Nat} (h : Dg w v l) {i : Nat} (hi : i < l.length) : ∃ g cap, v = .slice (some ⟨g, 0, none⟩) l.length cap ∧ w.cell? ⟨g, i, none⟩ = some (.int .u64 ((l.getD i 0 : Nat) : Int)) := by
  obtain ⟨g, cap, rfl, _, _, hc⟩ := h
  exact ⟨g, cap, rfl, hc i hi⟩

set_option maxHeartbeats 2000000 in
set_option maxRecDepth 100000 in
theorem times_any (va vb : Value) (a b : List Nat) (w : World) (ha : Dg w va a) (hb : Dg w vb b) (da : ∀ d ∈ a, d < 65536) (db : ∀ d ∈ b, d < 65536) (la : a.length ≤ 20) (lb : b.length ≤ 20) :
    Calls Tryd.prog 41 #[va, vb] w fun e w' => ∃ v o, e = .returned v ∧ Dg w' v o ∧ (∀ d ∈ o, d < 65536) ∧ val o = val a * val b ∧ o.length = a.length + b.length + 1 ∧ Below w.heap.size w w' := by
  obtain ⟨i0, hi, hz0, hz1, hz2⟩ := info_parts infoU64
  have HA : Hid (Dg w va a) := ha
  have HB : Hid (Dg w vb b) := hb
  have DA : Hid (∀ d ∈ a, d < 65536) := da
  have DB : Hid (∀ d ∈ b, d < 65536) := db
  obtain ⟨ga, ca, rfl, hca, hcam, hcella⟩ := ha
  obtain ⟨gb, cb, rfl, hcb, hcbm, hcellb⟩ := hb
  have CA : Hid (∀ i, i < a.length → w.cell? ⟨ga, i, none⟩ = some (.int .u64 ((a.getD i 0 : Nat) : Int))) := hcella
  have CB : Hid (∀ i, i < b.length → w.cell? ⟨gb, i, none⟩ = some (.int .u64 ((b.getD i 0 : Nat) : Int))) := hcellb
  clear hcella hcellb da db
  generalize hna : a.length = na at *
  generalize hnb : b.length = nb at *
  have NA : Hid (a.length = na) := hna
  have NB : Hid (b.length = nb) := hnb
  clear hna hnb
  go_enter Tryd.func41, Tryd.ntmps41
  go_wp2_with (at_make; refine wpList_make_full _ rfl _ _ 67 rfl w.heap.size 48 i0 (.int .u64 0) 1 Tryd.underlying67 hi hz0 hz1 .i64 .i64 _ _ (na + nb + 1) rfl rfl (by simp) (by simp) ?m1 ?m2 ?m3 ?_)
  case m1 => rw [hz2]; omega
  case m2 => unfold maxLen; omega
  case m3 => exact Nat.le_refl _
  intro w2 hown hgrow
  have hown1 : w2.ownsRow w.heap.size 48 1 (.slice (some ⟨w.heap.size, 0, none⟩) (na + nb + 1) (na + nb + 1)) (na + nb + 1) (u64s (List.replicate (na + nb + 1) 0)) := by
    have e : (madeCells #[Value.int .u64 0] (na + nb + 1)).toList = u64s (List.replicate (na + nb + 1) 0) := by
      rw [toList_madeCells_one]; simp [u64s]
    rw [← e]
    exact hown
  have HO : Hid (w2.ownsRow w.heap.size 48 1 (.slice (some ⟨w.heap.size, 0, none⟩) (na + nb + 1) (na + nb + 1)) (na + nb + 1) (u64s (List.replicate (na + nb + 1) 0))) := hown1
  have hb0 : Below w.heap.size w w2 := grown_below hgrow (Nat.le_refl _) (by intro k hk; cases hk)
  have hga : ga < w.heap.size ∨ na = 0 := by
    by_cases h : 0 < na
    · exact Or.inl (block_lt_of_cell (CA.out 0 h))
    · exact Or.inr (by omega)
  clear hown hgrow hown1
  go_wp2
  go_loopg [6] (na + 1) (fun f s6 wr => ∃ (i : Nat) (o : List Nat), s6 = .int .i64 i ∧ i ≤ na ∧ na - i < f ∧ Rows a b i o ∧
    wr.ownsRow w.heap.size 48 1 (.slice (some ⟨w.heap.size, 0, none⟩) (na + nb + 1) (na + nb + 1)) (na + nb + 1) (u64s o) ∧ Below w.heap.size w wr)
  case atStart => exact ⟨0, List.replicate (na + nb + 1) 0, rfl, by omega, by omega, by have := Rows.start a b; rw [NA.out, NB.out] at this; exact this, HO.out, hb0⟩
  case round =>
    obtain ⟨i, o, rfl, hin, hf, hR, ho, hbr⟩ := hrel
    have HR : Hid (Rows a b i o) := hR
    have HOR : Hid (wr.ownsRow w.heap.size 48 1 (.slice (some ⟨w.heap.size, 0, none⟩) (na + nb + 1) (na + nb + 1)) (na + nb + 1) (u64s o)) := ho
    clear hR ho HO
    by_cases hlt : i < na
    · go_wp2
      go_loopg [7, 8] (nb + 2) (fun f s7 s8 wr2 => ∃ (k c : Nat) (o2 : List Nat), s7 = .int .u64 c ∧ s8 = .int .i64 k ∧ nb + 1 - k < f ∧ Row a b o i k o2 c ∧
        wr2.ownsRow w.heap.size 48 1 (.slice (some ⟨w.heap.size, 0, none⟩) (na + nb + 1) (na + nb + 1)) (na + nb + 1) (u64s o2) ∧ Below w.heap.size w wr2)
      case atStart => exact ⟨0, 0, o, rfl, rfl, by omega, HR.out.row, HOR.out, hbr⟩
      case round =>
        obtain ⟨k, c, o2, rfl, rfl, hfk, hW, ho2, hb2⟩ := hrel
        have HW : Hid (Row a b o i k o2 c) := hW
        have hcb2 : c < 65536 := hW.2.2.1
        have hkb : k ≤ nb + 1 := by have := hW.2.2.2.1; rw [NB.out] at this; exact this
        have OL : Hid (o2.length = na + nb + 1) := by have := hW.1; rw [NA.out, NB.out] at this; exact this
        have hz : o2.getD (i + k) 0 < 65536 := dig_getD hW.2.1 _
        have HO2 : Hid (wr.ownsRow w.heap.size 48 1 (.slice (some ⟨w.heap.size, 0, none⟩) (na + nb + 1) (na + nb + 1)) (na + nb + 1) (u64s o2)) := ho2
        clear hW ho2
        by_cases hk : k < nb
        · have ca := (hb2.cell (p := ⟨ga, i, none⟩) (block_lt_of_cell (CA.out i hlt))).trans (CA.out i hlt)
          have cb := (hb2.cell (p := ⟨gb, k, none⟩) (block_lt_of_cell (CB.out k hk))).trans (CB.out k hk)
          have co := (HO2.out.cellAt (i + k) (by omega)).trans (u64s_at (by rw [OL.out]; omega))
          have fo := HO2.out.frozenAt (i + k)
          have ho3 := HO2.out.stored (i + k) (.int .u64 (((o2.getD (i + k) 0 + c + a.getD i 0 * b.getD k 0) % 65536 : Nat) : Int))
          rw [u64s_set] at ho3
          have HS := HW.out.step DA.out DB.out (by rw [NA.out]; exact hlt) (by rw [NB.out]; exact hk)
          have HS' : Hid (Row a b o i (k + 1) (o2.set (i + k) ((o2.getD (i + k) 0 + c + a.getD i 0 * b.getD k 0) % 65536)) ((o2.getD (i + k) 0 + c + a.getD i 0 * b.getD k 0) / 65536)) := HS
          have H3 : Hid _ := ho3
          have hxy : ((a.getD i 0 : Nat) : Int) * ((b.getD k 0 : Nat) : Int) ≤ 4294836225 := by
            have := mul_dig (dig_getD DA.out i) (dig_getD DB.out k)
            have e : ((a.getD i 0 * b.getD k 0 : Nat) : Int) = ((a.getD i 0 : Nat) : Int) * ((b.getD k 0 : Nat) : Int) := by simp
            omega
          have hxy0 : 0 ≤ ((a.getD i 0 : Nat) : Int) * ((b.getD k 0 : Nat) : Int) := Int.mul_nonneg (by omega) (by omega)
          clear HS ho3 HW
          generalize hx : a.getD i 0 = x at *
          generalize hy : b.getD k 0 = y at *
          generalize hzz : o2.getD (i + k) 0 = z at *
          clear hx hy hzz
          have ik : ((i : Int) + (k : Int)).toNat = i + k := by omega
          go_wp2_with fail
          go_region
          all_goals
            go_wp2
            go_roundg (nb + 1 - k)
            case measure => omega
            case rel =>
              have e1 : ((z : Int) + c + x * y) % 65536 = (((z + c + x * y) % 65536 : Nat) : Int) := by simp
              have e2 : ((z : Int) + c + x * y) / 65536 = (((z + c + x * y) / 65536 : Nat) : Int) := by simp
              rw [e1, e2]
              exact ⟨k + 1, _, _, rfl, by go_num, by omega, HS'.out, H3.out.1, (hb2.grown (grown_drew H3.out.2) hb2.size (by intro q hq; cases hq; exact Nat.le_refl _))⟩
        · by_cases hc : 0 < c
          · have hl := HW.out.last HR.out (by rw [NA.out]; exact hlt) (by rw [NB.out]; exact hk) hc
            have hkk : k = nb := by have := hl.1; rw [NB.out] at this; exact this
            have co := (HO2.out.cellAt (i + k) (by omega)).trans (u64s_at (by rw [OL.out]; omega))
            have fo := HO2.out.frozenAt (i + k)
            have ho3 := HO2.out.stored (i + k) (.int .u64 (((o2.getD (i + k) 0 + c) % 65536 : Nat) : Int))
            rw [u64s_set] at ho3
            have HS' : Hid (Row a b o i (k + 1) (o2.set (i + k) ((o2.getD (i + k) 0 + c) % 65536)) ((o2.getD (i + k) 0 + c) / 65536)) := hl.2
            have H3 : Hid _ := ho3
            have HK : Hid (k = nb) := hkk
            clear hl ho3 HW hkk
            generalize hzz : o2.getD (i + k) 0 = z at *
            clear hzz
            have hk' : decide ((k : Int) < (nb : Int)) = false := by simp; omega
            have ik : ((i : Int) + (k : Int)).toNat = i + k := by omega
            have ikl : i + k < na + nb + 1 := by have := HK.out; omega
            go_wp2
            go_roundg (nb + 1 - k)
            case measure => have := HK.out; omega
            case rel =>
              have e1 : ((z : Int) + c) % 65536 = (((z + c) % 65536 : Nat) : Int) := by simp
              have e2 : ((z : Int) + c) / 65536 = (((z + c) / 65536 : Nat) : Int) := by simp
              rw [e1, e2]
              exact ⟨k + 1, _, _, rfl, by go_num, by have := HK.out; omega, HS'.out, H3.out.1, (hb2.grown H3.out.2 hb2.size (by intro q hq; cases hq; exact Nat.le_refl _))⟩
          · have hd := HW.out.done HR.out (by rw [NA.out]; exact hlt) (by rw [NB.out]; exact hk) hc
            have HD : Hid (Rows a b (i + 1) o2) := hd
            clear hd HW
            have hk' : decide ((k : Int) < (nb : Int)) = false := by simp; omega
            have hc' : decide ((0 : Int) < (c : Int)) = false := by simp; omega
            go_wp2
            go_roundg (na - i)
            case measure => omega
            case rel => exact ⟨i + 1, o2, by go_num, by omega, by omega, HD.out, HO2.out, hb2⟩
    · go_wp2
      go_ret
      have e := HR.out.done (by rw [NA.out]; exact hlt)
      have ol : o.length = na + nb + 1 := by have := HR.out.1; rw [NA.out, NB.out] at this; exact this
      exact ⟨_, o, rfl, Dg.of_own (by rw [ol]; exact HOR.out) (by omega), HR.out.2.1, e, ol, hbr⟩


set_option maxHeartbeats 1000000 in
set_option maxRecDepth 100000 in
theorem above_any (va vb : Value) (a b : List Nat) (w : World) (ha : Dg w va a) (hb : Dg w vb b) (da : ∀ d ∈ a, d < 65536) (db : ∀ d ∈ b, d < 65536) (la : a.length ≤ 40) (lb : b.length ≤ 40) :
    Calls Tryd.prog 42 #[va, vb] w fun e w' => e = .returned (.bool (decide (val b < val a))) ∧ w' = w := by
  have DA : Hid (∀ d ∈ a, d < 65536) := da
  have DB : Hid (∀ d ∈ b, d < 65536) := db
  obtain ⟨ga, ca, rfl, hca, hcam, hcella⟩ := ha
  obtain ⟨gb, cb, rfl, hcb, hcbm, hcellb⟩ := hb
  have CA : Hid (∀ i, i < a.length → w.cell? ⟨ga, i, none⟩ = some (.int .u64 ((a.getD i 0 : Nat) : Int))) := hcella
  have CB : Hid (∀ i, i < b.length → w.cell? ⟨gb, i, none⟩ = some (.int .u64 ((b.getD i 0 : Nat) : Int))) := hcellb
  have zA : Hid (∀ i, ¬ i < a.length → a.getD i 0 = 0) := fun i hi => by simp [List.getD, List.getElem?_eq_none (by omega : a.length ≤ i)]
  have zB : Hid (∀ i, ¬ i < b.length → b.getD i 0 = 0) := fun i hi => by simp [List.getD, List.getElem?_eq_none (by omega : b.length ≤ i)]
  have T0 : Hid (∀ n, a.length ≤ n → b.length ≤ n → Top a b n) := fun n h1 h2 => top_start a b n h1 h2
  clear hcella hcellb da db
  generalize hna : a.length = na at *
  generalize hnb : b.length = nb at *
  clear hna hnb
  go_enter Tryd.func42, Tryd.ntmps42
  go_wp2
  all_goals
    go_loopg [5] (na + nb + 1) (fun f s5 wr => ∃ (i : Nat), s5 = .int .i64 ((i : Int) - 1) ∧ i ≤ na + nb ∧ i < f ∧ Top a b i ∧ wr = w)
    case atStart =>
      first
      | exact ⟨na, rfl, by omega, by omega, T0.out na (by omega) (by omega), rfl⟩
      | exact ⟨nb, rfl, by omega, by omega, T0.out nb (by omega) (by omega), rfl⟩
    case round =>
      obtain ⟨i, rfl, him, hf, hT, rfl⟩ := hrel
      have HT : Hid (Top a b i) := hT
      clear hT T0
      by_cases h0 : 1 ≤ i
      · obtain ⟨j, rfl⟩ : ∃ j, i = j + 1 := ⟨i - 1, by omega⟩
        have ej : ((j + 1 : Nat) : Int) - 1 = (j : Int) := by omega
        rw [ej]
        have bx : a.getD j 0 < 65536 := dig_getD DA.out j
        have by' : b.getD j 0 < 65536 := dig_getD DB.out j
        have ca := CA.out j
        have cb := CB.out j
        have za := zA.out j
        have zb := zB.out j
        have FE : Hid (a.getD j 0 = b.getD j 0 → Top a b j) := fun h => top_step HT.out h
        have FL : Hid (a.getD j 0 < b.getD j 0 → val a < val b) := fun h => top_less HT.out DA.out h
        have FG : Hid (b.getD j 0 < a.getD j 0 → val b < val a) := fun h => top_less (fun k hk => (HT.out k hk).symm) DB.out h
        generalize a.getD j 0 = x at *
        generalize b.getD j 0 = y at *
        clear HT ej
        have fin : Hid (x ≠ y → decide (val b < val a) = decide (y < x)) := by
          intro hne
          by_cases h : x < y
          · have := FL.out h
            rw [decide_eq_false (by omega), decide_eq_false (by omega)]
          · have := FG.out (by omega)
            rw [decide_eq_true (by omega), decide_eq_true (by omega)]
        by_cases hja : j < na
        · have ca' := ca hja
          by_cases hjb : j < nb
          · have cb' := cb hjb
            clear ca cb za zb
            by_cases hne : x = y
            · subst hne
              go_wp2
              go_roundg (j + 1)
              case measure => omega
              case rel => exact ⟨j, rfl, by omega, by omega, FE.out (by trivial), rfl⟩
            · have hne' : ((x : Int) == (y : Int)) = false := by simp; omega
              go_wp2
              all_goals (go_ret; exact ⟨by rw [fin.out hne]; first | rfl | simp, rfl⟩)
          · have hy0 := zb hjb
            subst hy0
            clear ca cb za zb
            by_cases hne : x = 0
            · subst hne
              go_wp2
              go_roundg (j + 1)
              case measure => omega
              case rel => exact ⟨j, rfl, by omega, by omega, FE.out (by trivial), rfl⟩
            · have hne' : ((x : Int) == 0) = false := by simp; omega
              go_wp2
              all_goals (go_ret; exact ⟨by rw [fin.out hne]; first | rfl | simp, rfl⟩)
        · have hx0 := za hja
          subst hx0
          by_cases hjb : j < nb
          · have cb' := cb hjb
            clear ca cb za zb
            by_cases hne : y = 0
            · subst hne
              go_wp2
              go_roundg (j + 1)
              case measure => omega
              case rel => exact ⟨j, rfl, by omega, by omega, FE.out (by trivial), rfl⟩
            · have hne' : ((0 : Int) == (y : Int)) = false := by simp; omega
              go_wp2
              all_goals (go_ret; exact ⟨by rw [fin.out (fun e => hne e.symm)]; first | rfl | simp, rfl⟩)
          · have hy0 := zb hjb
            subst hy0
            clear ca cb za zb
            go_wp2
            go_roundg (j + 1)
            case measure => omega
            case rel => exact ⟨j, rfl, by omega, by omega, FE.out (by trivial), rfl⟩
      · go_wp2
        go_ret
        have : i = 0 := by omega
        subst this
        have := top_done HT.out
        exact ⟨by simp [this], rfl⟩

end Go.Proofs.YtfopjobcjafgaabDoor
