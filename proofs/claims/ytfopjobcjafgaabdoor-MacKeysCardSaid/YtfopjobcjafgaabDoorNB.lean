/-
  Walks: slices.Reverse on a row of the caller's own; wire.Num: the number's form in new memory, whatever the number.
-/
import Derived.Test.YtfopjobcjafgaabDoorMX
import Derived.Test.YtfopjobcjafgaabDoorNM
import Derived.RegionTactic
import Derived.BigRegion
import Derived.Deep.LoopGhost
namespace Go.Proofs.YtfopjobcjafgaabDoor.Num
open Go.RowKit

theorem grown_trans {a b c : World} {r : Option Nat} (h : a.grownBy b r) (k : b.grownBy c r) : a.grownBy c r :=
  ⟨k.os.trans h.os, k.tape.trans h.tape, k.output.trans h.output, Nat.le_trans h.size k.size, fun i hi hr => (k.block i (Nat.lt_of_lt_of_le hi h.size) hr).trans (h.block i hi hr)⟩

theorem grown_drew {a b : World} {r : Option Nat} (h : a.grownBy b r) : a.grownBy b.drew r := ⟨h.os, h.tape, h.output, h.size, h.block⟩

theorem grown_refl (a : World) (r : Option Nat) : a.grownBy a r := ⟨rfl, rfl, rfl, Nat.le_refl _, fun _ _ _ => rfl⟩

theorem map_set_u8 (ys : List Int) (i : Nat) (x : Int) : (ys.map (Value.int .u8)).set i (.int .u8 x) = (ys.set i x).map (Value.int .u8) := by
  rw [List.map_set]

theorem map_at_u8 {ys : List Int} {i : Nat} (h : i < ys.length) : (ys.map (Value.int .u8))[i]? = some (.int .u8 (ys.getD i 0)) := by
  simp [List.getD, h]

set_option maxHeartbeats 1000000 in
set_option maxRecDepth 100000 in
theorem reverse_own (B g n cap : Nat) (xs : List Int) (w : World) (hn : xs.length = n) (hbig : n ≤ 1000000) (hown : w.ownsRow B 5 1 (.slice (some ⟨g, 0, none⟩) n cap) n (xs.map (Value.int .u8))) :
    Calls Tryd.prog 30 #[.slice (some ⟨g, 0, none⟩) n cap] w fun e w' => e = .returned (.tuple #[]) ∧ w'.ownsRow B 5 1 (.slice (some ⟨g, 0, none⟩) n cap) n (xs.reverse.map (Value.int .u8)) ∧ w.grownBy w' (some g) := by
  have HN : Hid (xs.length = n) := hn
  clear hn
  go_enter Tryd.func30, Tryd.ntmps30
  go_wp2
  go_loopg [2, 3] n (fun k s2 s3 wr => ∃ (i : Nat) (ys : List Int), s2 = .int .i64 i ∧ s3 = .int .i64 ((n : Int) - 1 - i) ∧ i ≤ n ∧ n - i ≤ k ∧ RevTo xs ys i ∧
    wr.ownsRow B 5 1 (.slice (some ⟨g, 0, none⟩) n cap) n (ys.map (Value.int .u8)) ∧ w.grownBy wr (some g))
  case atStart => exact ⟨0, xs, rfl, by simp, by omega, by omega, RevTo.start xs, hown, ⟨rfl, rfl, rfl, Nat.le_refl _, fun _ _ _ => rfl⟩⟩
  case round =>
    obtain ⟨i, ys, rfl, rfl, hin, hk, hrev, ho, hg⟩ := hrel
    have HR : Hid (RevTo xs ys i) := hrev
    have hyl : Hid (ys.length = n) := hrev.1.trans HN.out
    clear hrev hown
    by_cases hlt : (i : Int) < (n : Int) - 1 - i
    · have ci := (ho.cellAt i (by omega)).trans (map_at_u8 (by rw [hyl.out]; omega))
      have cj := (ho.cellAt (n - 1 - i) (by omega)).trans (map_at_u8 (by rw [hyl.out]; omega))
      have fi := ho.frozenAt i
      have fj := ho.frozenAt (n - 1 - i)
      have ej : ((n : Int) - 1 - i).toNat = n - 1 - i := by omega
      have HO : Hid (wr.ownsRow B 5 1 (.slice (some ⟨g, 0, none⟩) n cap) n (ys.map (Value.int .u8))) := ho
      clear ho
      go_wp2_with fail
      go_region
      all_goals
        go_wp2
        go_roundg (n - (i + 1))
        case measure => omega
        case rel =>
          refine ⟨i + 1, (ys.set i (ys.getD (xs.length - 1 - i) 0)).set (xs.length - 1 - i) (ys.getD i 0), by go_num, by go_num, by omega, by omega, RevTo.step HR.out (by rw [HN.out]; omega), ?_, ?_⟩
          · have h1 := HO.out.stored i (.int .u8 (ys[n - 1 - i]?.getD 0))
            have h2 := h1.1.stored (n - 1 - i) (.int .u8 (ys[i]?.getD 0))
            rw [map_set_u8, map_set_u8] at h2
            rw [HN.out]
            exact h2.1
          · have h1 := HO.out.stored i (.int .u8 (ys[n - 1 - i]?.getD 0))
            have h2 := h1.1.stored (n - 1 - i) (.int .u8 (ys[i]?.getD 0))
            exact grown_drew (grown_trans hg (grown_trans h1.2 h2.2))
    · go_wp2
      go_end0
      have hd := RevTo.done HR.out (by rw [HN.out]; omega)
      subst hd
      exact ⟨rfl, by simpa using ho, hg⟩


theorem own_shape {w : World} {B : Nat} {e : TypeId} {v : Value} {n : Nat} {xs : List Value} (h : w.ownsRow B e 1 v n xs) (hn : 0 < n) :
    ∃ g cap, v = .slice (some ⟨g, 0, none⟩) n cap ∧ B ≤ g ∧ g < w.heap.size ∧ n ≤ cap ∧ cap ≤ maxLen := by
  rcases h.2 with ⟨_, h0⟩ | ⟨g, cap, cur, rfl, hB, hg, hnc, hcm, _⟩
  · omega
  · refine ⟨g, cap, rfl, hB, ?_, hnc, hcm⟩
    by_cases hlt : g < w.heap.size
    · exact hlt
    · rw [Array.getElem?_eq_none (by omega)] at hg; cases hg

theorem grown_below {B : Nat} {a b : World} {r : Option Nat} (h : a.grownBy b r) (hB : B ≤ a.heap.size) (hr : ∀ k, r = some k → B ≤ k) : Below B a b :=
  (Below.refl B a).grown h hB hr

set_option maxHeartbeats 1000000 in
set_option maxRecDepth 100000 in
theorem num_any (n : Nat) (hn : n < 18446744073709551616) (w : World) :
    Calls Tryd.prog 20 #[.int .u64 n] w fun e w' => ∃ v, e = .returned v ∧ w'.ownsRow w.heap.size 5 1 v (numF n).length ((numF n).map (Value.int .u8)) ∧ Below w.heap.size w w' := by
  obtain ⟨i0, hi, hz0, hz1, hz2⟩ := info_parts infoU8
  go_enter Tryd.func20, Tryd.ntmps20
  go_wp2
  go_loopg [0, 3] 10 (fun k s0 s3 wr => ∃ (i : Nat), s0 = .int .u64 ((n / 128 ^ (i + 1) : Nat) : Int) ∧ i ≤ 9 ∧ 9 - i ≤ k ∧ (i = 0 ∨ 0 < n / 128 ^ i) ∧
    wr.ownsRow w.heap.size 5 1 s3 (i + 1) ((numB i n).map (Value.int .u8)) ∧ Below w.heap.size w wr)
  case atStart =>
    refine ⟨0, by simp, by omega, by omega, Or.inl rfl, ?_, (Below.refl _ _).alloc (Nat.le_refl _) _⟩
    exact World.ownsRow_lit w #[.int .u8 ((n : Int) % 128)] 1 (Nat.le_refl _) (by decide) rfl
  case round =>
    obtain ⟨i, rfl, hi9, hk, hlo, ho, hb⟩ := hrel
    obtain ⟨g, cap, rfl, hBg, hgs, hnc, hcm⟩ := own_shape ho (by omega)
    have HO : Hid (wr.ownsRow w.heap.size 5 1 (.slice (some ⟨g, 0, none⟩) (i + 1) cap) (i + 1) ((numB i n).map (Value.int .u8))) := ho
    have HL : Hid (i = 0 ∨ 0 < n / 128 ^ i) := hlo
    have hn9 : n / 128 ^ 10 = 0 := Nat.div_eq_of_lt (by omega)
    have hlt : 0 < n / 128 ^ (i + 1) → i + 1 ≤ 9 := fun h => by
      by_cases e : i = 9
      · subst e; omega
      · omega
    have hmd : n / 128 ^ (i + 1) < 18446744073709551616 := Nat.lt_of_le_of_lt (Nat.div_le_self _ _) hn
    have hms : n / 128 ^ (i + 1 + 1) = n / 128 ^ (i + 1) / 128 := by rw [Nat.pow_succ 128 (i + 1), Nat.div_div_eq_div_mul]
    have HS : Hid (n / 128 ^ (i + 1 + 1) = n / 128 ^ (i + 1) / 128) := hms
    clear hms hn9 ho hlo
    generalize hm : n / 128 ^ (i + 1) = m at *
    have HM : Hid (n / 128 ^ (i + 1) = m) := hm
    clear hm
    by_cases h0 : 0 < m
    · have hi8 := hlt h0
      clear hlt
      go_wp2_with (at_builtin; refine wpList_append_own _ rfl _ _ 22 rfl w.heap.size 5 i0 (.int .u8 0) 1 1 Tryd.underlying22 hi hz0 hz1 hz2 rfl (by decide) _ _ _ rfl (HO.out.alloc _) ⟨wr.heap.size, 0, none⟩ 1 1 [.int .u8 ((m : Int) % 128 + 128)] rfl rfl ?c1 ?c2 ?c3 ?c4 ?c5 ?_)
      case c1 =>
        intro j u hj
        match j, hj with
        | 0, hj => simp at hj; subst hj; simp [Addr.add]
      case c2 => intro u hu; simp at hu; subst hu; rfl
      case c3 => unfold maxLen; omega
      case c4 => omega
      case c5 => have := hb.size; simp; omega
      intro v' w1 hown' hgrow _
      have hb1 : Below w.heap.size w w1 := (hb.alloc hb.size _).grown hgrow (by have := hb.size; simp; omega) (by intro k hk; simp [Value.ownBlock] at hk; omega)
      clear hgrow HO
      go_wp2
      go_roundg (9 - (i + 1))
      case measure => omega
      case rel =>
        refine ⟨i + 1, by rw [HS.out]; go_num, by omega, by omega, Or.inr (by rw [HM.out]; exact h0), ?_, hb1⟩
        have e : (numB (i + 1) n).map (Value.int .u8) = (numB i n).map (Value.int .u8) ++ [.int .u8 ((m : Int) % 128 + 128)] := by
          rw [numB, HM.out, List.map_append]; simp
        rw [e]
        exact hown'
    · have hm0 : m = 0 := by omega
      subst hm0
      go_wp2_with fail
      refine (reverse_own w.heap.size g (i + 1) cap (numB i n) _ (numB_length i n) (by omega) HO.out).mono ?_
      rintro e w1 ⟨rfl, ho1, hg1⟩
      have hb1 : Below w.heap.size w w1 := hb.grown hg1 hb.size (by intro k hk; cases hk; exact hBg)
      clear hg1 HO
      go_wp2
      go_ret
      refine ⟨_, rfl, ?_, hb1⟩
      have e := numB_reverse i n (by omega) HM.out HL.out
      have el : (numF n).length = i + 1 := by rw [← e]; simp [numB_length]
      rw [el, ← e]
      exact ho1

end Go.Proofs.YtfopjobcjafgaabDoor.Num
