/-
  A walk: the program's ending: what stands behind so many bytes.
-/
import Derived.Test.YtfopjobcjafgaabDoorSO
namespace Go.Proofs.YtfopjobcjafgaabDoor
open Go.RowKit

/-- what stands behind so many bytes -/
def endF (n : Nat) : List Nat := [128] ++ List.replicate (padZ n) 0 ++ be8 (n * 8) 8

theorem padF_end (bs : List Nat) : padF bs = bs ++ endF bs.length := by simp [padF, endF]

/-- .. so many of its last bytes laid down -/
def endTo (z : Nat) (l : List Nat) (k : Nat) : List Nat := [128] ++ List.replicate z 0 ++ (List.replicate (8 - k) 0 ++ l.drop (8 - k))

theorem tail_set {l : List Nat} (h : l.length = 8) (k : Nat) (hk : k < 8) : (List.replicate (8 - k) 0 ++ l.drop (8 - k)).set (7 - k) (l.getD (7 - k) 0) = List.replicate (8 - (k + 1)) 0 ++ l.drop (8 - (k + 1)) := by
  obtain ⟨a, b, c, d, e, f, g, i, rfl⟩ := eight h
  match k, hk with
  | 0, _ => rfl
  | 1, _ => rfl
  | 2, _ => rfl
  | 3, _ => rfl
  | 4, _ => rfl
  | 5, _ => rfl
  | 6, _ => rfl
  | 7, _ => rfl

theorem endTo_length (z : Nat) {l : List Nat} (h : l.length = 8) (k : Nat) (_hk : k ≤ 8) : (endTo z l k).length = 9 + z := by
  simp [endTo, h]; omega

theorem endTo_set (z : Nat) {l : List Nat} (h : l.length = 8) (k : Nat) (hk : k < 8) : (endTo z l k).set (8 + z - k) (l.getD (7 - k) 0) = endTo z l (k + 1) := by
  unfold endTo
  rw [List.set_append, if_neg (by simp; omega)]
  congr 1
  have e : 8 + z - k - ([128] ++ List.replicate z 0).length = 7 - k := by simp; omega
  rw [e]
  exact tail_set h k hk

theorem be8_at (n i : Nat) (hi : i < 8) : (be8 n 8).getD i 0 = n / 2 ^ (8 * (7 - i)) % 256 := by
  match i, hi with
  | 0, _ => rfl
  | 1, _ => rfl
  | 2, _ => rfl
  | 3, _ => rfl
  | 4, _ => rfl
  | 5, _ => rfl
  | 6, _ => rfl
  | 7, _ => rfl

theorem made_u8 (n : Nat) : (madeCells #[Value.int .u8 0] n).toList = u8s (List.replicate n 0) := by
  rw [toList_madeCells_one]; simp [u8s]

set_option maxHeartbeats 2000000 in
set_option maxRecDepth 100000 in
theorem ending_any (n : Nat) (w : World) (hn : n ≤ 1000000) :
    Calls Tryd.prog 26 #[.int .i64 n] w fun e w' => ∃ v, e = .returned v ∧ w'.ownsRow w.heap.size 5 1 v (endF n).length (u8s (endF n)) ∧ Below w.heap.size w w' := by
  obtain ⟨i0, hi, hz0, hz1, hz2⟩ := info_parts infoU8
  have hzn : padZ n = (64 - (n + 9) % 64) % 64 := by unfold padZ; omega
  have hz64 : padZ n < 64 := Nat.mod_lt _ (by omega)
  have ezn : (64 - ((n : Int) + 9) % 64) % 64 = ((padZ n : Nat) : Int) := by omega
  have HE : Hid (endF n = endTo (padZ n) (be8 (n * 8) 8) 8) := by show _ = _; simp [endF, endTo]
  have LB := hide (be8_length (n * 8) 8)
  have HAT : Hid (∀ k, k < 8 → (be8 (n * 8) 8).getD (7 - k) 0 = n * 8 / 2 ^ (8 * k) % 256) := fun k hk => by rw [be8_at _ _ (by omega)]; congr 4; omega
  clear hzn
  generalize padZ n = z at *
  generalize be8 (n * 8) 8 = l at *
  go_enter Tryd.func26, Tryd.ntmps26
  go_wp2_with (at_make; refine wpList_make_full _ rfl _ _ 22 rfl w.heap.size 5 i0 (.int .u8 0) 1 Tryd.underlying22 hi hz0 hz1 .i64 .i64 _ _ (9 + z) rfl rfl (by simp) (by simp) ?m1 ?m2 ?m3 ?_)
  case m1 => rw [hz2]; omega
  case m2 => unfold maxLen; omega
  case m3 => exact Nat.le_refl _
  intro w2 hown hgrow
  rw [made_u8] at hown
  have ec : ∃ x, w2.cell? ⟨w.heap.size, 0, none⟩ = some (.int .u8 x) := ⟨_, (hown.cellAt 0 (by omega)).trans (u8s_at (by rw [List.length_replicate]; omega))⟩
  obtain ⟨x0, c0⟩ := ec
  have f0 := hown.frozenAt 0
  have HO := hide hown
  have HG := hide hgrow
  clear hown hgrow
  have HO1 : Hid ((w2.setCell ⟨w.heap.size, 0, none⟩ (.int .u8 (128 : Int))).ownsRow w.heap.size 5 1 (.slice (some ⟨w.heap.size, 0, none⟩) (9 + z) (9 + z)) (9 + z) (u8s (endTo z l 0))) := by
    have h := (HO.out.stored 0 (.int .u8 ((128 : Nat) : Int))).1
    rw [u8s_set] at h
    have e : (List.replicate (9 + z) 0).set 0 128 = endTo z l 0 := by
      rw [show 9 + z = (z + 8) + 1 by omega, List.replicate_succ, List.set_cons_zero]
      have : l.drop 8 = [] := List.drop_eq_nil_of_le (by rw [LB.out]; omega)
      have e2 : List.replicate (z + 8) 0 = List.replicate z 0 ++ List.replicate 8 0 := by rw [List.replicate_append_replicate]
      unfold endTo
      rw [this, e2, List.append_nil]
      rfl
    rw [e] at h
    exact h
  have HB1 : Hid (Below w.heap.size w (w2.setCell ⟨w.heap.size, 0, none⟩ (.int .u8 (128 : Int)))) := (grown_below HG.out (Nat.le_refl _) (by intro k hk; cases hk)).setCell (Nat.le_refl _) _
  go_wp2
  go_loopg [23] 9 (fun f s23 wr => ∃ (k : Nat), s23 = .int .i64 k ∧ k ≤ 8 ∧ 8 - k < f ∧ wr.ownsRow w.heap.size 5 1 (.slice (some ⟨w.heap.size, 0, none⟩) (9 + z) (9 + z)) (9 + z) (u8s (endTo z l k)) ∧ Below w.heap.size w wr)
  case atStart => exact ⟨0, rfl, by omega, by omega, HO1.out, HB1.out⟩
  case round =>
    clear HO HG HO1 HB1 c0 f0
    obtain ⟨k, rfl, hk, hf, ho, hb⟩ := hrel
    by_cases hk8 : k < 8
    · have hv := HAT.out k hk8
      obtain ⟨ix, hix⟩ : ∃ x, x = 8 + z - k := ⟨_, rfl⟩
      have ex : ∃ x, wr.cell? ⟨w.heap.size, ix, none⟩ = some (.int .u8 x) := ⟨_, (ho.cellAt ix (by omega)).trans (u8s_at (by rw [endTo_length z LB.out k (by omega)]; omega))⟩
      obtain ⟨xo, co⟩ := ex
      have fo := ho.frozenAt ix
      have h2 := ho.stored ix (.int .u8 ((l.getD (7 - k) 0 : Nat) : Int))
      rw [u8s_set, hix, endTo_set z LB.out k hk8, ← hix] at h2
      have H2 := hide h2
      have hixe : (9 : Int) + (z : Int) - 1 - (k : Int) = (ix : Int) := by omega
      have hdv : ((n : Int) * 8 / 2 ^ (8 * k)) % 256 = ((l.getD (7 - k) 0 : Nat) : Int) := by rw [hv]; simp
      have hixl : ix < 9 + z := by omega
      clear ho h2 hix hv
      generalize l.getD (7 - k) 0 = dv at *
      have hk8' : (k : Int) < 8 := by omega
      go_wp2
      go_roundg (8 - k)
      case measure => omega
      case rel => exact ⟨k + 1, by go_num, by omega, by omega, H2.out.1, hb.grown H2.out.2 hb.size (by intro q hq; cases hq; exact Nat.le_refl _)⟩
    · have e : k = 8 := by omega
      subst e
      go_wp2
      go_ret
      refine ⟨_, rfl, ?_, hb⟩
      rw [HE.out, endTo_length z LB.out 8 (by omega)]
      exact ho

end Go.Proofs.YtfopjobcjafgaabDoor
