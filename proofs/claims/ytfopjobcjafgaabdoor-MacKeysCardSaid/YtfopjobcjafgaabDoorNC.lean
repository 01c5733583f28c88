/-
  Walks of the document's answer: its Num, Fixed and Text tell the same forms, in new memory.
-/
import Derived.Test.YtfopjobcjafgaabDoorNB
namespace Go.Proofs.YtfopjobcjafgaabDoor.Num
open Go.RowKit

theorem numB_get (k n j : Nat) (hj : j ≤ k) : (numB k n)[j]? = some ((n / 128 ^ j % 128 + (if j = 0 then 0 else 128) : Nat) : Int) := by
  rw [numB_eq]
  cases j with
  | zero => simp
  | succ j =>
    have : j < k := by omega
    simp [this]

theorem form_get (k n i : Nat) (hi : i ≤ k) : (numB k n).reverse[i]? = some ((n / 128 ^ (k - i) % 128 + (if k - i = 0 then 0 else 128) : Nat) : Int) := by
  have hl := numB_length k n
  rw [List.getElem?_reverse (by omega), hl, show k + 1 - 1 - i = k - i by omega]
  exact numB_get k n (k - i) (by omega)

theorem take_next {l : List Int} {k : Nat} {x : Int} (h : l[k]? = some x) : l.take (k + 1) = l.take k ++ [x] := by
  have hk : k < l.length := by
    rcases Nat.lt_or_ge k l.length with h' | h'
    · exact h'
    · rw [List.getElem?_eq_none h'] at h; cases h
  rw [List.take_succ_eq_append_getElem hk]
  rw [List.getElem?_eq_getElem hk] at h
  cases h
  rfl

theorem shr_num (n i : Nat) : ((n : Int) / 2 ^ (7 * i)) = ((n / 128 ^ i : Nat) : Int) := by
  rw [show (128 : Nat) ^ i = 2 ^ (7 * i) by rw [Nat.pow_mul]]
  simp

set_option maxHeartbeats 1000000 in
set_option maxRecDepth 100000 in
theorem refnum_any (n : Nat) (hn : n < 18446744073709551616) (w : World) :
    Calls Tryd.prog 21 #[.int .u64 n] w fun e w' => ∃ v, e = .returned v ∧ w'.ownsRow w.heap.size 5 1 v (numF n).length ((numF n).map (Value.int .u8)) ∧ Below w.heap.size w w' := by
  obtain ⟨i0, hi, hz0, hz1, hz2⟩ := info_parts infoU8
  go_enter Tryd.func21, Tryd.ntmps21
  go_wp2
  go_loopg [3] 10 (fun k s3 wr => ∃ g : Nat, s3 = .int .i64 g ∧ 1 ≤ g ∧ g ≤ 10 ∧ 10 - g < k ∧ (g = 1 ∨ 0 < n / 128 ^ (g - 1)) ∧ wr = w)
  case atStart => exact ⟨1, rfl, by omega, by omega, by omega, Or.inl rfl, rfl⟩
  case round =>
    obtain ⟨g, rfl, hg1, hg10, hk, hlo, hw⟩ := hrel
    have hw' := hw.symm
    clear hw
    subst hw'
    have HL := hide hlo
    clear hlo
    have hsh := shr_num n g
    have H0 := hide (rfl : n / 128 ^ g = n / 128 ^ g)
    by_cases hlt : g < 10 ∧ 0 < n / 128 ^ g
    · obtain ⟨hg9, hpos⟩ := hlt
      have hposI : (0 : Int) < (n : Int) / 2 ^ (7 * g) := by rw [hsh]; omega
      have HP := hide hpos
      clear hsh hpos H0
      go_wp2
      go_roundg (10 - g)
      case measure => omega
      case rel => exact ⟨g + 1, by go_num, by omega, by omega, by omega, Or.inr HP.out, rfl⟩
    · have hend : n / 128 ^ g = 0 := by
        by_cases h10 : g = 10
        · subst h10
          exact Nat.div_eq_of_lt (by have : (128 : Nat) ^ 10 = 1180591620717411303424 := by decide
                                     omega)
        · rcases Nat.eq_zero_or_pos (n / 128 ^ g) with h | h
          · exact h
          · exact absurd ⟨by omega, h⟩ hlt
      have HE := hide hend
      have HF : Hid ((numB (g - 1) n).reverse = numF n) := by
        refine numB_reverse (g - 1) n (by omega) (by rw [show g - 1 + 1 = g by omega]; exact hend) ?_
        rcases HL.out with h | h
        · left; omega
        · right; exact h
      have hcase : (decide ((g : Int) < 10) = false ∧ decide (g < 10) = false) ∨ (g < 10 ∧ decide ((0 : Int) < (n : Int) / 2 ^ (7 * g)) = false) := by
        by_cases h10 : g < 10
        · right; refine ⟨h10, ?_⟩; rw [hsh, hend]; rfl
        · left; exact ⟨by simp; omega, by simpa using h10⟩
      have hfl : Hid ((numF n).length = g) := by
        show (numF n).length = g
        rw [← HF.out, List.length_reverse, numB_length]; omega
      have hget : Hid (∀ k, k < g → (numF n)[k]? = some ((n / 128 ^ (g - 1 - k) % 128 + (if g - 1 - k = 0 then 0 else 128) : Nat) : Int)) := fun k hk => by
        rw [← HF.out]
        exact form_get (g - 1) n k (by omega)
      generalize hFN : numF n = F at *
      have HFN := hide hFN
      clear hFN
      clear hlt hsh H0 hend HE HL HF
      rcases hcase with ⟨hcase, hc2⟩ | ⟨hcase, hc2⟩
      all_goals
        go_wp2
        go_loopg [4, 5, 6] 12 (fun r s4 s5 _ wx => ∃ (k : Nat) (j : Int), k ≤ g ∧ g - k < r ∧ s5 = .int .i64 j ∧ j = (g : Int) - 1 - (k : Int) ∧ wx.ownsRow w.heap.size 5 1 s4 k ((F.take k).map (Value.int .u8)) ∧ Below w.heap.size w wx)
        case atStart => exact ⟨0, (g : Int) - 1, by omega, by omega, rfl, by omega, by simpa using World.ownsRow_nil _ _ _ _, Below.refl _ _⟩
        case round =>
          obtain ⟨k, j, hkg, hkr, rfl, hj, ho, hb⟩ := hrel
          have HO := hide ho
          have HB := hide hb
          have hsz := hb.size
          clear ho hb
          by_cases hlt : k < g
          · obtain ⟨i, rfl⟩ : ∃ i : Nat, j = i := ⟨g - 1 - k, by omega⟩
            have hik : g - 1 - k = i := by omega
            have hx := hget.out k hlt
            rw [hik] at hx
            have hnx := take_next hx
            have HNX := hide hnx
            have htl : Hid ((F.take k).length = k) := by
              show (F.take k).length = k
              have := hfl.out
              simp; omega
            have hsh := shr_num n i
            have hxm : n / 128 ^ i % 128 < 128 := Nat.mod_lt _ (by omega)
            have hsm : ((n : Int) / 2 ^ (7 * i)) % 128 = ((n / 128 ^ i % 128 : Nat) : Int) := by rw [hsh]; simp
            have hnn : (0 : Int) ≤ (n : Int) / 2 ^ (7 * i) := by rw [hsh]; exact Int.natCast_nonneg _
            have hi9 : i ≤ 9 := by omega
            have HJ := hide hj
            have HIK := hide hik
            clear hx hnx hsh hj hik
            generalize n / 128 ^ i % 128 = d at *
            by_cases hi0 : i = 0
            · subst hi0
              have hsm0 : (n : Int) % 128 = (d : Int) := by simpa using hsm
              clear hsm hnn
              rw [if_pos rfl] at HNX
              go_wp2_with (at_builtin; refine wpList_append_own _ rfl _ _ 22 rfl w.heap.size 5 i0 (.int .u8 0) 1 1 Tryd.underlying22 hi hz0 hz1 hz2 rfl (by decide) _ _ _ rfl (HO.out.alloc _) ⟨wr.heap.size, 0, none⟩ 1 1 [.int .u8 ((d : Int))] rfl rfl ?c1 ?c2 ?c3 ?c4 ?c5 ?_)
              case c1 =>
                intro j u hj
                match j, hj with
                | 0, hj => simp at hj; subst hj; simp [Addr.add]
              case c2 => intro u hu; simp at hu; subst hu; rfl
              case c3 => unfold maxLen; omega
              case c4 => omega
              case c5 => simp; omega
              intro v4 w4 hown4 hg4 _
              have HB4 := hide ((HB.out.alloc HB.out.size _).grown hg4 (by simp; omega) (by intro k hk; exact (HO.out.lt k hk).1))
              have HO4 := hide hown4
              clear hown4 hg4 HO HB
              go_wp2
              go_roundg (g - k)
              case measure => omega
              case rel =>
                refine ⟨k + 1, ((0 : Nat) : Int) - 1, by omega, by omega, by go_num, by have := HJ.out; omega, ?_, HB4.out⟩
                have e1 : (F.take (k + 1)).map (Value.int .u8) = (F.take k).map (Value.int .u8) ++ [.int .u8 ((d : Int))] := by rw [HNX.out, List.map_append]; simp
                rw [e1, List.map_take]
                exact HO4.out
            · have hip : 0 < i := by omega
              have hip' : (0 : Int) < (i : Int) := by omega
              rw [if_neg hi0] at HNX
              go_wp2_with (at_builtin; refine wpList_append_own _ rfl _ _ 22 rfl w.heap.size 5 i0 (.int .u8 0) 1 1 Tryd.underlying22 hi hz0 hz1 hz2 rfl (by decide) _ _ _ rfl (HO.out.alloc _) ⟨wr.heap.size, 0, none⟩ 1 1 [.int .u8 ((d : Int) + 128)] rfl rfl ?c1 ?c2 ?c3 ?c4 ?c5 ?_)
              case c1 =>
                intro j u hj
                match j, hj with
                | 0, hj => simp at hj; subst hj; simp [Addr.add]
              case c2 => intro u hu; simp at hu; subst hu; rfl
              case c3 => unfold maxLen; omega
              case c4 => omega
              case c5 => simp; omega
              intro v4 w4 hown4 hg4 _
              have HB4 := hide ((HB.out.alloc HB.out.size _).grown hg4 (by simp; omega) (by intro k hk; exact (HO.out.lt k hk).1))
              have HO4 := hide hown4
              clear hown4 hg4 HO HB
              go_wp2
              go_roundg (g - k)
              case measure => omega
              case rel =>
                refine ⟨k + 1, (i : Int) - 1, by omega, by omega, by go_num, by have := HJ.out; omega, ?_, HB4.out⟩
                have e1 : (F.take (k + 1)).map (Value.int .u8) = (F.take k).map (Value.int .u8) ++ [.int .u8 ((d : Int) + 128)] := by rw [HNX.out, List.map_append]; simp
                rw [e1, List.map_take]
                exact HO4.out
          · have ek : k = g := by omega
            subst ek
            have hjn : j < 0 := by omega
            go_wp2
            go_ret
            refine ⟨_, rfl, ?_, HB.out⟩
            rw [HFN.out, hfl.out]
            have e1 : F.take k = F := List.take_of_length_le (by rw [hfl.out]; exact Nat.le_refl _)
            have := HO.out
            rw [e1] at this
            exact this


end Go.Proofs.YtfopjobcjafgaabDoor.Num
