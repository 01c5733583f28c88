/-
  Layer 1 for the layers above it: the form of a number, by the program and by the reference.
-/
import Derived.Test.YtecpnnnkkofejaaWX
import Derived.Test.YtecpnnnkkofejaaYA
namespace Go.Proofs.Ytecpnnnkkofejaa
open Go.RowKit
variable {A : Nat → Prop}

set_option maxHeartbeats 1000000 in
set_option maxRecDepth 100000 in
theorem reverse_own (B g n cap : Nat) (xs : List Int) (w : World) (hn : xs.length = n) (hbig : n ≤ 1000000) (hown : w.ownsRow B 5 1 (.slice (some ⟨g, 0, none⟩) n cap) n (xs.map (Value.int .u8))) :
    Calls Try.prog 40 #[.slice (some ⟨g, 0, none⟩) n cap] w fun e w' => e = .returned (.tuple #[]) ∧ w'.ownsRow B 5 1 (.slice (some ⟨g, 0, none⟩) n cap) n (xs.reverse.map (Value.int .u8)) ∧ w.grownBy w' (some g) := by
  have HN : Hid (xs.length = n) := hn
  clear hn
  go_enter Try.func40, Try.ntmps40
  go_wp2
  go_loopg [2, 3] n (fun k s2 s3 wr => ∃ (i : Nat) (ys : List Int), s2 = .int .i64 i ∧ s3 = .int .i64 ((n : Int) - 1 - i) ∧ i ≤ n ∧ n - i ≤ k ∧ RevTo xs ys i ∧
    wr.ownsRow B 5 1 (.slice (some ⟨g, 0, none⟩) n cap) n (ys.map (Value.int .u8)) ∧ w.grownBy wr (some g))
  case atStart => exact ⟨0, xs, rfl, by simp, by omega, by omega, RevTo.start xs, hown, ⟨rfl, rfl, rfl, Nat.le_refl _, fun _ _ _ => rfl⟩⟩
  case round =>
    obtain ⟨i, ys, rfl, rfl, hin, hk, hrev, ho, hg⟩ := hrel
    have HR : Hid (RevTo xs ys i) := hrev
    have hyl : Hid (ys.length = n) := hrev.1.trans HN.out
    clear hrev hown
    by_cases hlt : (i : Int) < (n : Int) - 1 - i
    · have ci := (ho.cellAt i (by omega)).trans (map_at_u8 (by rw [hyl.out]; omega))
      have cj := (ho.cellAt (n - 1 - i) (by omega)).trans (map_at_u8 (by rw [hyl.out]; omega))
      have fi := ho.frozenAt i
      have fj := ho.frozenAt (n - 1 - i)
      have ej : ((n : Int) - 1 - i).toNat = n - 1 - i := by omega
      have HO : Hid (wr.ownsRow B 5 1 (.slice (some ⟨g, 0, none⟩) n cap) n (ys.map (Value.int .u8))) := ho
      clear ho
      go_wp2_with fail
      go_region
      all_goals
        go_wp2
        go_roundg (n - (i + 1))
        case measure => omega
        case rel =>
          refine ⟨i + 1, (ys.set i (ys.getD (xs.length - 1 - i) 0)).set (xs.length - 1 - i) (ys.getD i 0), by go_num, by go_num, by omega, by omega, RevTo.step HR.out (by rw [HN.out]; omega), ?_, ?_⟩
          · have h1 := HO.out.stored i (.int .u8 (ys[n - 1 - i]?.getD 0))
            have h2 := h1.1.stored (n - 1 - i) (.int .u8 (ys[i]?.getD 0))
            rw [map_set_u8, map_set_u8] at h2
            rw [HN.out]
            exact h2.1
          · have h1 := HO.out.stored i (.int .u8 (ys[n - 1 - i]?.getD 0))
            have h2 := h1.1.stored (n - 1 - i) (.int .u8 (ys[i]?.getD 0))
            exact grown_drew (grown_trans hg (grown_trans h1.2 h2.2))
    · go_wp2
      go_end0
      have hd := RevTo.done HR.out (by rw [HN.out]; omega)
      subst hd
      exact ⟨rfl, by simpa using ho, hg⟩

set_option maxHeartbeats 1000000 in
set_option maxRecDepth 100000 in
theorem num_any (n : Nat) (hn : n < 18446744073709551616) (w : World) :
    Calls Try.prog 26 #[.int .u64 n] w fun e w' => ∃ v, e = .returned v ∧ w'.ownsRow w.heap.size 5 1 v (numF n).length ((numF n).map (Value.int .u8)) ∧ Below w.heap.size w w' := by
  obtain ⟨i0, hi, hz0, hz1, hz2⟩ := info_parts infoU8
  go_enter Try.func26, Try.ntmps26
  go_wp2
  go_loopg [0, 3] 10 (fun k s0 s3 wr => ∃ (i : Nat), s0 = .int .u64 ((n / 128 ^ (i + 1) : Nat) : Int) ∧ i ≤ 9 ∧ 9 - i ≤ k ∧ (i = 0 ∨ 0 < n / 128 ^ i) ∧
    wr.ownsRow w.heap.size 5 1 s3 (i + 1) ((numB i n).map (Value.int .u8)) ∧ Below w.heap.size w wr)
  case atStart =>
    refine ⟨0, by simp, by omega, by omega, Or.inl rfl, ?_, (Below.refl _ _).alloc (Nat.le_refl _) _⟩
    exact World.ownsRow_lit w #[.int .u8 ((n : Int) % 128)] 1 (Nat.le_refl _) (by decide) rfl
  case round =>
    obtain ⟨i, rfl, hi9, hk, hlo, ho, hb⟩ := hrel
    obtain ⟨g, cap, rfl, hBg, hgs, hnc, hcm⟩ := own_shape ho (by omega)
    have HO : Hid (wr.ownsRow w.heap.size 5 1 (.slice (some ⟨g, 0, none⟩) (i + 1) cap) (i + 1) ((numB i n).map (Value.int .u8))) := ho
    have HL : Hid (i = 0 ∨ 0 < n / 128 ^ i) := hlo
    have hn9 : n / 128 ^ 10 = 0 := Nat.div_eq_of_lt (by omega)
    have hlt : 0 < n / 128 ^ (i + 1) → i + 1 ≤ 9 := fun h => by
      by_cases e : i = 9
      · subst e; omega
      · omega
    have hmd : n / 128 ^ (i + 1) < 18446744073709551616 := Nat.lt_of_le_of_lt (Nat.div_le_self _ _) hn
    have hms : n / 128 ^ (i + 1 + 1) = n / 128 ^ (i + 1) / 128 := by rw [Nat.pow_succ 128 (i + 1), Nat.div_div_eq_div_mul]
    have HS : Hid (n / 128 ^ (i + 1 + 1) = n / 128 ^ (i + 1) / 128) := hms
    clear hms hn9 ho hlo
    generalize hm : n / 128 ^ (i + 1) = m at *
    have HM : Hid (n / 128 ^ (i + 1) = m) := hm
    clear hm
    by_cases h0 : 0 < m
    · have hi8 := hlt h0
      clear hlt
      go_wp2_with (at_builtin; refine wpList_append_own _ rfl _ _ 23 rfl w.heap.size 5 i0 (.int .u8 0) 1 1 Try.underlying23 hi hz0 hz1 hz2 rfl (by decide) _ _ _ rfl (HO.out.alloc _) ⟨wr.heap.size, 0, none⟩ 1 1 [.int .u8 ((m : Int) % 128 + 128)] rfl rfl ?c1 ?c2 ?c3 ?c4 ?c5 ?_)
      case c1 =>
        intro j u hj
        match j, hj with
        | 0, hj => simp at hj; subst hj; simp [Addr.add]
      case c2 => intro u hu; simp at hu; subst hu; rfl
      case c3 => unfold maxLen; omega
      case c4 => omega
      case c5 => have := hb.size; simp; omega
      intro v' w1 hown' hgrow _
      have hb1 : Below w.heap.size w w1 := (hb.alloc hb.size _).grown hgrow (by have := hb.size; simp; omega) (by intro k hk; simp [Value.ownBlock] at hk; omega)
      clear hgrow HO
      go_wp2
      go_roundg (9 - (i + 1))
      case measure => omega
      case rel =>
        refine ⟨i + 1, by rw [HS.out]; go_num, by omega, by omega, Or.inr (by rw [HM.out]; exact h0), ?_, hb1⟩
        have e : (numB (i + 1) n).map (Value.int .u8) = (numB i n).map (Value.int .u8) ++ [.int .u8 ((m : Int) % 128 + 128)] := by
          rw [numB, HM.out, List.map_append]; simp
        rw [e]
        exact hown'
    · have hm0 : m = 0 := by omega
      subst hm0
      go_wp2_with fail
      refine (reverse_own w.heap.size g (i + 1) cap (numB i n) _ (numB_length i n) (by omega) HO.out).mono ?_
      rintro e w1 ⟨rfl, ho1, hg1⟩
      have hb1 : Below w.heap.size w w1 := hb.grown hg1 hb.size (by intro k hk; cases hk; exact hBg)
      clear hg1 HO
      go_wp2
      go_ret
      refine ⟨_, rfl, ?_, hb1⟩
      have e := numB_reverse i n (by omega) HM.out HL.out
      have el : (numF n).length = i + 1 := by rw [← e]; simp [numB_length]
      rw [el, ← e]
      exact ho1

theorem numB_get (k n j : Nat) (hj : j ≤ k) : (numB k n)[j]? = some ((n / 128 ^ j % 128 + (if j = 0 then 0 else 128) : Nat) : Int) := by
  rw [numB_eq]
  cases j with
  | zero => simp
  | succ j =>
    have : j < k := by omega
    simp [this]

theorem form_get (k n i : Nat) (hi : i ≤ k) : (numB k n).reverse[i]? = some ((n / 128 ^ (k - i) % 128 + (if k - i = 0 then 0 else 128) : Nat) : Int) := by
  have hl := numB_length k n
  rw [List.getElem?_reverse (by omega), hl, show k + 1 - 1 - i = k - i by omega]
  exact numB_get k n (k - i) (by omega)

theorem shr_num (n i : Nat) : ((n : Int) / 2 ^ (7 * i)) = ((n / 128 ^ i : Nat) : Int) := by
  rw [show (128 : Nat) ^ i = 2 ^ (7 * i) by rw [Nat.pow_mul]]
  simp

set_option maxHeartbeats 1000000 in
set_option maxRecDepth 100000 in
theorem refnum_any (n : Nat) (hn : n < 18446744073709551616) (w : World) :
    Calls Try.prog 27 #[.int .u64 n] w fun e w' => ∃ v, e = .returned v ∧ w'.ownsRow w.heap.size 5 1 v (numF n).length ((numF n).map (Value.int .u8)) ∧ Below w.heap.size w w' := by
  obtain ⟨i0, hi, hz0, hz1, hz2⟩ := info_parts infoU8
  go_enter Try.func27, Try.ntmps27
  go_wp2
  go_loopg [3] 10 (fun k s3 wr => ∃ g : Nat, s3 = .int .i64 g ∧ 1 ≤ g ∧ g ≤ 10 ∧ 10 - g < k ∧ (g = 1 ∨ 0 < n / 128 ^ (g - 1)) ∧ wr = w)
  case atStart => exact ⟨1, rfl, by omega, by omega, by omega, Or.inl rfl, rfl⟩
  case round =>
    obtain ⟨g, rfl, hg1, hg10, hk, hlo, hw⟩ := hrel
    have hw' := hw.symm
    clear hw
    subst hw'
    have HL := hide hlo
    clear hlo
    have hsh := shr_num n g
    have H0 := hide (rfl : n / 128 ^ g = n / 128 ^ g)
    by_cases hlt : g < 10 ∧ 0 < n / 128 ^ g
    · obtain ⟨hg9, hpos⟩ := hlt
      have hposI : (0 : Int) < (n : Int) / 2 ^ (7 * g) := by rw [hsh]; omega
      have HP := hide hpos
      clear hsh hpos H0
      go_wp2
      go_roundg (10 - g)
      case measure => omega
      case rel => exact ⟨g + 1, by go_num, by omega, by omega, by omega, Or.inr HP.out, rfl⟩
    · have hend : n / 128 ^ g = 0 := by
        by_cases h10 : g = 10
        · subst h10
          exact Nat.div_eq_of_lt (by have : (128 : Nat) ^ 10 = 1180591620717411303424 := by decide
                                     omega)
        · rcases Nat.eq_zero_or_pos (n / 128 ^ g) with h | h
          · exact h
          · exact absurd ⟨by omega, h⟩ hlt
      have HE := hide hend
      have HF : Hid ((numB (g - 1) n).reverse = numF n) := by
        refine numB_reverse (g - 1) n (by omega) (by rw [show g - 1 + 1 = g by omega]; exact hend) ?_
        rcases HL.out with h | h
        · left; omega
        · right; exact h
      have hcase : (decide ((g : Int) < 10) = false ∧ decide (g < 10) = false) ∨ (g < 10 ∧ decide ((0 : Int) < (n : Int) / 2 ^ (7 * g)) = false) := by
        by_cases h10 : g < 10
        · right; refine ⟨h10, ?_⟩; rw [hsh, hend]; rfl
        · left; exact ⟨by simp; omega, by simpa using h10⟩
      have hfl : Hid ((numF n).length = g) := by
        show (numF n).length = g
        rw [← HF.out, List.length_reverse, numB_length]; omega
      have hget : Hid (∀ k, k < g → (numF n)[k]? = some ((n / 128 ^ (g - 1 - k) % 128 + (if g - 1 - k = 0 then 0 else 128) : Nat) : Int)) := fun k hk => by
        rw [← HF.out]
        exact form_get (g - 1) n k (by omega)
      generalize hFN : numF n = F at *
      have HFN := hide hFN
      clear hFN
      clear hlt hsh H0 hend HE HL HF
      rcases hcase with ⟨hcase, hc2⟩ | ⟨hcase, hc2⟩
      all_goals
        go_wp2
        go_loopg [4, 5, 6] 12 (fun r s4 s5 _ wx => ∃ (k : Nat) (j : Int), k ≤ g ∧ g - k < r ∧ s5 = .int .i64 j ∧ j = (g : Int) - 1 - (k : Int) ∧ wx.ownsRow w.heap.size 5 1 s4 k ((F.take k).map (Value.int .u8)) ∧ Below w.heap.size w wx)
        case atStart => exact ⟨0, (g : Int) - 1, by omega, by omega, rfl, by omega, by simpa using World.ownsRow_nil _ _ _ _, Below.refl _ _⟩
        case round =>
          obtain ⟨k, j, hkg, hkr, rfl, hj, ho, hb⟩ := hrel
          have HO := hide ho
          have HB := hide hb
          have hsz := hb.size
          clear ho hb
          by_cases hlt : k < g
          · obtain ⟨i, rfl⟩ : ∃ i : Nat, j = i := ⟨g - 1 - k, by omega⟩
            have hik : g - 1 - k = i := by omega
            have hx := hget.out k hlt
            rw [hik] at hx
            have hnx := take_next hx
            have HNX := hide hnx
            have htl : Hid ((F.take k).length = k) := by
              show (F.take k).length = k
              have := hfl.out
              simp; omega
            have hsh := shr_num n i
            have hxm : n / 128 ^ i % 128 < 128 := Nat.mod_lt _ (by omega)
            have hsm : ((n : Int) / 2 ^ (7 * i)) % 128 = ((n / 128 ^ i % 128 : Nat) : Int) := by rw [hsh]; simp
            have hnn : (0 : Int) ≤ (n : Int) / 2 ^ (7 * i) := by rw [hsh]; exact Int.natCast_nonneg _
            have hi9 : i ≤ 9 := by omega
            have HJ := hide hj
            have HIK := hide hik
            clear hx hnx hsh hj hik
            generalize n / 128 ^ i % 128 = d at *
            by_cases hi0 : i = 0
            · subst hi0
              have hsm0 : (n : Int) % 128 = (d : Int) := by simpa using hsm
              clear hsm hnn
              rw [if_pos rfl] at HNX
              go_wp2_with (at_builtin; refine w_append_bytes rfl (.tmp 36) (.tmp 38) rfl w.heap.size _ (F.take k) rfl k htl.out (HO.out.alloc _) (some ⟨wr.heap.size, 0, none⟩) 1 1 [(d : Int)] rfl rfl ?h1 ?h2 ?h3 ?h4 ?_)
              case h1 => exact w_bytes_one wr _ _ (by omega) (by omega)
              case h2 => intro h; cases h
              case h3 => omega
              case h4 => simp; omega
              intro v4 w4 zs4 k4 hz4 hk4 hown4 hg4 _
              have HB4 := hide ((HB.out.alloc HB.out.size _).grown hg4 (by simp; omega) (by intro k hk; exact (HO.out.lt k hk).1))
              have HO4 := hide hown4
              clear hown4 hg4 HO HB
              go_wp2
              go_roundg (g - k)
              case measure => omega
              case rel =>
                refine ⟨k + 1, ((0 : Nat) : Int) - 1, by omega, by omega, by go_num, by have := HJ.out; omega, ?_, HB4.out⟩
                have e1 : zs4 = F.take (k + 1) := by rw [hz4.out, HNX.out]; simp
                have e2 : k4 = k + 1 := by rw [← hk4.out, hz4.out, List.length_append, htl.out]; rfl
                rw [← e1, ← e2]
                exact HO4.out
            · have hip : 0 < i := by omega
              have hip' : (0 : Int) < (i : Int) := by omega
              rw [if_neg hi0] at HNX
              go_wp2_with (at_builtin; refine w_append_bytes rfl (.tmp 36) (.tmp 38) rfl w.heap.size _ (F.take k) rfl k htl.out (HO.out.alloc _) (some ⟨wr.heap.size, 0, none⟩) 1 1 [(d : Int) + 128] rfl rfl ?h1 ?h2 ?h3 ?h4 ?_)
              case h1 => exact w_bytes_one wr ((d : Int) + 128) _ (by omega) (by omega)
              case h2 => intro h; cases h
              case h3 => omega
              case h4 => simp; omega
              intro v4 w4 zs4 k4 hz4 hk4 hown4 hg4 _
              have HB4 := hide ((HB.out.alloc HB.out.size _).grown hg4 (by simp; omega) (by intro k hk; exact (HO.out.lt k hk).1))
              have HO4 := hide hown4
              clear hown4 hg4 HO HB
              go_wp2
              go_roundg (g - k)
              case measure => omega
              case rel =>
                refine ⟨k + 1, (i : Int) - 1, by omega, by omega, by go_num, by have := HJ.out; omega, ?_, HB4.out⟩
                have e1 : zs4 = F.take (k + 1) := by rw [hz4.out, HNX.out]; simp
                have e2 : k4 = k + 1 := by rw [← hk4.out, hz4.out, List.length_append, htl.out]; rfl
                rw [← e1, ← e2]
                exact HO4.out
          · have ek : k = g := by omega
            subst ek
            have hjn : j < 0 := by omega
            go_wp2
            go_ret
            refine ⟨_, rfl, ?_, HB.out⟩
            rw [HFN.out, hfl.out]
            have e1 : F.take k = F := List.take_of_length_le (by rw [hfl.out]; exact Nat.le_refl _)
            have := HO.out
            rw [e1] at this
            exact this



end Go.Proofs.Ytecpnnnkkofejaa
