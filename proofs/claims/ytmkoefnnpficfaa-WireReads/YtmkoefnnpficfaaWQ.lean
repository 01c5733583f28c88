/-
  Walks of the document's answer: its Num, Fixed and Text tell the same forms, in new memory.
-/
import Derived.Test.YtmkoefnnpficfaaWS
namespace Go.Proofs.Ytmkoefnnpficfaa
open Go.RowKit

theorem numB_get (k n j : Nat) (hj : j ≤ k) : (numB k n)[j]? = some ((n / 128 ^ j % 128 + (if j = 0 then 0 else 128) : Nat) : Int) := by
  rw [numB_eq]
  cases j with
  | zero => simp
  | succ j =>
    have : j < k := by omega
    simp [this]

theorem form_get (k n i : Nat) (hi : i ≤ k) : (numB k n).reverse[i]? = some ((n / 128 ^ (k - i) % 128 + (if k - i = 0 then 0 else 128) : Nat) : Int) := by
  have hl := numB_length k n
  rw [List.getElem?_reverse (by omega), hl, show k + 1 - 1 - i = k - i by omega]
  exact numB_get k n (k - i) (by omega)

theorem take_next {l : List Int} {k : Nat} {x : Int} (h : l[k]? = some x) : l.take (k + 1) = l.take k ++ [x] := by
  have hk : k < l.length := by
    rcases Nat.lt_or_ge k l.length with h' | h'
    · exact h'
    · rw [List.getElem?_eq_none h'] at h; cases h
  rw [List.take_succ_eq_append_getElem hk]
  rw [List.getElem?_eq_getElem hk] at h
  cases h
  rfl

theorem shr_num (n i : Nat) : ((n : Int) / 2 ^ (7 * i)) = ((n / 128 ^ i : Nat) : Int) := by
  rw [show (128 : Nat) ^ i = 2 ^ (7 * i) by rw [Nat.pow_mul]]
  simp

theorem fixF_get (s n k : Nat) (hk : k < s) : (fixF s n)[k]? = some ((n / 256 ^ (s - 1 - k) % 256 : Nat) : Int) := by
  induction s generalizing k with
  | zero => omega
  | succ s ih =>
    cases k with
    | zero => simp [fixF]
    | succ k =>
      rw [fixF, List.getElem?_cons_succ, ih k (by omega), show s + 1 - 1 - (k + 1) = s - 1 - k by omega]

theorem bytes_one (w : World) (x : Int) (t : TypeId) (h0 : 0 ≤ x) (h1 : x < 256) : BytesIn (w.alloc (.cells #[.int .u8 x] t)) (some ⟨w.heap.size, 0, none⟩) [x] := by
  refine ⟨by intro y hy; simp at hy; subst hy; exact ⟨h0, h1⟩, Or.inr ⟨_, _, rfl, ?_⟩⟩
  intro i hi
  have : i = 0 := by simp at hi; omega
  subst this
  simp

set_option maxHeartbeats 1000000 in
set_option maxRecDepth 100000 in
theorem refnum_any (n : Nat) (hn : n < 18446744073709551616) (w : World) :
    Calls Try.prog 13 #[.int .u64 n] w fun e w' => ∃ v, e = .returned v ∧ w'.ownsRow w.heap.size 5 1 v (numF n).length ((numF n).map (Value.int .u8)) ∧ Below w.heap.size w w' := by
  obtain ⟨i0, hi, hz0, hz1, hz2⟩ := info_parts info5
  go_enter Try.func13, Try.ntmps13
  go_wp2
  go_loopg [3] 10 (fun k s3 wr => ∃ g : Nat, s3 = .int .i64 g ∧ 1 ≤ g ∧ g ≤ 10 ∧ 10 - g < k ∧ (g = 1 ∨ 0 < n / 128 ^ (g - 1)) ∧ wr = w)
  case atStart => exact ⟨1, rfl, by omega, by omega, by omega, Or.inl rfl, rfl⟩
  case round =>
    obtain ⟨g, rfl, hg1, hg10, hk, hlo, hw⟩ := hrel
    have hw' := hw.symm
    clear hw
    subst hw'
    have HL := hide hlo
    clear hlo
    have hsh := shr_num n g
    have H0 := hide (rfl : n / 128 ^ g = n / 128 ^ g)
    by_cases hlt : g < 10 ∧ 0 < n / 128 ^ g
    · obtain ⟨hg9, hpos⟩ := hlt
      have hposI : (0 : Int) < (n : Int) / 2 ^ (7 * g) := by rw [hsh]; omega
      have HP := hide hpos
      clear hsh hpos H0
      go_wp2
      go_roundg (10 - g)
      case measure => omega
      case rel => exact ⟨g + 1, by go_num, by omega, by omega, by omega, Or.inr HP.out, rfl⟩
    · have hend : n / 128 ^ g = 0 := by
        by_cases h10 : g = 10
        · subst h10
          exact Nat.div_eq_of_lt (by have : (128 : Nat) ^ 10 = 1180591620717411303424 := by decide
                                     omega)
        · rcases Nat.eq_zero_or_pos (n / 128 ^ g) with h | h
          · exact h
          · exact absurd ⟨by omega, h⟩ hlt
      have HE := hide hend
      have HF : Hid ((numB (g - 1) n).reverse = numF n) := by
        refine numB_reverse (g - 1) n (by omega) (by rw [show g - 1 + 1 = g by omega]; exact hend) ?_
        rcases HL.out with h | h
        · left; omega
        · right; exact h
      have hcase : (decide ((g : Int) < 10) = false ∧ decide (g < 10) = false) ∨ (g < 10 ∧ decide ((0 : Int) < (n : Int) / 2 ^ (7 * g)) = false) := by
        by_cases h10 : g < 10
        · right; refine ⟨h10, ?_⟩; rw [hsh, hend]; rfl
        · left; exact ⟨by simp; omega, by simpa using h10⟩
      have hfl : Hid ((numF n).length = g) := by
        show (numF n).length = g
        rw [← HF.out, List.length_reverse, numB_length]; omega
      have hget : Hid (∀ k, k < g → (numF n)[k]? = some ((n / 128 ^ (g - 1 - k) % 128 + (if g - 1 - k = 0 then 0 else 128) : Nat) : Int)) := fun k hk => by
        rw [← HF.out]
        exact form_get (g - 1) n k (by omega)
      generalize hFN : numF n = F at *
      have HFN := hide hFN
      clear hFN
      clear hlt hsh H0 hend HE HL HF
      rcases hcase with ⟨hcase, hc2⟩ | ⟨hcase, hc2⟩
      all_goals
        go_wp2
        go_loopg [4, 5, 6] 12 (fun r s4 s5 _ wx => ∃ (k : Nat) (j : Int), k ≤ g ∧ g - k < r ∧ s5 = .int .i64 j ∧ j = (g : Int) - 1 - (k : Int) ∧ wx.ownsRow w.heap.size 5 1 s4 k ((F.take k).map (Value.int .u8)) ∧ Below w.heap.size w wx)
        case atStart => exact ⟨0, (g : Int) - 1, by omega, by omega, rfl, by omega, by simpa using World.ownsRow_nil _ _ _ _, Below.refl _ _⟩
        case round =>
          obtain ⟨k, j, hkg, hkr, rfl, hj, ho, hb⟩ := hrel
          have HO := hide ho
          have HB := hide hb
          have hsz := hb.size
          clear ho hb
          by_cases hlt : k < g
          · obtain ⟨i, rfl⟩ : ∃ i : Nat, j = i := ⟨g - 1 - k, by omega⟩
            have hik : g - 1 - k = i := by omega
            have hx := hget.out k hlt
            rw [hik] at hx
            have hnx := take_next hx
            have HNX := hide hnx
            have htl : Hid ((F.take k).length = k) := by
              show (F.take k).length = k
              have := hfl.out
              simp; omega
            have hsh := shr_num n i
            have hxm : n / 128 ^ i % 128 < 128 := Nat.mod_lt _ (by omega)
            have hsm : ((n : Int) / 2 ^ (7 * i)) % 128 = ((n / 128 ^ i % 128 : Nat) : Int) := by rw [hsh]; simp
            have hnn : (0 : Int) ≤ (n : Int) / 2 ^ (7 * i) := by rw [hsh]; exact Int.natCast_nonneg _
            have hi9 : i ≤ 9 := by omega
            have HJ := hide hj
            have HIK := hide hik
            clear hx hnx hsh hj hik
            generalize n / 128 ^ i % 128 = d at *
            by_cases hi0 : i = 0
            · subst hi0
              have hsm0 : (n : Int) % 128 = (d : Int) := by simpa using hsm
              clear hsm hnn
              rw [if_pos rfl] at HNX
              go_wp2_with (at_builtin; refine wpList_append_bytes rfl (.tmp 36) (.tmp 38) rfl w.heap.size _ (F.take k) rfl k htl.out (HO.out.alloc _) (some ⟨wr.heap.size, 0, none⟩) 1 1 [(d : Int)] rfl rfl ?h1 ?h2 ?h3 ?h4 ?_)
              case h1 => exact bytes_one wr _ _ (by omega) (by omega)
              case h2 => intro h; cases h
              case h3 => omega
              case h4 => simp; omega
              intro v4 w4 zs4 k4 hz4 hk4 hown4 hg4 _
              have HB4 := hide ((HB.out.alloc HB.out.size _).grown hg4 (by simp; omega) (by intro k hk; exact (HO.out.lt k hk).1))
              have HO4 := hide hown4
              clear hown4 hg4 HO HB
              go_wp2
              go_roundg (g - k)
              case measure => omega
              case rel =>
                refine ⟨k + 1, ((0 : Nat) : Int) - 1, by omega, by omega, by go_num, by have := HJ.out; omega, ?_, HB4.out⟩
                have e1 : zs4 = F.take (k + 1) := by rw [hz4.out, HNX.out]; simp
                have e2 : k4 = k + 1 := by rw [← hk4.out, hz4.out, List.length_append, htl.out]; rfl
                rw [← e1, ← e2]
                exact HO4.out
            · have hip : 0 < i := by omega
              have hip' : (0 : Int) < (i : Int) := by omega
              rw [if_neg hi0] at HNX
              go_wp2_with (at_builtin; refine wpList_append_bytes rfl (.tmp 36) (.tmp 38) rfl w.heap.size _ (F.take k) rfl k htl.out (HO.out.alloc _) (some ⟨wr.heap.size, 0, none⟩) 1 1 [(d : Int) + 128] rfl rfl ?h1 ?h2 ?h3 ?h4 ?_)
              case h1 => exact bytes_one wr ((d : Int) + 128) _ (by omega) (by omega)
              case h2 => intro h; cases h
              case h3 => omega
              case h4 => simp; omega
              intro v4 w4 zs4 k4 hz4 hk4 hown4 hg4 _
              have HB4 := hide ((HB.out.alloc HB.out.size _).grown hg4 (by simp; omega) (by intro k hk; exact (HO.out.lt k hk).1))
              have HO4 := hide hown4
              clear hown4 hg4 HO HB
              go_wp2
              go_roundg (g - k)
              case measure => omega
              case rel =>
                refine ⟨k + 1, (i : Int) - 1, by omega, by omega, by go_num, by have := HJ.out; omega, ?_, HB4.out⟩
                have e1 : zs4 = F.take (k + 1) := by rw [hz4.out, HNX.out]; simp
                have e2 : k4 = k + 1 := by rw [← hk4.out, hz4.out, List.length_append, htl.out]; rfl
                rw [← e1, ← e2]
                exact HO4.out
          · have ek : k = g := by omega
            subst ek
            have hjn : j < 0 := by omega
            go_wp2
            go_ret
            refine ⟨_, rfl, ?_, HB.out⟩
            rw [HFN.out, hfl.out]
            have e1 : F.take k = F := List.take_of_length_le (by rw [hfl.out]; exact Nat.le_refl _)
            have := HO.out
            rw [e1] at this
            exact this

set_option maxHeartbeats 1000000 in
set_option maxRecDepth 100000 in
theorem reffix_in (n s : Nat) (_hn : n < 18446744073709551616) (h1 : 1 ≤ s) (h8 : s ≤ 8) (w : World) :
    Calls Try.prog 14 #[.int .u64 n, .int .i64 s] w fun e w' => ∃ v, e = .returned v ∧ w'.ownsRow w.heap.size 5 1 v s ((fixF s n).map (Value.int .u8)) ∧ Below w.heap.size w w' := by
  have d1 : decide ((s : Int) < 1) = false := by simp; omega
  have d8 : decide ((8 : Int) < (s : Int)) = false := by simp; omega
  have hget : Hid (∀ k, k < s → (fixF s n)[k]? = some ((n / 256 ^ (s - 1 - k) % 256 : Nat) : Int)) := fun k hk => fixF_get s n k hk
  have hfl : Hid ((fixF s n).length = s) := fixF_length s n
  generalize hFN : fixF s n = F at *
  go_enter Try.func14, Try.ntmps14
  go_wp2
  go_loopg [5, 6] 12 (fun r s5 s6 wx => ∃ (k : Nat) (j : Int), k ≤ s ∧ s - k < r ∧ s6 = .int .i64 j ∧ j = (s : Int) - 1 - (k : Int) ∧ wx.ownsRow w.heap.size 5 1 s5 k ((F.take k).map (Value.int .u8)) ∧ Below w.heap.size w wx)
  case atStart => exact ⟨0, (s : Int) - 1, by omega, by omega, rfl, by omega, by simpa using World.ownsRow_nil _ _ _ _, Below.refl _ _⟩
  case round =>
    obtain ⟨k, j, hkg, hkr, rfl, hj, ho, hb⟩ := hrel
    have HO := hide ho
    have HB := hide hb
    have hsz := hb.size
    clear ho hb
    by_cases hlt : k < s
    · obtain ⟨i, rfl⟩ : ∃ i : Nat, j = i := ⟨s - 1 - k, by omega⟩
      have hik : s - 1 - k = i := by omega
      have hx := hget.out k hlt
      rw [hik] at hx
      have hnx := take_next hx
      have HNX := hide hnx
      have htl : Hid ((F.take k).length = k) := by
        show (F.take k).length = k
        have := hfl.out
        simp; omega
      have hsm := shr_fix n i
      have hxm : n / 256 ^ i % 256 < 256 := Nat.mod_lt _ (by omega)
      have hi9 : i ≤ 7 := by omega
      have HJ := hide hj
      have HIK := hide hik
      clear hx hnx hj hik
      generalize n / 256 ^ i % 256 = d at *
      go_wp2_with (at_builtin; refine wpList_append_bytes rfl (.tmp 19) (.tmp 26) rfl w.heap.size _ (F.take k) rfl k htl.out (HO.out.alloc _) (some ⟨wr.heap.size, 0, none⟩) 1 1 [(d : Int)] rfl rfl ?h1 ?h2 ?h3 ?h4 ?_)
      case h1 => exact bytes_one wr _ _ (by omega) (by omega)
      case h2 => intro h; cases h
      case h3 => omega
      case h4 => simp; omega
      intro v4 w4 zs4 k4 hz4 hk4 hown4 hg4 _
      have HB4 := hide ((HB.out.alloc HB.out.size _).grown hg4 (by simp; omega) (by intro k hk; exact (HO.out.lt k hk).1))
      have HO4 := hide hown4
      clear hown4 hg4 HO HB
      go_wp2
      go_roundg (s - k)
      case measure => omega
      case rel =>
        refine ⟨k + 1, (i : Int) - 1, by omega, by omega, by go_num, by have := HJ.out; omega, ?_, HB4.out⟩
        have e1 : zs4 = F.take (k + 1) := by rw [hz4.out, HNX.out]
        have e2 : k4 = k + 1 := by rw [← hk4.out, hz4.out, List.length_append, htl.out]; rfl
        rw [← e1, ← e2]
        exact HO4.out
    · have ek : k = s := by omega
      subst ek
      have hjn : j < 0 := by omega
      go_wp2
      go_ret
      refine ⟨_, rfl, ?_, HB.out⟩
      have e1 : F.take k = F := List.take_of_length_le (by rw [hfl.out]; exact Nat.le_refl _)
      have := HO.out
      rw [e1] at this
      exact this

set_option maxHeartbeats 400000 in
theorem reffix_out (n : Nat) (s : Int) (h : ¬ (1 ≤ s ∧ s ≤ 8)) (w : World) :
    Calls Try.prog 14 #[.int .u64 n, .int .i64 s] w fun e w' => e = .returned (.slice none 0 0) ∧ w' = w := by
  by_cases h1 : s < 1
  · go_enter Try.func14, Try.ntmps14
    go_wp2
    go_ret
    exact ⟨rfl, rfl⟩
  · have h1' : decide (s < 1) = false := by simpa using h1
    have h8 : 8 < s := by omega
    go_enter Try.func14, Try.ntmps14
    go_wp2
    go_ret
    exact ⟨rfl, rfl⟩

set_option maxHeartbeats 1000000 in
set_option maxRecDepth 100000 in
theorem reftext_any (p : Option Addr) (cap : Nat) (xs : List Int) (w : World) (ha : Arg w p cap xs) (hl : xs.length ≤ 900000) :
    Calls Try.prog 15 #[.slice p xs.length cap] w fun e w' => ∃ v, e = .returned v ∧ w'.ownsRow w.heap.size 5 1 v (txtF xs).length ((txtF xs).map (Value.int .u8)) ∧ Below w.heap.size w w' := by
  have HA := hide ha
  clear ha
  have hs := numF_short xs.length (by omega)
  have hN : Hid (txtF xs = numF xs.length ++ xs) := rfl
  generalize txtF xs = f at *
  have hnum := refnum_any xs.length (by omega) w
  generalize hn : xs.length = n at *
  have HN := hide hn
  clear hn
  generalize hnf : numF n = nf at *
  have HNF := hide hnf
  clear hnf
  have HNUM := hide hnum
  clear hnum
  go_enter Try.func15, Try.ntmps15
  go_wp2_with fail
  refine (show Calls _ _ _ _ _ from HNUM.out).mono ?_
  rintro e w1 ⟨v, rfl, hown, hb⟩
  obtain ⟨g, c, rfl, hB, hg, _, _⟩ := own_shape hown (by omega)
  have HO := hide hown
  have HB := hide hb
  have HQ := hide (bytes_kept HA.out.1 (below_grown hb none) (fun a _ => by simp))
  clear hown hb HNUM
  go_wp2_with (at_builtin; refine wpList_append_bytes rfl (.tmp 8) (.tmp 9) rfl w.heap.size _ nf rfl _ rfl HO.out p n cap xs HN.out rfl HQ.out HA.out.2.2.2 ?h3 ?h4 ?_)
  case h3 => omega
  case h4 => exact HB.out.size
  intro v2 w2 zs k hz hk hown2 hg2 _
  have HB2 := hide (HB.out.grown hg2 HB.out.size (by intro k hk; simp [Value.ownBlock] at hk; subst hk; exact hB))
  have HO2 := hide hown2
  clear hown2 hg2
  go_wp2
  go_ret
  have e1 : zs = f := by rw [hz.out, hN.out]
  refine ⟨v2, rfl, ?_, HB2.out⟩
  rw [← e1, hk.out]
  exact HO2.out

end Go.Proofs.Ytmkoefnnpficfaa
