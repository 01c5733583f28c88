/-
  Walks: a reader's Rest; wire.Text: a text's form in new memory.
-/
import Derived.Test.YtmkoefnnpficfaaWG
namespace Go.Proofs.Ytmkoefnnpficfaa
open Go.RowKit
variable {A : Nat → Prop}

set_option maxHeartbeats 1000000 in
set_option maxRecDepth 100000 in
theorem rest_nil (w : World) :
    Calls Try.prog 23 #[.pointer none] w fun e w' => e = .returned (.slice none 0 0) ∧ w' = w := by
  go_enter Try.func23, Try.ntmps23
  go_wp2
  go_ret
  exact ⟨rfl, rfl⟩

set_option maxHeartbeats 1000000 in
set_option maxRecDepth 100000 in
theorem rest_err (b : Nat) (bs : List Int) (x : Int) (w : World) (hr : Rd A w b bs x) (hx : x ≠ 0) :
    Calls Try.prog 23 #[.pointer (some ⟨b, 0, none⟩)] w fun e w' => e = .returned (.slice none 0 0) ∧ w' = w := by
  have hx' : (x != 0) = true := by simpa using hx
  clear hx
  obtain ⟨p, cap, h0, h1, f0, f1, hlc, hm, hs, hb, hne⟩ := hr
  clear hb hne
  go_enter Try.func23, Try.ntmps23
  go_wp2
  go_ret
  exact ⟨rfl, rfl⟩

set_option maxHeartbeats 1000000 in
set_option maxRecDepth 100000 in
theorem rest_ok (b : Nat) (bs : List Int) (w : World) (hr : Rd A w b bs 0) :
    Calls Try.prog 23 #[.pointer (some ⟨b, 0, none⟩)] w fun e w' => ∃ v, e = .returned v ∧ w'.ownsRow w.heap.size 5 1 v bs.length (bs.map (Value.int .u8)) ∧ Rd A w' b [] 0 ∧ w.grownBy w' (some b) := by
  have HR := hide hr
  obtain ⟨p, cap, h0, h1, f0, f1, hlc, hm, hs, hb, hne⟩ := hr
  clear hb hne
  have hc := cut_in b bs 0 bs.length w HR.out (Nat.le_refl _)
  rw [List.take_length, List.drop_length] at hc
  have HC := hide hc
  clear hc
  go_enter Try.func23, Try.ntmps23
  go_wp2_with (first | (go_at_call 25; go_in) | (go_at_call 36; go_in))
  refine (show Calls _ _ _ _ _ from HC.out).mono ?_
  rintro e w1 ⟨v, rfl, hown, hrd, hg⟩
  have HO := hide hown
  have HRD := hide hrd
  have HG := hide hg
  clear hown hrd hg
  go_wp2
  go_ret
  exact ⟨v, rfl, HO.out, HRD.out, HG.out⟩

def txtF (xs : List Int) : List Int := numF xs.length ++ xs

theorem txtF_bytes {xs : List Int} (h : ∀ x ∈ xs, 0 ≤ x ∧ x < 256) : ∀ x ∈ txtF xs, 0 ≤ x ∧ x < 256 := by
  intro x hx
  rcases List.mem_append.1 hx with h1 | h1
  · exact numF_bytes _ x h1
  · exact h x h1

set_option maxHeartbeats 1000000 in
set_option maxRecDepth 100000 in
theorem text_any (p : Option Addr) (cap : Nat) (xs : List Int) (w : World) (ha : Arg w p cap xs) (hl : xs.length ≤ 900000) :
    Calls Try.prog 12 #[.slice p xs.length cap] w fun e w' => ∃ v, e = .returned v ∧ w'.ownsRow w.heap.size 5 1 v (txtF xs).length ((txtF xs).map (Value.int .u8)) ∧ Below w.heap.size w w' := by
  have HA := hide ha
  clear ha
  have HX := hide (rfl : xs.length = xs.length)
  have hs := numF_short xs.length (by omega)
  have hN : Hid (txtF xs = numF xs.length ++ xs) := rfl
  generalize hf : txtF xs = f at *
  have hnum := num_any xs.length (by omega) w
  generalize hn : xs.length = n at *
  have HN := hide hn
  clear hn HX hf
  generalize hnf : numF n = nf at *
  have HNF := hide hnf
  clear hnf
  have HNUM := hide hnum
  clear hnum
  go_enter Try.func12, Try.ntmps12
  go_wp2_with fail
  refine (show Calls _ _ _ _ _ from HNUM.out).mono ?_
  rintro e w1 ⟨v, rfl, hown, hb⟩
  obtain ⟨g, c, rfl, hB, hg, _, _⟩ := own_shape hown (by omega)
  have HO := hide hown
  have HB := hide hb
  have HQ := hide (bytes_kept HA.out.1 (below_grown hb none) (fun a _ => by simp))
  clear hown hb HNUM
  go_wp2_with (at_builtin; refine wpList_append_bytes rfl (.tmp 6) (.tmp 7) rfl w.heap.size _ nf rfl _ rfl HO.out p n cap xs HN.out rfl HQ.out HA.out.2.2.2 ?h3 ?h4 ?_)
  case h3 => omega
  case h4 => exact HB.out.size
  intro v2 w2 zs k hz hk hown2 hg2 _
  have HB2 := hide (HB.out.grown hg2 HB.out.size (by intro k hk; simp [Value.ownBlock] at hk; subst hk; exact hB))
  have HO2 := hide hown2
  clear hown2 hg2
  go_wp2
  go_ret
  have e1 : zs = f := by rw [hz.out, hN.out]
  refine ⟨v2, rfl, ?_, HB2.out⟩
  rw [← e1, hk.out]
  exact HO2.out

end Go.Proofs.Ytmkoefnnpficfaa
