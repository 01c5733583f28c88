/-
  Walks: a reader's End; 'string(b)' of a slice of bytes; 'known': some of the chapter's rows come out as they stand there.
-/
import Derived.Test.YtmkoefnnpficfaaWF
namespace Go.Proofs.Ytmkoefnnpficfaa
open Go.RowKit
variable {A : Nat → Prop}

theorem ret_i64 {a b : Int} (h : a = b) : Ending.returned (.int .i64 a) = .returned (.int .i64 b) := by rw [h]

theorem own_reader {w w' : World} {B b : Nat} {e : TypeId} {v : Value} {n : Nat} {xs : List Value} (h : w.ownsRow B e 1 v n xs) (hb : b < B) (hg : w.grownBy w' (some b)) : w'.ownsRow B e 1 v n xs := by
  refine h.kept hg ?_
  by_cases hv : v.ownBlock = none
  · exact Or.inl hv
  · exact Or.inr fun e => by have := (h.lt b e).1; omega

theorem own_below {w w' : World} {B : Nat} {e : TypeId} {v : Value} {n : Nat} {xs : List Value} (h : w.ownsRow B e 1 v n xs) (hb : Below w.heap.size w w') : w'.ownsRow B e 1 v n xs := by
  refine h.kept (below_grown hb none) ?_
  by_cases hv : v.ownBlock = none
  · exact Or.inl hv
  · exact Or.inr hv

theorem conv_any {w : World} {p : Option Addr} {xs : List Int} (h : BytesIn w p xs) (n c : Nat) (hn : xs.length = n) :
    (convert 23 9 (.slice p n c)).run Try.prog w = .ok (.string (strOfNums xs)) w := by
  subst hn
  rcases h.2 with rfl | ⟨b, o, rfl, hc⟩
  · cases p with
    | none => exact run_convert_bytes_nil w 23 5 Try.underlying23 Try.underlying5 0 c _ Try.underlying9
    | some a =>
      rw [run_convert_bytes_string w 23 9 5 _ _ c Try.underlying23 Try.underlying5 Try.underlying9]
      have hl : (loadCells a ([] : List Int).length).run Try.prog w = .ok (([] : List Int).map (Value.int .u8)).toArray w := by
        simp [loadCells, loadCellsFrom]
      exact run_bytesToString w a _ c [] hl
  · exact run_convert_bytes_arg w 23 5 Try.underlying23 Try.underlying5 b o _ c xs rfl hc _ Try.underlying9

set_option maxHeartbeats 400000 in
theorem end_nil (w : World) :
    Calls Try.prog 27 #[.pointer none] w fun e w' => e = .returned (.int .i64 0) ∧ w' = w := by
  go_enter Try.func27, Try.ntmps27
  go_wp2
  go_ret
  exact ⟨rfl, rfl⟩

def endOf (bs : List Int) (x : Int) : Int := if x = 0 then if bs = [] then 0 else 4 else x

set_option maxHeartbeats 400000 in
theorem end_at (b : Nat) (bs : List Int) (x : Int) (w : World) (hr : Rd A w b bs x) :
    Calls Try.prog 27 #[.pointer (some ⟨b, 0, none⟩)] w fun e w' => e = .returned (.int .i64 (endOf bs x)) ∧ w' = w := by
  obtain ⟨p, cap, h0, h1, f0, f1, hlc, hm, hs, hb, hne⟩ := hr
  clear hb hne
  by_cases hx : x = 0
  · subst hx
    by_cases hbs : bs = []
    · subst hbs
      go_enter Try.func27, Try.ntmps27
      go_wp2
      go_ret
      exact ⟨rfl, rfl⟩
    · have hpos : 0 < bs.length := by cases bs; exact absurd rfl hbs; simp
      have HB := hide hbs
      clear hbs
      generalize hn : bs.length = n at *
      clear hn
      go_enter Try.func27, Try.ntmps27
      go_wp2
      go_ret
      exact ⟨ret_i64 (by rw [endOf, if_pos rfl, if_neg HB.out]), rfl⟩
  · have hx' : (x != 0) = true := by simpa using hx
    have HX := hide hx
    clear hx
    go_enter Try.func27, Try.ntmps27
    go_wp2
    go_ret
    exact ⟨ret_i64 (by rw [endOf, if_neg HX.out]), rfl⟩

theorem rdTxt_known : rdTxt 2 [2, 97, 98, 129, 0] = .ok ([97, 98], [129, 0]) := by kernel_rfl
theorem rdNum_known : rdNum [129, 0] = some (128, []) := by decide +kernel
theorem numF_known : numF 16384 = [129, 128, 0] := by decide +kernel
theorem fixF_known : fixF 3 258 = [0, 1, 2] := by decide +kernel

set_option maxHeartbeats 1000000 in
set_option maxRecDepth 100000 in
theorem known_any (w : World) :
    Calls Try.prog 9 #[] w fun e w' => e = .returned (.bool true) ∧ Below w.heap.size w w' := by
  go_enter Try.func9, Try.ntmps9
  go_wp2_with fail
  have hb0 : BytesIn (w.alloc (.cells #[.int .u8 2, .int .u8 97, .int .u8 98, .int .u8 129, .int .u8 0] 5)) (some ⟨w.heap.size, 0, none⟩) [2, 97, 98, 129, 0] := by
    refine ⟨by decide, Or.inr ⟨_, _, rfl, ?_⟩⟩
    intro i hi
    have hi' : i < 5 := hi
    match i, hi' with
    | 0, _ => simp
    | 1, _ => simp
    | 2, _ => simp
    | 3, _ => simp
    | 4, _ => simp
  refine (open_any (some ⟨w.heap.size, 0, none⟩) 5 [2, 97, 98, 129, 0] _ (by decide) hb0).mono ?_
  rintro e w1 ⟨b, rfl, hbB, hrd, hbl⟩
  have hB1 : Below w.heap.size w w1 := ((Below.refl _ w).alloc (Nat.le_refl _) _).trans (hbl.mono (by simp))
  have hbB1 : w.heap.size ≤ b := by simp at hbB; omega
  have hbw1 := hrd.lt
  clear hb0 hbl hbB
  have HRD := hide hrd
  have HB1 := hide hB1
  clear hrd hB1
  go_wp2_with fail
  refine (rtxt_ok b _ 2 (by decide) _ HRD.out).mono ?_
  rintro e w2 (⟨er, hn, _⟩ | ⟨tx, rest, v, hn, rfl, hown, hrd2, hg2⟩)
  · rw [show (2 : Int).toNat = 2 from rfl, rdTxt_known] at hn; cases hn
  rw [show (2 : Int).toNat = 2 from rfl, rdTxt_known] at hn
  cases hn
  have HO2 := hide hown
  have HRD2 := hide hrd2
  have HB2 := hide (HB1.out.grown hg2 HB1.out.size (by intro k hk; cases hk; exact hbB1))
  clear hown hrd2 hg2 HRD HB1
  go_wp2_with fail
  refine (rnum_ok b _ _ HRD2.out).mono ?_
  rintro e w3 ⟨m, bs', x, rfl, hrd3, hg3, ⟨hn, _⟩ | ⟨hn, rfl, _⟩⟩
  · rw [rdNum_known] at hn; cases hn
  rw [rdNum_known] at hn
  cases hn
  have HO3 := hide (own_reader HO2.out hbw1 hg3)
  have HRD3 := hide hrd3
  have HB3 := hide (HB2.out.grown hg3 HB2.out.size (by intro k hk; cases hk; exact hbB1))
  obtain ⟨q, cq, rfl, _, _, hq, _⟩ := own_bytes HO3.out (by decide)
  have HQ := hide hq
  clear hrd3 hg3 HRD2 HB2 HO2 hq
  go_wp2_with fail
  refine (num_any 16384 (by decide) _).mono ?_
  rintro e w4 ⟨v4, rfl, hown4, hb4⟩
  rw [numF_known] at hown4
  obtain ⟨q4, c4, rfl, _, _, hq4, _⟩ := own_bytes hown4 (by decide)
  have hcv4 := conv_any hq4 3 c4 rfl
  have HRD4 := hide (HRD3.out.kept hb4)
  have HB4 := hide (HB3.out.trans (hb4.mono HB3.out.size))
  have HQ4 := hide (bytes_kept HQ.out (below_grown hb4 none) (fun a _ => by simp))
  clear hown4 hb4 hq4 HRD3 HB3 HQ HO3
  have e4 : strOfNums [129, 128, 0] = ⟨#[129, 128, 0]⟩ := rfl
  rw [e4] at hcv4
  clear e4
  go_wp2_with fail
  have hf := fixed_in 258 3 (by decide) (by decide) (by decide) w4
  rw [show ((3 : Nat) : Int) = 3 from rfl, show ((258 : Nat) : Int) = 258 from rfl] at hf
  refine hf.mono ?_
  rintro e w5 ⟨v5, rfl, hown5, hb5⟩
  rw [fixF_known] at hown5
  obtain ⟨q5, c5, rfl, _, _, hq5, _⟩ := own_bytes (xs := [0, 1, 2]) hown5 (by decide)
  have hcv5 := conv_any hq5 3 c5 rfl
  have HRD5 := hide (HRD4.out.kept hb5)
  have HB5 := hide (HB4.out.trans (hb5.mono HB4.out.size))
  have hcv6 := conv_any (bytes_kept HQ4.out (below_grown hb5 none) (fun a _ => by simp)) 2 cq rfl
  clear hown5 hb5 hq5 HRD4 HB4 HQ4 hf hcv4
  have e5 : strOfNums [0, 1, 2] = ⟨#[0, 1, 2]⟩ := rfl
  have e6 : strOfNums [97, 98] = ⟨#[97, 98]⟩ := rfl
  rw [e5] at hcv5
  rw [e6] at hcv6
  clear e5 e6
  go_wp2_with fail
  refine (end_at b _ _ _ HRD5.out).mono ?_
  rintro e w6 ⟨rfl, hw6⟩
  subst hw6
  rw [show endOf [] 0 = 0 from rfl]
  go_wp2
  go_ret
  exact ⟨rfl, HB5.out⟩

end Go.Proofs.Ytmkoefnnpficfaa
