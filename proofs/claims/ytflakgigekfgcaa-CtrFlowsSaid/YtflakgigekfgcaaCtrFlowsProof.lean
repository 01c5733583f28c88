/-
  CtrFlows: whatever the key, the nonce, the first piece's length and the pieces, a flow turns pieces from its place on, tells the place, refuses what is too much, and goes over its blocks: the law returns true. No condition.
-/
import Derived.Test.YtflakgigekfgcaaEO
import Derived.Test.YtflakgigekfgcaaCK
namespace Go.Proofs.Ytflakgigekfgcaa
namespace CtrFlowsProof
open Go.ChangeShapes Go.WideShapes Go.ChangeAt Go.WideMaps Go.WideElems Go.RowKit
set_option linter.unusedVariables false
set_option linter.unusedSimpArgs false

def Out (k : Int) (n : Nat) : Bool := decide (k < 0 ∨ 1048585 < k ∨ 40 < (n : Int))
def Big (f : Nat) : Bool := decide (1044576 < (f : Int) ∨ (f : Int) < 4000)

theorem Piece.grown {w w' : World} {g : Nat} {p : Option Addr} {c : Nat} {xs : List Nat} (h : Piece w p c xs) (hg : w.grownBy w' (some g)) (hne : ∀ a, p = some a → xs ≠ [] → a.block ≠ g) : Piece w' p c xs := ⟨bi_grown h.1 hg hne, h.2⟩

/-- what lies in memory -/
structure StF (w wr : World) (g : Nat) (key : List Nat) (nn a : Nat) (sp : Option Addr) (n : Nat) (P : Nat → Option Addr) (C : Nat → Nat) (B : Nat → List Nat) : Prop where
  k : Arr wr w.heap.size 22 (u8s key)
  f : Arr wr g 41 (flC key nn a true)
  l : Pieces wr sp n P C B
  bl : Below w.heap.size w wr
  hg : w.heap.size < g
  hs : ∀ b, sp = some b → n ≠ 0 → b.block < g
  hp : ∀ i, i < n → ∀ b, P i = some b → B i ≠ [] → b.block < g

theorem StF.kept {w wr w' : World} {g : Nat} {key : List Nat} {nn a : Nat} {sp : Option Addr} {n : Nat} {P : Nat → Option Addr} {C : Nat → Nat} {B : Nat → List Nat} (r : StF w wr g key nn a sp n P C B) (h : Below wr.heap.size wr w') : StF w w' g key nn a sp n P C B := by
  refine ⟨r.k.kept h, r.f.kept h, ⟨?_, fun i hi => (r.l.2.1 i hi).kept h, r.l.2.2⟩, r.bl.trans (h.mono r.bl.size), r.hg, r.hs, r.hp⟩
  rcases r.l.1 with h0 | ⟨q, o, hq, hc⟩
  · exact Or.inl h0
  · exact Or.inr ⟨q, o, hq, fun i hi => (h.cell (p := ⟨q, o + i, none⟩) (block_lt_of_cell (hc i hi))).trans (hc i hi)⟩

theorem StF.turned {w wr w' : World} {g : Nat} {key : List Nat} {nn a a2 : Nat} {sp : Option Addr} {n : Nat} {P : Nat → Option Addr} {C : Nat → Nat} {B : Nat → List Nat} (r : StF w wr g key nn a sp n P C B) (h : wr.grownBy w' (some g)) (hA : Arr w' g 41 (flC key nn a2 true)) : StF w w' g key nn a2 sp n P C B := by
  have e := r.hg
  refine ⟨r.k.keptR h (by simp; omega), hA, ⟨?_, fun i hi => Piece.grown (r.l.2.1 i hi) h (fun b hb hn => by have := r.hp i hi b hb hn; omega), r.l.2.2⟩, r.bl.grown h r.bl.size (fun j ej => by cases ej; omega), r.hg, r.hs, r.hp⟩
  rcases r.l.1 with h0 | ⟨q, o, hq, hc⟩
  · exact Or.inl h0
  · by_cases hn : n = 0
    · exact Or.inl hn
    · exact Or.inr ⟨q, o, hq, fun i hi => h.cell (hc i hi) (by have := r.hs _ hq hn; simp only at this ⊢; intro e'; cases e'; omega)⟩

set_option maxHeartbeats 8000000 in
set_option maxRecDepth 100000 in
theorem walk_in (key : List Nat) (R : Nat → List Nat → List Nat) (nn n : Nat) (k : Int) (sp : Option Addr) (sc : Nat) (P : Nat → Option Addr) (C : Nat → Nat) (B : Nat → List Nat) (w : World) (hk : Blk key) (hl : Pieces w sp n P C B) (hk1 : -9223372036854775808 ≤ k) (hk2 : k ≤ 9223372036854775807)
    (hRl : ∀ a xs, (R a xs).length = xs.length) (hRb : ∀ a xs, BytesN xs → BytesN (R a xs))
    (h1 : ∀ v, Calls Try.prog 13 #[.agg (u8s key).toArray, .int .u64 (nn : Int)] v fun r w' => ∃ g, r = .returned (.pointer (some ⟨g, 0, none⟩)) ∧ v.heap.size ≤ g ∧ Arr w' g 41 (flC key nn 0 true) ∧ Below v.heap.size v w')
    (h2 : ∀ v g (p : Option Addr) (c a m a2 : Nat) xs, Arr v g 41 (flC key nn a true) → Piece v p c xs → xs.length = m → a + m = a2 → a2 ≤ 1048576 → Calls Try.prog 14 #[.pointer (some ⟨g, 0, none⟩), .slice p m c] v fun r w' => ∃ u, r = .returned (.tuple #[u, .int .i64 0]) ∧ w'.ownsRow v.heap.size 5 1 u m (u8s (R a xs)) ∧ Arr w' g 41 (flC key nn a2 true) ∧ v.grownBy w' (some g))
    (h3 : ∀ v g (p : Option Addr) (c a m : Nat), Arr v g 41 (flC key nn a true) → a ≤ 1048576 → m < 4611686018427387904 → 1048576 < a + m → Calls Try.prog 14 #[.pointer (some ⟨g, 0, none⟩), .slice p m c] v fun r w' => r = .returned (.tuple #[.slice none 0 0, .int .i64 3]) ∧ w' = v)
    (h4 : ∀ v (p : Option Addr) (c a m : Nat) xs, Piece v p c xs → xs.length = m → a ≤ 1048576 → m ≤ 1048576 → Calls Try.prog 11 #[.agg (u8s key).toArray, .int .u64 (nn : Int), .int .i64 (a : Int), .slice p m c] v fun r w' => ∃ u, r = .returned u ∧ w'.ownsRow v.heap.size 5 1 u m (u8s (R a xs)) ∧ Below v.heap.size v w')
    (h5 : ∀ v g a, Arr v g 41 (flC key nn a true) → Calls Try.prog 15 #[.pointer (some ⟨g, 0, none⟩)] v fun r w' => r = .returned (.int .i64 (a : Int)) ∧ w' = v)
    (h6 : ∀ v g a q, Arr v g 41 (flC key nn a true) → a ≤ 1048576 → q = a / 16 → Calls Try.prog 16 #[.pointer (some ⟨g, 0, none⟩), .agg (u8s key).toArray, .int .u64 (nn : Int), .int .i64 (q : Int)] v fun e w' => e = .returned (.bool true) ∧ Below v.heap.size v w') :
    Calls Try.prog 5 #[.agg (u8s key).toArray, .int .u64 (nn : Int), .int .i64 k, .slice sp n sc] w fun e w' => e = .returned (.bool true) ∧ Below w.heap.size w w' := by
  obtain ⟨i0, hi, hz0, hz1, hz2⟩ := info_parts infoU8
  have H1 := hide h1
  have H2 := hide h2
  have H3 := hide h3
  have H4 := hide h4
  have H5 := hide h5
  have H6 := hide h6
  have HRL := hide hRl
  have HRB := hide hRb
  have HL := hide hl
  have IK := hide (szb hk)
  have IKl := hide (szl hk)
  have A0 : Hid (Arr (w.alloc (Obj.cells (u8s key).toArray 22)) w.heap.size 22 (u8s key) ∧ Below w.heap.size w (w.alloc (Obj.cells (u8s key).toArray 22))) := ⟨Arr.new w _ _, (Below.refl _ _).alloc (Nat.le_refl _) _⟩
  have HS : Hid (∀ b, sp = some b → n ≠ 0 → b.block < w.heap.size) := fun b hb hn => by
    rcases hl.1 with h0 | ⟨q, o, hq, hc⟩
    · exact (hn h0).elim
    · rw [hq] at hb; cases hb; exact block_lt_of_cell (hc 0 (by omega))
  have HP : Hid (∀ i, i < n → ∀ b, P i = some b → B i ≠ [] → b.block < w.heap.size) := fun i hi' => piece_lt (hl.2.1 i hi')
  have hnm := hl.2.2
  unfold maxLen at hnm
  clear hk hl h1 h2 h3 h4 h5 h6 hRl hRb
  go_enter Try.func5, Try.ntmps5
  go_wp2_with fail
  generalize w.alloc (Obj.cells (u8s key).toArray 22) = w1 at *
  refine (known_any w1).mono ?_
  rintro e w2 ⟨rfl, hb⟩
  have A2 : Hid (Arr w2 w.heap.size 22 (u8s key) ∧ Below w.heap.size w w2) := ⟨A0.out.1.kept hb, A0.out.2.trans (hb.mono A0.out.2.size)⟩
  clear hb A0
  go_upto_region 3 with fail
  go_cut [28] (fun s28 wc => s28 = .bool (Out k n) ∧ wc = w2)
  case first =>
    clear H1 H2 H3 H4 H5 H6 A2
    by_cases g1 : k < 0
    · have d1 : decide (k < 0) = true := decide_eq_true g1
      have e : Out k n = true := by simp [Out, g1]
      go_wp2
      go_meet
      case rel => exact ⟨by rw [e], rfl⟩
    have d1 : decide (k < 0) = false := decide_eq_false g1
    by_cases g2 : 1048585 < k
    · have d2 : decide (1048585 < k) = true := decide_eq_true g2
      have e : Out k n = true := by simp [Out, g2]
      go_wp2
      go_meet
      case rel => exact ⟨by rw [e], rfl⟩
    have d2 : decide (1048585 < k) = false := decide_eq_false g2
    have e : Out k n = decide ((40 : Int) < (n : Int)) := by unfold Out; exact decide_eq_decide.2 ⟨fun h => by omega, fun h => by omega⟩
    go_wp2
    go_meet
    case rel => exact ⟨by rw [e], rfl⟩
  case rest =>
    obtain ⟨rfl, rfl⟩ := hcut
    cases hF : Out k n
    · obtain ⟨f, rfl, hf, hn40⟩ : ∃ f : Nat, k = (f : Int) ∧ f ≤ 1048585 ∧ n ≤ 40 := by
        have h1' := of_decide_eq_false hF
        exact ⟨k.toNat, by omega, by omega, by omega⟩
      clear hk1 hk2 hF
      go_wp2_with (refine wpList_load_row rfl 22 _ rfl w.heap.size rfl 22 _ (0, 0) _ A2.out.1 Try.underlying22 rfl IK.out ?_)
      refine (H1.out wc).mono ?_
      rintro r w3 ⟨g, rfl, hg, hAg, hb⟩
      have hwk := A2.out.1.lt
      have hgk : w.heap.size < g := by omega
      have A3 : Hid (StF w w3 g key nn 0 sp n P C B) := by
        have hL0 := HL.out
        have h2b := A2.out.2
        have hL2 : Pieces wc sp n P C B := by
          refine ⟨?_, fun i hi => (hL0.2.1 i hi).kept h2b, hL0.2.2⟩
          rcases hL0.1 with h0 | ⟨q, o, hq, hc⟩
          · exact Or.inl h0
          · exact Or.inr ⟨q, o, hq, fun i hi => (h2b.cell (p := ⟨q, o + i, none⟩) (block_lt_of_cell (hc i hi))).trans (hc i hi)⟩
        have hL3 : Pieces w3 sp n P C B := by
          refine ⟨?_, fun i hi => (hL2.2.1 i hi).kept hb, hL2.2.2⟩
          rcases hL2.1 with h0 | ⟨q, o, hq, hc⟩
          · exact Or.inl h0
          · exact Or.inr ⟨q, o, hq, fun i hi => (hb.cell (p := ⟨q, o + i, none⟩) (block_lt_of_cell (hc i hi))).trans (hc i hi)⟩
        exact ⟨A2.out.1.kept hb, hAg, hL3, h2b.trans (hb.mono h2b.size), hgk, fun b e1 e2 => Nat.lt_trans (HS.out b e1 e2) hgk, fun i e0 b e1 e2 => Nat.lt_trans (HP.out i e0 b e1 e2) hgk⟩
      clear hb hAg A2 H1 HL HS HP hwk hgk hg
      go_upto_region 9 with fail
      go_cut [39] (fun s39 wc => s39 = .bool (Big f) ∧ wc = w3)
      case first =>
        clear H2 H3 H4 H5 H6 A3
        by_cases g1 : (1044576 : Int) < (f : Int)
        · have d1 : decide ((1044576 : Int) < (f : Int)) = true := decide_eq_true g1
          have e : Big f = true := by simp [Big, g1]
          go_wp2
          go_meet
          case rel => exact ⟨by rw [e], rfl⟩
        have d1 : decide ((1044576 : Int) < (f : Int)) = false := decide_eq_false g1
        have e : Big f = decide ((f : Int) < 4000) := by unfold Big; exact decide_eq_decide.2 ⟨fun h => by omega, fun h => by omega⟩
        go_wp2
        go_meet
        case rel => exact ⟨by rw [e], rfl⟩
      case rest =>
        obtain ⟨rfl, rfl⟩ := hcut
        go_upto_if 39 with fail
        go_cut [10, 11, 12] (fun s10 s11 s12 wx => ∃ a : Nat, s10 = .int .i64 (a : Int) ∧ a ≤ 1048576 ∧ Hid (StF w wx g key nn a sp n P C B))
        case first =>
          clear H4 H5 H6
          cases hB : Big f
          · go_wp2
            go_meet
            case rel => exact ⟨0, rfl, by omega, A3⟩
          · clear hB
            go_wp2_with (at_make; refine wpList_make_full _ rfl _ _ 25 rfl wc.heap.size 5 i0 (.int .u8 0) 1 Try.underlying25 hi hz0 hz1 .i64 .i64 _ _ f rfl rfl rfl rfl ?m1 ?m2 ?m3 ?_)
            case m1 => rw [hz2]; omega
            case m2 => unfold maxLen; omega
            case m3 => exact Nat.le_refl _
            intro w4 hown hgrow
            have ho6 : w4.ownsRow wc.heap.size 5 1 (.slice (some ⟨wc.heap.size, 0, none⟩) f f) f (u8s (List.replicate f 0)) := by rw [made_u8] at hown; exact hown
            obtain ⟨p5, c5, hv5, hP5, _⟩ := own_piece_n ho6 (by simp) (fun x hx => by rw [List.eq_of_mem_replicate hx]; omega)
            have A4 := hide (A3.out.kept (grown_below hgrow (Nat.le_refl _) (by intro k hk; cases hk)))
            have HP5 := hide hP5
            rw [hv5]
            clear hown hgrow ho6 hP5 hv5 A3 hi hz0 hz1 hz2
            by_cases hlong : 1048576 < f
            · have hli : (1048576 : Int) < (f : Int) := by omega
              go_wp2_with fail
              refine (H3.out w4 g p5 c5 0 f A4.out.f (by omega) (by omega) (by omega)).mono ?_
              rintro r w5 ⟨rfl, rfl⟩
              go_wp2
              go_meet
              case rel => exact ⟨0, rfl, by omega, A4⟩
            · have hli : ¬ (1048576 : Int) < (f : Int) := by omega
              go_wp2_with fail
              refine (H2.out w4 g p5 c5 0 f f _ A4.out.f HP5.out (by simp) (by omega) (by omega)).mono ?_
              rintro r w5 ⟨u, rfl, ho, hA5, hg5⟩
              obtain ⟨pu, cu, rfl, _, _⟩ := own_piece_n ho (by rw [HRL.out]; simp) (HRB.out _ _ (fun x hx => by rw [List.eq_of_mem_replicate hx]; omega))
              have A5 := hide (A4.out.turned hg5 hA5)
              clear ho hA5 hg5 A4 HP5
              have e0 : ((f : Int) != (f : Int)) = false := by simp
              go_wp2
              go_meet
              case rel => exact ⟨f, rfl, by omega, A5⟩
        case rest =>
          obtain ⟨a0, rfl, ha0, AS⟩ := hcut
          clear A3 hi hz0 hz1 hz2
          go_wp2
          go_loopg [10, 13, 14, 15] (n + 1) (fun fu s10 s13 s14 s15 wr => ∃ (a i : Nat), s10 = .int .i64 (a : Int) ∧ s13 = .int .i64 (i : Int) ∧ i ≤ n ∧ n - i < fu ∧ a ≤ 1048576 ∧ Hid (StF w wr g key nn a sp n P C B))
          case atStart => exact ⟨a0, 0, rfl, rfl, by omega, by omega, ha0, AS⟩
          case round =>
            obtain ⟨a, i, rfl, rfl, hi, hfu, ha, HR⟩ := hrel
            clear AS ha0
            by_cases hlt : i < n
            · have hlti : (i : Int) < (n : Int) := by omega
              obtain ⟨q, o, hq, hc⟩ : ∃ q o, sp = some ⟨q, o, none⟩ ∧ ∀ i, i < n → wr.cell? ⟨q, o + i, none⟩ = some (.slice (P i) (B i).length (C i)) := by
                rcases HR.out.l.1 with h0 | h
                · omega
                · exact h
              subst hq
              have c1 := hc i hlt
              have hp := HR.out.l.2.1 i hlt
              have hpg := HR.out.hp i hlt
              have hqg : q < g := HR.out.hs ⟨q, o, none⟩ rfl (by omega)
              clear hc
              obtain ⟨m, hm⟩ : ∃ m, (B i).length = m := ⟨_, rfl⟩
              rw [hm] at c1
              generalize P i = p at *
              generalize C i = c at *
              generalize B i = xs at *
              have HPX := hide hp
              have HM := hide hm
              have HPG := hide hpg
              have hmc : m ≤ 9223372036854775807 := by have := hp.2.2.2.1; have := hp.2.2.2.2; unfold maxLen at *; omega
              clear hp hm hpg
              by_cases h300 : 300 < m
              · have h300i : (300 : Int) < (m : Int) := by omega
                have HB := hide HR.out.bl
                clear HR H2 H3 H4 H5 H6
                go_wp2
                go_ret
                exact ⟨rfl, HB.out⟩
              · have h300i : ¬ (300 : Int) < (m : Int) := by omega
                obtain ⟨r, hr⟩ : ∃ r, r = 1048576 - a := ⟨_, rfl⟩
                have er : (1048576 : Int) - (a : Int) = (r : Int) := by omega
                by_cases hlong : r < m
                · have hli : (r : Int) < (m : Int) := by omega
                  have hh : 1048576 < a + m := by omega
                  have HH := hide hh
                  clear hr hh
                  go_wp2_with fail
                  refine (H3.out wr g p c a m HR.out.f ha (by omega) HH.out).mono ?_
                  rintro r1 w5 ⟨rfl, rfl⟩
                  go_wp2
                  go_roundg (n - i)
                  case measure => omega
                  case rel => exact ⟨a, i + 1, rfl, by go_num, by omega, by omega, ha, HR⟩
                · have hli : ¬ (r : Int) < (m : Int) := by omega
                  obtain ⟨a2, ha2⟩ : ∃ a2, a + m = a2 := ⟨_, rfl⟩
                  have b2 : a2 ≤ 1048576 := by omega
                  have ea : (a : Int) + (m : Int) = (a2 : Int) := by omega
                  have HA2 := hide ha2
                  have EA := hide ea
                  clear hr ha2 ea
                  go_wp2_with fail
                  refine (H2.out wr g p c a m a2 xs HR.out.f HPX.out HM.out HA2.out b2).mono ?_
                  rintro r1 w5 ⟨u, rfl, ho, hA5, hg5⟩
                  obtain ⟨pu, cu, rfl, hPu, _⟩ := own_piece_n ho (by rw [HRL.out, HM.out]) (HRB.out _ _ HPX.out.2.2.1)
                  have A5 := hide (HR.out.turned hg5 hA5)
                  have HPu := hide hPu
                  have HP5 := hide (Piece.grown HPX.out hg5 (fun b hb hn => Nat.ne_of_lt (HPG.out b hb hn)))
                  have C5 : Hid (w5.cell? ⟨q, o + i, none⟩ = some (.slice p m c)) := hg5.cell c1 (by intro e'; cases e'; exact Nat.lt_irrefl _ hqg)
                  clear ho hA5 hg5 hPu HR HA2 c1
                  have La : Hid (∀ v : World, Hid (Below w5.heap.size w5 v) → v.cell? ⟨q, o + i, none⟩ = some (.slice p m c)) := fun v h => (h.out.cell (p := ⟨q, o + i, none⟩) (block_lt_of_cell C5.out)).trans C5.out
                  have Lk : Hid (∀ v : World, Hid (Below w5.heap.size w5 v) → Arr v w.heap.size 22 (u8s key)) := fun v h => A5.out.k.kept h.out
                  have Cu : Hid (∀ v : World, Hid (Below w5.heap.size w5 v) → (convert 25 9 (.slice pu m cu)).run Try.prog v = .ok (.string (strF (R a xs))) v) := fun v h => conv_any (HPu.out.kept h.out).1 m (by rw [HRL.out, HM.out])
                  have c5 := C5.out
                  go_upto_region 26 with fail
                  clear c5
                  refine wp_region_held_drew (S := fun v => Hid (Below w5.heap.size w5 v)) (by kernel_rfl) (hide (Below.refl w5.heap.size w5).drew) (fun hHeld => ?_)
                  refine take_dstH (i := 0) (d := 101) (v := ?_) rfl rfl (by kernel_rfl) (by kernel_rfl) (by kernel_rfl) (fun _ _ _ h => h) (by rfl) hHeld ?_ ?_
                  rotate_left
                  · intro wZ hSw; clear hSw; go_simp; first | (with_reducible rfl) | (rw [if_pos (by omega)]; with_reducible rfl) | skip
                  try simp only [Act.put, List.setIfInBounds_toArray, List.set_cons_zero, List.set_cons_succ]
                  refine take_dstH (i := 1) (d := 102) (v := ?_) rfl rfl (by kernel_rfl) (by kernel_rfl) (by kernel_rfl) (fun _ _ _ h => h) (by rfl) hHeld ?_ ?_
                  rotate_left
                  · intro wZ hSw; clear hSw; go_simp; first | (with_reducible rfl) | (rw [if_pos (by omega)]; with_reducible rfl) | skip
                  try simp only [Act.put, List.setIfInBounds_toArray, List.set_cons_zero, List.set_cons_succ]
                  refine take_dstH (i := 2) (d := 103) (v := ?_) rfl rfl (by kernel_rfl) (by kernel_rfl) (by kernel_rfl) (fun _ _ _ h => h) (by rfl) hHeld ?_ ?_
                  rotate_left
                  · intro wZ hSw; clear hSw; go_simp; first | (with_reducible rfl) | (rw [if_pos (by omega)]; with_reducible rfl) | skip
                  try simp only [Act.put, List.setIfInBounds_toArray, List.set_cons_zero, List.set_cons_succ]
                  refine take_dstH (i := 3) (d := 104) (v := ?_) rfl rfl (by kernel_rfl) (by kernel_rfl) (by kernel_rfl) (fun _ _ _ h => h) (by rfl) hHeld ?_ ?_
                  rotate_left
                  · intro wZ hSw; clear hSw; go_simp; first | (with_reducible rfl) | (rw [if_pos (by omega)]; with_reducible rfl) | skip
                  try simp only [Act.put, List.setIfInBounds_toArray, List.set_cons_zero, List.set_cons_succ]
                  refine take_dstH (i := 4) (d := 105) (v := ?_) rfl rfl (by kernel_rfl) (by kernel_rfl) (by kernel_rfl) (fun _ _ _ h => h) (by rfl) hHeld ?_ ?_
                  rotate_left
                  · intro wZ hSw; have hfS := Cu.out wZ hSw; clear hSw; go_simp; first | (with_reducible rfl) | (rw [if_pos (by omega)]; with_reducible rfl) | skip
                  try simp only [Act.put, List.setIfInBounds_toArray, List.set_cons_zero, List.set_cons_succ]
                  refine take_dstH (i := 5) (d := 106) (v := ?_) rfl rfl (by kernel_rfl) (by kernel_rfl) (by kernel_rfl) (fun _ _ _ h => h) (by rfl) hHeld ?_ ?_
                  rotate_left
                  · intro wZ hSw; refine exec_load_all 22 (.tmp 4) ?_ w.heap.size ?_ 22 (u8s key) _ (Lk.out wZ hSw) Try.underlying22 rfl IKl.out <;> rfl
                  try simp only [Act.put, List.setIfInBounds_toArray, List.set_cons_zero, List.set_cons_succ]
                  refine take_dstH (i := 6) (d := 107) (v := ?_) rfl rfl (by kernel_rfl) (by kernel_rfl) (by kernel_rfl) (fun _ _ _ h => h) (by rfl) hHeld ?_ ?_
                  rotate_left
                  · intro wZ hSw; clear hSw; go_simp; first | (with_reducible rfl) | (rw [if_pos (by omega)]; with_reducible rfl) | skip
                  try simp only [Act.put, List.setIfInBounds_toArray, List.set_cons_zero, List.set_cons_succ]
                  refine take_dstH (i := 7) (d := 108) (v := ?_) rfl rfl (by kernel_rfl) (by kernel_rfl) (by kernel_rfl) (fun _ _ _ h => h) (by rfl) hHeld ?_ ?_
                  rotate_left
                  · intro wZ hSw; clear hSw; go_simp; first | (with_reducible rfl) | (rw [if_pos (by omega)]; with_reducible rfl) | skip
                  try simp only [Act.put, List.setIfInBounds_toArray, List.set_cons_zero, List.set_cons_succ]
                  refine take_dstH (i := 8) (d := 109) (v := ?_) rfl rfl (by kernel_rfl) (by kernel_rfl) (by kernel_rfl) (fun _ _ _ h => h) (by rfl) hHeld ?_ ?_
                  rotate_left
                  · intro wZ hSw; clear hSw; go_simp; first | (with_reducible rfl) | (rw [if_pos (by omega)]; with_reducible rfl) | skip
                  try simp only [Act.put, List.setIfInBounds_toArray, List.set_cons_zero, List.set_cons_succ]
                  refine take_dstH (i := 9) (d := 110) (v := ?_) rfl rfl (by kernel_rfl) (by kernel_rfl) (by kernel_rfl) (fun _ _ _ h => h) (by rfl) hHeld ?_ ?_
                  rotate_left
                  · intro wZ hSw; clear hSw; go_simp; first | (with_reducible rfl) | (rw [if_pos (by omega)]; with_reducible rfl) | skip
                  try simp only [Act.put, List.setIfInBounds_toArray, List.set_cons_zero, List.set_cons_succ]
                  refine take_dstH (i := 10) (d := 111) (v := ?_) rfl rfl (by kernel_rfl) (by kernel_rfl) (by kernel_rfl) (fun _ _ _ h => h) (by rfl) hHeld ?_ ?_
                  rotate_left
                  · intro wZ hSw; clear hSw; go_simp; first | (with_reducible rfl) | (rw [if_pos (by omega)]; with_reducible rfl) | skip
                  try simp only [Act.put, List.setIfInBounds_toArray, List.set_cons_zero, List.set_cons_succ]
                  refine take_dstH (i := 11) (d := 112) (v := ?_) rfl rfl (by kernel_rfl) (by kernel_rfl) (by kernel_rfl) (fun _ _ _ h => h) (by rfl) hHeld ?_ ?_
                  rotate_left
                  · intro wZ hSw; have hfS := La.out wZ hSw; clear hSw; go_simp; first | (with_reducible rfl) | (rw [if_pos (by omega)]; with_reducible rfl) | skip
                  try simp only [Act.put, List.setIfInBounds_toArray, List.set_cons_zero, List.set_cons_succ]
                  refine wpAnyH_ready (rs := [12]) (by kernel_rfl) (by simp) ?_
                  refine (AllReadyH.cons rfl (fun K hK => ?_) AllReadyH.nil)
                  go_simp
                  refine (H4.out _ p c a m xs (HP5.out.kept (Hid.out hHeld)) HM.out ha (by omega)).mono ?_; rintro r1 w8 ⟨u, rfl, ho, hb⟩; obtain ⟨pt, ct, rfl, hPt, _⟩ := own_piece_n ho (by rw [HRL.out, HM.out]) (HRB.out _ _ HPX.out.2.2.1); have HBe : Hid (Below w5.heap.size w5 w8) := (Hid.out hHeld).trans (hb.mono (Hid.out hHeld).size); have cvt := conv_any hPt.1 (c := ct) m (by rw [HRL.out, HM.out]); clear ho hb
                  go_wp2_with fail
                  refine hK.out _ _ ?_ (fun hHeld => ?_)
                  · exact HBe
                  clear hK K
                  try simp only [Act.put, List.setIfInBounds_toArray, List.set_cons_zero, List.set_cons_succ]
                  refine wpAnyH_ready (rs := [13]) (by kernel_rfl) (by simp) ?_
                  refine (AllReadyH.cons rfl (fun K hK => ?_) AllReadyH.nil)
                  go_simp
                  refine hK.out _ _ ?_ (fun hHeld => ?_)
                  · exact hHeld
                  clear hK K
                  try simp only [Act.put, List.setIfInBounds_toArray, List.set_cons_zero, List.set_cons_succ]
                  refine take_dstH (i := 14) (d := 115) (v := ?_) rfl rfl (by kernel_rfl) (by kernel_rfl) (by kernel_rfl) (fun _ _ _ h => h) (by rfl) hHeld ?_ ?_
                  rotate_left
                  · intro wZ hSw; clear hSw; go_simp; first | (with_reducible rfl) | (rw [if_pos (by omega)]; with_reducible rfl) | skip
                  try simp only [Act.put, List.setIfInBounds_toArray, List.set_cons_zero, List.set_cons_succ]
                  refine take_dstH (i := 15) (d := 116) (v := ?_) rfl rfl (by kernel_rfl) (by kernel_rfl) (by kernel_rfl) (fun _ _ _ h => h) (by rfl) hHeld ?_ ?_
                  rotate_left
                  · intro wZ hSw; clear hSw; go_simp; first | (with_reducible rfl) | (rw [if_pos (by omega)]; with_reducible rfl) | skip
                  try simp only [Act.put, List.setIfInBounds_toArray, List.set_cons_zero, List.set_cons_succ]
                  refine wpAnyH_done (by kernel_rfl) ?_ _
                  have A8 := hide (A5.out.kept (Hid.out hHeld))
                  have c8 := (HBe.out.cell (p := ⟨q, o + i, none⟩) (block_lt_of_cell C5.out)).trans C5.out
                  have wa2 : wrap64 (a2 : Int) = (a2 : Int) := by unfold wrap64; omega
                  have ea := EA.out
                  clear hHeld HPu HP5 C5 Lk La Cu hPt HBe cvt A5 H4 er hli h300i
                  go_wp2_with fail
                  refine (H5.out w8 g a2 A8.out.f).mono ?_
                  rintro r1 w9 ⟨rfl, rfl⟩
                  have ee : ((a2 : Int) != (a2 : Int)) = false := by simp
                  clear ea c8
                  go_wp2
                  go_roundg (n - i)
                  case measure => omega
                  case rel => exact ⟨a2, i + 1, rfl, by go_num, by omega, by omega, b2, A8⟩
            · have e : i = n := by omega
              subst e
              obtain ⟨q, hq⟩ : ∃ q, q = a / 16 := ⟨_, rfl⟩
              have eq16 : Int.tdiv (a : Int) 16 = (q : Int) := by rw [Int.tdiv_eq_ediv_of_nonneg (by omega)]; omega
              have wq : wrap64 (q : Int) = (q : Int) := by unfold wrap64; omega
              have HQ := hide hq
              clear hq H2 H3 H4
              go_wp2_with (refine wpList_load_row rfl 22 _ rfl w.heap.size rfl 22 _ (0, 0) _ HR.out.k Try.underlying22 rfl IK.out ?_)
              rw [wq]
              refine (H6.out wr g a q HR.out.f ha HQ.out).mono ?_
              rintro r1 w5 ⟨rfl, hb⟩
              have A5 := hide (HR.out.kept hb)
              clear hb HR HQ eq16 wq H6
              go_wp2_with fail
              refine (H5.out w5 g a A5.out.f).mono ?_
              rintro r1 w6 ⟨rfl, rfl⟩
              have ee : ((a : Int) == (a : Int)) = true := by simp
              go_wp2
              go_ret
              exact ⟨rfl, A5.out.bl⟩
    · go_wp2
      go_ret
      exact ⟨rfl, A2.out.2⟩

theorem walk (key : List Nat) (b : Int) (k : Int) (sp : Option Addr) (n sc : Nat) (P : Nat → Option Addr) (C : Nat → Nat) (B : Nat → List Nat) (w : World) (hk : Blk key) (hb : (Lit.int .u64 b).wf = true) (hkk : (Lit.int .i64 k).wf = true) (hl : Pieces w sp n P C B) :
    Calls Try.prog 5 #[.agg (u8s key).toArray, .int .u64 b, .int .i64 k, .slice sp n sc] w fun e w' => e = .returned (.bool true) ∧ Below w.heap.size w w' := by
  obtain ⟨nn, rfl, hnn⟩ := wf_u64 hb
  have bk := bounds_i64 hkk
  have BB := fun i => hbF_blk hk nn i
  refine walk_in key (trF (hbF key nn)) nn n k sp sc P C B w hk hl (by omega) (by omega) (fun a xs => trF_length _ _ _) (fun a xs hx => trF_bytes BB _ hx)
    (fun v => new_any key nn v hk) ?_ ?_ ?_ ?_ ?_
  · intro v g p c a m a2 xs hA hp hm h1 h2
    subst h1
    exact fturn_any key nn a g p m c xs v hk hnn hA hp hm h2
  · intro v g p c a m hA ha hm h
    exact fturn_long key nn a g p m c v hk.len hA ha hm h
  · intro v p c a m xs hp hm ha hm2
    exact rturn_any key nn a m p c xs v hk hp hm (by omega) hm2
  · intro v g a hA
    exact (at_at key nn a g true v hk.len hA).mono fun r w' h => by simpa using h
  · intro v g a q hA ha hq
    exact lawblocks_any key nn a g q v hk hnn hA ha hq

theorem own : ownKnob Try.prog.godebug = none := by kernel_rfl
theorem laidOut : laidOutB Try.prog = true := by kernel_rfl
set_option maxRecDepth 100000 in
theorem lifted (os : Os) (started : os.Started) (H : Type) (enc : TypeId × Value → H) :
    ReturnsInHanded {} Try.checked os 5 .any (Rows.ctrFlowsSpec.pre6 enc Try.prog Try.f5 Rows.ctrFlowsRow.domain false) (Rows.ctrFlowsSpec.post enc Try.prog Try.f5 false true false false) := by
  refine returnsInHanded_of_change (C := Try.checked) own started (by kernel_rfl) Try.func5
    (ChangeSpec.witness6 (enc := enc) (C := Try.checked) false ⟨#[], #[.agg (u8s z16).toArray, .int .u64 0, .int .i64 0, .slice none 0 0], []⟩ 8 (by kernel_rfl) (by kernel_rfl) (by kernel_rfl) (by kernel_rfl)) ?_
  intro W base args ds gs before hval0 hW hcnd _
  have hval : ∀ (j : Nat) t v, Try.f5.params[j]? = some t → args[j]? = some v → Value.okWide Try.prog W .any base t v := hval0
  have hW' := hW
  obtain ⟨p, q, hA0, hV, rfl, hfz, hnd⟩ := hW
  have hA : DataW.TrodAll enc Try.prog W 0 (fun _ => true) true Try.f5.params.toList args.toList ds p := hA0
  rw [Try.params5] at hA hval
  obtain ⟨v0, vs0, d0, ds0, p0, q0, hargs, rfl, rfl, h0, r0⟩ := trodAll_cons hA
  obtain ⟨v1, vs1, d1, ds1, p1, q1, rfl, rfl, rfl, h1, r1⟩ := trodAll_cons r0
  obtain ⟨v2, vs2, d2, ds2, p2, q2, rfl, rfl, rfl, h2, r2⟩ := trodAll_cons r1
  obtain ⟨v3, vs3, d3, ds3, p3, q3, rfl, rfl, rfl, h3, r3⟩ := trodAll_cons r2
  obtain ⟨rfl, rfl, rfl⟩ := trodAll_nil r3
  obtain rfl : args = #[v0, v1, v2, v3] := by cases args; simp_all
  obtain ⟨rfl, rfl⟩ := trodVars_none hV
  have k0 := h0
  obtain ⟨x0, rfl, w0, z0⟩ := open_blk (hval 0 22 v0 rfl rfl) h0
  obtain ⟨a1, rfl, rfl, rfl, w1⟩ := open_int Try.underlying23 (hval 1 23 v1 rfl rfl) h1
  obtain ⟨a2, rfl, rfl, rfl, w2⟩ := open_int Try.underlying3 (hval 2 3 v2 rfl rfl) h2
  obtain ⟨a3, len3, cap3, rfl⟩ := okWide_slice Try.underlying31 (hval 3 31 v3 rfl rfl)
  have k3 := h3
  have lt3 : ∀ x ∈ p3, x.block < W.heap.size := by obtain ⟨m, hm⟩ := k3; exact DataW.trod_lt m _ _ _ hm
  obtain ⟨fuel3, hf3⟩ := h3
  obtain ⟨a3', len3', cap3', P3, C3, B3, hcs3, w3⟩ := pieces_of hf3
  simp [Value.cells] at hcs3
  obtain ⟨rfl, rfl, rfl⟩ := hcs3
  clear hf3
  clear hA0 hval0
  refine (walk x0 a1 a2 a3 len3 cap3 P3 C3 B3 W w0 w1 w2 w3).mono fun e W' ⟨he, bel⟩ => ?_
  subst he
  exact ⟨_, rfl, _, _, _, [], _, [], hW', trodAll_mk1 (shut_bool Try.underlying4 _), (trodAll_cons_mk (Below.trod laidOut (by kernel_rfl) (of_decide_eq_true (by kernel_rfl)) k0 bel (fun x hx => (z0 x hx).elim)) (trodAll_cons_mk (shut_int Try.underlying23 w1) (trodAll_cons_mk (shut_int Try.underlying3 w2) (trodAll_cons_mk (Below.trod laidOut (by kernel_rfl) (of_decide_eq_true (by kernel_rfl)) k3 bel lt3) trodAll_mk0)))), rfl, bel.frame _, fun h => by cases h⟩

theorem over : Rows.ctrFlowsRow.holds Try.pinned (OpenSpec.ofChange Rows.ctrFlowsSpec) :=
  OpenClaim.holds_of_wide 5 Try.f5 rfl rfl rfl rfl rfl rfl rfl ⟨rfl, rfl, rfl, rfl, rfl⟩ rfl rfl rfl rfl rfl (by kernel_rfl) Try.func5 (by kernel_rfl)
    (of_decide_eq_true (by kernel_rfl)) (by unfold Func.isWrapper; first | (rw [if_pos (by decide +kernel)]; kernel_rfl) | (rw [if_neg (by decide +kernel)]; exact ⟨rfl, rfl⟩))
    (fun os started H enc _ => lifted os started H enc)

end CtrFlowsProof

/-- A flow turns pieces from its place on, tells the place, goes over blocks, and refuses what is too much. -/
theorem ctrFlows_holds : Rows.CtrFlowsSaid := CtrFlowsProof.over

#print axioms ctrFlows_holds
end Go.Proofs.Ytflakgigekfgcaa
