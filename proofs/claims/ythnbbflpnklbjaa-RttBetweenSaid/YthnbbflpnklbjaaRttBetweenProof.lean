/-
  RttBetween: the mean lies between the least and the greatest sample that was heard, the wait within its bounds and not below the mean but for the greatest wait, and in two parts it is the same (of no samples, of more than 500, of numbers that are none, and of a cut outside, nothing more is asked): the law returns true, and what is handed in stays. No condition.
-/
import Derived.Test.YthnbbflpnklbjaaTH
namespace Go.Proofs.Ythnbbflpnklbjaa
namespace RttBetweenProof
open Go.ChangeShapes Go.WideShapes Go.ChangeAt Go.WideMaps Go.WideElems Go.RowKit
set_option linter.unusedVariables false

/-- samples within bounds leave the middle within them -/
def Mid (lo hi : Int) (m : Me) : Prop := 8 * lo ≤ m.b ∧ m.b ≤ 8 * hi + 7
theorem mid_one {lo hi s : Int} {m : Me} (h : m.a = 0 ∨ Mid lo hi m) (h1 : lo ≤ s) (h2 : s ≤ hi) : Mid lo hi (m.one s) := by
  unfold Me.one Mid
  by_cases h0 : m.a = 0
  · rw [if_pos h0]; simp only; omega
  · rw [if_neg h0]
    rcases h with h | h
    · exact (h0 h).elim
    · simp only; unfold Mid at h; omega
theorem mid_all {lo hi : Int} : ∀ (l : List Int) {m : Me}, (m.a = 0 ∨ Mid lo hi m) → (∀ s ∈ l, lo ≤ s ∧ s ≤ hi) → l ≠ [] → Mid lo hi (m.all l)
  | [], _, _, _, hn => (hn rfl).elim
  | [s], _, h, hl, _ => mid_one h (hl s (by simp)).1 (hl s (by simp)).2
  | s :: t :: l, m, h, hl, _ => mid_all (t :: l) (m := m.one s) (Or.inr (mid_one h (hl s (by simp)).1 (hl s (by simp)).2)) (fun x hx => hl x (List.mem_cons_of_mem _ hx)) (by simp)
theorem many_all : ∀ (l : List Int) {m : Me}, 0 ≤ m.a → m.a + (l.length : Int) ≤ 1073741824 → (m.all l).a = m.a + (l.length : Int)
  | [], m, _, _ => by simp [Me.all]
  | s :: l, m, h0, h => by
    have hl : ((s :: l).length : Int) = (l.length : Int) + 1 := by simp
    rw [hl] at h ⊢
    have e : (m.one s).a = m.a + 1 := by
      unfold Me.one
      by_cases h1 : m.a = 0
      · rw [if_pos h1]; simp only; omega
      · rw [if_neg h1]; simp only; rw [if_pos (by omega)]
    have := many_all l (m := m.one s) (by omega) (by omega)
    show ((m.one s).all l).a = _
    rw [this, e]
    omega
theorem may0 : Me.none.may := by decide
theorem hear_all {m : Me} {l : List Int} (hm : m.may) (hl : ∀ s ∈ l, Samp s) : hearM m l = m.all l ∧ hearE m l = 0 := ⟨if_pos ⟨hm, hl⟩, if_pos ⟨hm, hl⟩⟩

/-- what is asked of the mean and the wait -/
structure Bt (lo hi mean wt : Int) : Prop where
  a : lo ≤ mean
  b : mean ≤ hi
  c : 50 ≤ wt
  d : wt ≤ 1000
  e : 1000 < mean ∧ wt = 1000 ∨ mean ≤ 1000 ∧ mean ≤ wt
theorem bt_any {lo hi : Int} {l : List Int} (hl : ∀ s ∈ l, lo ≤ s ∧ s ≤ hi ∧ Samp s) (hn : l ≠ []) (hlen : l.length ≤ 500) : Bt lo hi (meanF (Me.none.all l)) (waitF (Me.none.all l)) ∧ (Me.none.all l).a = (l.length : Int) := by
  have hmay := Me.may_all l may0 (fun s hs => (hl s hs).2.2)
  have hmid := mid_all l (m := Me.none) (lo := lo) (hi := hi) (Or.inl rfl) (fun s hs => ⟨(hl s hs).1, (hl s hs).2.1⟩) hn
  have hmany := many_all l (m := Me.none) (Int.le_refl _) (by show (0 : Int) + _ ≤ _; omega)
  have ha : (Me.none.all l).a = (l.length : Int) := by rw [hmany]; show (0 : Int) + _ = _; omega
  refine ⟨?_, ha⟩
  have hpos : 0 < l.length := by
    cases l with
    | nil => exact (hn rfl).elim
    | cons x l => simp
  have h0 : (Me.none.all l).a ≠ 0 := by omega
  have hm : meanF (Me.none.all l) = (Me.none.all l).b / 8 := if_pos hmay
  have hw : waitF (Me.none.all l) = clF 50 1000 ((Me.none.all l).b / 8 + (Me.none.all l).c) := if_pos ⟨hmay, h0⟩
  rw [hm, hw]
  obtain ⟨_, _, h3, h4, h5, h6, _⟩ := hmay
  obtain ⟨m1, m2⟩ := hmid
  generalize (Me.none.all l).b = b at *
  generalize (Me.none.all l).c = c at *
  refine ⟨by omega, by omega, ?_, ?_, ?_⟩
  · unfold clF; repeat' split
    all_goals omega
  · unfold clF; repeat' split
    all_goals omega
  · unfold clF; repeat' split
    all_goals omega

/-- how the samples lie within what was found -/
def In (xs : List Int) (k : Nat) (lo hi : Int) : Prop := ∀ s ∈ xs.take k, lo ≤ s ∧ s ≤ hi ∧ Samp s
theorem In.next {xs : List Int} {k : Nat} {lo hi : Int} (h : In xs k lo hi) (hk : k < xs.length) (hs : Samp (xs.getD k 0)) :
    In xs (k + 1) (if xs.getD k 0 < lo then xs.getD k 0 else lo) (if xs.getD k 0 > hi then xs.getD k 0 else hi) := by
  intro s hm
  rw [List.take_add_one] at hm
  rcases List.mem_append.1 hm with h1 | h1
  · obtain ⟨a, b, c⟩ := h s h1
    refine ⟨?_, ?_, c⟩
    · split <;> omega
    · split <;> omega
  · have : s = xs.getD k 0 := by simp [hk] at h1; simp [List.getD, hk, h1]
    subst this
    refine ⟨?_, ?_, hs⟩
    · split <;> omega
    · split <;> omega

/-- a meter's block that is made -/
theorem wp_alloc_me {w : World} {o : Oper} {a : Act} {K : Act → World → Prop} {Q : Exit → Act → World → Prop} {dd : Nat} (hdd : o.dst = some dd) (ho : o.op = .alloc 23)
    (h : ∀ g w', Arr w' g 23 (meC Me.none) → Below w.heap.size w w' → w.heap.size ≤ g → K (a.put (some dd) (.pointer (some ⟨g, 0, none⟩))) w') : o.wp Try.prog a w K Q := by
  have hk := h w.heap.size (w.alloc (.cells (meC Me.none).toArray 23)) (Arr.new w _ _) ((Below.refl _ _).alloc (Nat.le_refl _) _) (Nat.le_refl _)
  rw [← hdd] at hk
  unfold Oper.wp
  have hz : (zeroValue 23).run Try.prog w = .ok (meV Me.none) w := by kernel_rfl
  simp [execOp, ho, Result.andThen, Instr.alloc, hz]
  exact hk

set_option maxHeartbeats 8000000 in
set_option maxRecDepth 100000 in
theorem walk_no (p : Option Addr) (c n : Nat) (cut : Int) (w : World) (hno : n = 0 ∨ 500 < n) :
    Calls Try.prog 5 #[.slice p n c, .int .i64 cut] w fun e w' => e = .returned (.bool true) ∧ Below w.heap.size w w' := by
  have HNO := hide hno
  clear hno
  go_enter Try.func5, Try.ntmps5
  go_wp2_with fail
  refine (known_any w).mono ?_
  rintro e w2 ⟨rfl, hb⟩
  have A2 := hide hb
  clear hb
  by_cases g1 : n = 0
  · have g1' : ((n : Int) == 0) = true := by simp; omega
    clear g1
    go_wp2
    go_ret
    exact ⟨rfl, A2.out⟩
  have g1' : ((n : Int) == 0) = false := by simp; omega
  have g2 : (500 : Int) < (n : Int) := by
    rcases HNO.out with h | h
    all_goals omega
  go_wp2
  go_ret
  exact ⟨rfl, A2.out⟩

/-- what lies in memory -/
structure StB (w wr : World) (m a : Me) (g8 g12 : Nat) : Prop where
  m : Arr wr g8 23 (meC m)
  a : Arr wr g12 23 (meC a)
  h : w.heap.size ≤ g8 ∧ w.heap.size ≤ g12
  w : Below w.heap.size w wr
theorem StB.kept {w wr w' : World} {m a : Me} {g8 g12 : Nat} (h : StB w wr m a g8 g12) (hb : Below wr.heap.size wr w') : StB w w' m a g8 g12 :=
  ⟨h.m.kept hb, h.a.kept hb, h.h, h.w.trans (hb.mono h.w.size)⟩
theorem StB.drew {w wr : World} {m a : Me} {g8 g12 : Nat} (h : StB w wr m a g8 g12) : StB w wr.drew m a g8 g12 := h.kept (Below.refl _ _).drew
theorem StB.store {w wr : World} {m a : Me} {g8 g12 g : Nat} (h : StB w wr m a g8 g12) (h1 : g8 < g) (h2 : g12 < g) (hlt : g < wr.heap.size) (us : Array Value) : StB w (wr.setRow g us) m a g8 g12 :=
  ⟨h.m.rowOther _ _ (by omega), h.a.rowOther _ _ (by omega), h.h, below_setRow h.w (by have := h.h; omega) hlt _⟩
theorem wrap_in {z : Int} (h1 : -1000000 ≤ z) (h2 : z ≤ 1000000) : wrap64 z = z := by unfold wrap64; omega

set_option maxHeartbeats 8000000 in
set_option maxRecDepth 100000 in
theorem walk_yes (p : Option Addr) (c n : Nat) (xs : List Int) (cut : Int) (w : World) (hP : IPiece w p c xs) (hn : xs.length = n) (h0 : 0 < n) (h500 : n ≤ 500) :
    Calls Try.prog 5 #[.slice p n c, .int .i64 cut] w fun e w' => e = .returned (.bool true) ∧ Below w.heap.size w w' := by
  have HP := hide hP
  have HN := hide hn
  obtain ⟨g, o, rfl, hc⟩ := hP.cell (by omega)
  have HC : Hid (∀ (v : World), Below w.heap.size w v → ∀ k, k < n → v.cell? ⟨g, o + k, none⟩ = some (.int .i64 (xs.getD k 0))) := fun v hb k hk => (hb.cell (block_lt_of_cell (hc k (by omega)))).trans (hc k (by omega))
  have HS0 := hide (show xs.getD 0 0 = xs.getD 0 0 from rfl)
  obtain ⟨x0, hx0⟩ : ∃ x0, xs.getD 0 0 = x0 := ⟨_, rfl⟩
  have HC0 : Hid (∀ (v : World), Below w.heap.size w v → v.cell? ⟨g, o, none⟩ = some (.int .i64 x0)) := fun v hb => by
    have := HC.out v hb 0 h0
    rw [hx0] at this
    exact this
  have HX0 := hide hx0
  clear HS0 hx0
  have HH := hide (fun (m : Me) (p : Option Addr) (c k : Nat) (l : List Int) (v : World) (h : IPiece v p c l) (hk : l.length = k) => hear_any m p c k l v h hk)
  have HCM : Hid (n ≤ c) := by rw [← hn]; exact hP.2.2.1
  clear hP hn hc
  have g1' : ((n : Int) == 0) = false := by simp; omega
  have g2 : decide ((500 : Int) < (n : Int)) = false := by simp; omega
  go_enter Try.func5, Try.ntmps5
  go_wp2_with fail
  refine (known_any w).mono ?_
  rintro e w2 ⟨rfl, hb⟩
  have A2 := hide hb
  clear hb
  go_upto_region 5 with fail
  refine wp_region_held_drew (S := fun v => Hid (Below w.heap.size w v)) (by kernel_rfl) (hide A2.out.drew) (fun hHeld => ?_)
  refine take_dstH (i := 0) (d := 26) (v := ?_) rfl rfl (by kernel_rfl) (by kernel_rfl) (by kernel_rfl) (fun _ _ _ h => h) (by rfl) hHeld ?_ ?_
  rotate_left
  · intro wZ hSw; clear hSw; go_simp; first | (with_reducible rfl) | (rw [if_pos (by omega)]; with_reducible rfl) | skip
  try simp only [Act.put, List.setIfInBounds_toArray, List.set_cons_zero, List.set_cons_succ]
  refine take_dstH (i := 1) (d := 27) (v := ?_) rfl rfl (by kernel_rfl) (by kernel_rfl) (by kernel_rfl) (fun _ _ _ h => h) (by rfl) hHeld ?_ ?_
  rotate_left
  · intro wZ hSw; clear hSw; go_simp; first | (with_reducible rfl) | (rw [if_pos (by omega)]; with_reducible rfl) | skip
  try simp only [Act.put, List.setIfInBounds_toArray, List.set_cons_zero, List.set_cons_succ]
  refine take_dstH (i := 2) (d := 28) (v := ?_) rfl rfl (by kernel_rfl) (by kernel_rfl) (by kernel_rfl) (fun _ _ _ h => h) (by rfl) hHeld ?_ ?_
  rotate_left
  · intro wZ hSw; have hfS := (fun (v : World) (hv : Hid (Below w.heap.size w v)) => show v.cell? ⟨g, o, none⟩ = some (.int .i64 x0) from HC0.out v hv.out) wZ hSw; clear hSw; go_simp; first | (with_reducible rfl) | (rw [if_pos (by omega)]; with_reducible rfl) | skip
  try simp only [Act.put, List.setIfInBounds_toArray, List.set_cons_zero, List.set_cons_succ]
  refine take_dstH (i := 3) (d := 29) (v := ?_) rfl rfl (by kernel_rfl) (by kernel_rfl) (by kernel_rfl) (fun _ _ _ h => h) (by rfl) hHeld ?_ ?_
  rotate_left
  · intro wZ hSw; clear hSw; go_simp; first | (with_reducible rfl) | (rw [if_pos (by omega)]; with_reducible rfl) | skip
  try simp only [Act.put, List.setIfInBounds_toArray, List.set_cons_zero, List.set_cons_succ]
  refine take_dstH (i := 4) (d := 30) (v := ?_) rfl rfl (by kernel_rfl) (by kernel_rfl) (by kernel_rfl) (fun _ _ _ h => h) (by rfl) hHeld ?_ ?_
  rotate_left
  · intro wZ hSw; clear hSw; go_simp; first | (with_reducible rfl) | (rw [if_pos (by omega)]; with_reducible rfl) | skip
  try simp only [Act.put, List.setIfInBounds_toArray, List.set_cons_zero, List.set_cons_succ]
  refine take_dstH (i := 5) (d := 31) (v := ?_) rfl rfl (by kernel_rfl) (by kernel_rfl) (by kernel_rfl) (fun _ _ _ h => h) (by rfl) hHeld ?_ ?_
  rotate_left
  · intro wZ hSw; have hfS := (fun (v : World) (hv : Hid (Below w.heap.size w v)) => show v.cell? ⟨g, o, none⟩ = some (.int .i64 x0) from HC0.out v hv.out) wZ hSw; clear hSw; go_simp; first | (with_reducible rfl) | (rw [if_pos (by omega)]; with_reducible rfl) | skip
  try simp only [Act.put, List.setIfInBounds_toArray, List.set_cons_zero, List.set_cons_succ]
  refine take_dstH (i := 6) (d := 5) (v := ?_) rfl rfl (by kernel_rfl) (by kernel_rfl) (by kernel_rfl) (fun _ _ _ h => h) (by rfl) hHeld ?_ ?_
  rotate_left
  · intro wZ hSw; clear hSw; go_simp; first | (with_reducible rfl) | (rw [if_pos (by omega)]; with_reducible rfl) | skip
  try simp only [Act.put, List.setIfInBounds_toArray, List.set_cons_zero, List.set_cons_succ]
  refine take_dstH (i := 7) (d := 6) (v := ?_) rfl rfl (by kernel_rfl) (by kernel_rfl) (by kernel_rfl) (fun _ _ _ h => h) (by rfl) hHeld ?_ ?_
  rotate_left
  · intro wZ hSw; clear hSw; go_simp; first | (with_reducible rfl) | (rw [if_pos (by omega)]; with_reducible rfl) | skip
  try simp only [Act.put, List.setIfInBounds_toArray, List.set_cons_zero, List.set_cons_succ]
  refine wpAnyH_done (by kernel_rfl) ?_ _
  have A3 := hide (Hid.out hHeld)
  clear A2 hHeld
  go_wp2_with fail
  go_loopg [5, 6, 7] (n + 1) (fun f s5 s6 s7 wr => ∃ (lo hi : Int) (k : Nat), s5 = .int .i64 lo ∧ s6 = .int .i64 hi ∧ s7 = .int .i64 (k : Int) ∧ k ≤ n ∧ n - k < f ∧ Hid (In xs k lo hi ∧ Below w.heap.size w wr))
  case atStart => exact ⟨x0, x0, 0, rfl, rfl, rfl, by omega, by omega, (fun s hs => by simp at hs), A3.out⟩
  case round =>
    obtain ⟨lo, hi, k, rfl, rfl, rfl, hk, hf, HT⟩ := hrel
    clear A3
    by_cases hkn : k < n
    · have HK := hide (fun (v : World) (hb : Below w.heap.size w v) => HC.out v hb k hkn)
      have HNX := hide (fun (hs : Samp (xs.getD k 0)) => HT.out.1.next (by rw [HN.out]; exact hkn) hs)
      generalize xs.getD k 0 = x at *
      have hck := HK.out wr HT.out.2
      clear HP HC HC0 HX0 HH HCM
      by_cases hs1 : x < 0
      · go_wp2
        go_ret
        exact ⟨rfl, HT.out.2⟩
      by_cases hs2 : 60000 < x
      · go_wp2
        go_ret
        exact ⟨rfl, HT.out.2⟩
      have HNY := hide (HNX.out ⟨by omega, by omega⟩)
      clear HNX
      obtain ⟨lo', hlo⟩ : ∃ lo', (if x < lo then x else lo) = lo' := ⟨_, rfl⟩
      obtain ⟨hi', hhi⟩ : ∃ hi', (if x > hi then x else hi) = hi' := ⟨_, rfl⟩
      rw [hlo, hhi] at HNY
      have HLO := hide hlo
      have HHI := hide hhi
      clear hlo hhi
      go_upto_region 11 with fail
      refine wp_region_held_drew (S := fun v => Hid (Below w.heap.size w v)) (by kernel_rfl) (hide HT.out.2.drew) (fun hHeld => ?_)
      refine take_dstH (i := 0) (d := 50) (v := ?_) rfl rfl (by kernel_rfl) (by kernel_rfl) (by kernel_rfl) (fun _ _ _ h => h) (by rfl) hHeld ?_ ?_
      rotate_left
      · intro wZ hSw; clear hSw; go_simp; first | (with_reducible rfl) | (rw [if_pos (by omega)]; with_reducible rfl) | skip
      try simp only [Act.put, List.setIfInBounds_toArray, List.set_cons_zero, List.set_cons_succ]
      refine take_dstH (i := 1) (d := 51) (v := ?_) rfl rfl (by kernel_rfl) (by kernel_rfl) (by kernel_rfl) (fun _ _ _ h => h) (by rfl) hHeld ?_ ?_
      rotate_left
      · intro wZ hSw; clear hSw; go_simp; first | (with_reducible rfl) | (rw [if_pos (by omega)]; with_reducible rfl) | skip
      try simp only [Act.put, List.setIfInBounds_toArray, List.set_cons_zero, List.set_cons_succ]
      refine take_dstH (i := 2) (d := 52) (v := ?_) rfl rfl (by kernel_rfl) (by kernel_rfl) (by kernel_rfl) (fun _ _ _ h => h) (by rfl) hHeld ?_ ?_
      rotate_left
      · intro wZ hSw; clear hSw; go_simp; first | (with_reducible rfl) | (rw [if_pos (by omega)]; with_reducible rfl) | skip
      try simp only [Act.put, List.setIfInBounds_toArray, List.set_cons_zero, List.set_cons_succ]
      refine take_dstH (i := 3) (d := 53) (v := ?_) rfl rfl (by kernel_rfl) (by kernel_rfl) (by kernel_rfl) (fun _ _ _ h => h) (by rfl) hHeld ?_ ?_
      rotate_left
      · intro wZ hSw; clear hSw; go_simp; first | (with_reducible rfl) | (rw [if_pos (by omega)]; with_reducible rfl) | skip
      try simp only [Act.put, List.setIfInBounds_toArray, List.set_cons_zero, List.set_cons_succ]
      refine take_dstH (i := 4) (d := 54) (v := ?_) rfl rfl (by kernel_rfl) (by kernel_rfl) (by kernel_rfl) (fun _ _ _ h => h) (by rfl) hHeld ?_ ?_
      rotate_left
      · intro wZ hSw; have hfS := (fun (v : World) (hv : Hid (Below w.heap.size w v)) => HK.out v hv.out) wZ hSw; clear hSw; go_simp; first | (with_reducible rfl) | (rw [if_pos (by omega)]; with_reducible rfl) | skip
      try simp only [Act.put, List.setIfInBounds_toArray, List.set_cons_zero, List.set_cons_succ]
      refine take_dstH (i := 5) (d := 55) (v := ?_) rfl rfl (by kernel_rfl) (by kernel_rfl) (by kernel_rfl) (fun _ _ _ h => h) (by rfl) hHeld ?_ ?_
      rotate_left
      · intro wZ hSw; refine exec_min (.tmp 50) (.tmp 54) #[3, 3] ?_ .i64 lo x lo' ?_ ?_ HLO.out <;> rfl
      try simp only [Act.put, List.setIfInBounds_toArray, List.set_cons_zero, List.set_cons_succ]
      refine take_dstH (i := 6) (d := 56) (v := ?_) rfl rfl (by kernel_rfl) (by kernel_rfl) (by kernel_rfl) (fun _ _ _ h => h) (by rfl) hHeld ?_ ?_
      rotate_left
      · intro wZ hSw; clear hSw; go_simp; first | (with_reducible rfl) | (rw [if_pos (by omega)]; with_reducible rfl) | skip
      try simp only [Act.put, List.setIfInBounds_toArray, List.set_cons_zero, List.set_cons_succ]
      refine take_dstH (i := 7) (d := 57) (v := ?_) rfl rfl (by kernel_rfl) (by kernel_rfl) (by kernel_rfl) (fun _ _ _ h => h) (by rfl) hHeld ?_ ?_
      rotate_left
      · intro wZ hSw; clear hSw; go_simp; first | (with_reducible rfl) | (rw [if_pos (by omega)]; with_reducible rfl) | skip
      try simp only [Act.put, List.setIfInBounds_toArray, List.set_cons_zero, List.set_cons_succ]
      refine take_dstH (i := 8) (d := 58) (v := ?_) rfl rfl (by kernel_rfl) (by kernel_rfl) (by kernel_rfl) (fun _ _ _ h => h) (by rfl) hHeld ?_ ?_
      rotate_left
      · intro wZ hSw; clear hSw; go_simp; first | (with_reducible rfl) | (rw [if_pos (by omega)]; with_reducible rfl) | skip
      try simp only [Act.put, List.setIfInBounds_toArray, List.set_cons_zero, List.set_cons_succ]
      refine take_dstH (i := 9) (d := 59) (v := ?_) rfl rfl (by kernel_rfl) (by kernel_rfl) (by kernel_rfl) (fun _ _ _ h => h) (by rfl) hHeld ?_ ?_
      rotate_left
      · intro wZ hSw; clear hSw; go_simp; first | (with_reducible rfl) | (rw [if_pos (by omega)]; with_reducible rfl) | skip
      try simp only [Act.put, List.setIfInBounds_toArray, List.set_cons_zero, List.set_cons_succ]
      refine take_dstH (i := 10) (d := 60) (v := ?_) rfl rfl (by kernel_rfl) (by kernel_rfl) (by kernel_rfl) (fun _ _ _ h => h) (by rfl) hHeld ?_ ?_
      rotate_left
      · intro wZ hSw; have hfS := (fun (v : World) (hv : Hid (Below w.heap.size w v)) => HK.out v hv.out) wZ hSw; clear hSw; go_simp; first | (with_reducible rfl) | (rw [if_pos (by omega)]; with_reducible rfl) | skip
      try simp only [Act.put, List.setIfInBounds_toArray, List.set_cons_zero, List.set_cons_succ]
      refine take_dstH (i := 11) (d := 61) (v := ?_) rfl rfl (by kernel_rfl) (by kernel_rfl) (by kernel_rfl) (fun _ _ _ h => h) (by rfl) hHeld ?_ ?_
      rotate_left
      · intro wZ hSw; refine exec_max (.tmp 56) (.tmp 60) #[3, 3] ?_ .i64 hi x hi' ?_ ?_ HHI.out <;> rfl
      try simp only [Act.put, List.setIfInBounds_toArray, List.set_cons_zero, List.set_cons_succ]
      refine take_dstH (i := 12) (d := 5) (v := ?_) rfl rfl (by kernel_rfl) (by kernel_rfl) (by kernel_rfl) (fun _ _ _ h => h) (by rfl) hHeld ?_ ?_
      rotate_left
      · intro wZ hSw; clear hSw; go_simp; first | (with_reducible rfl) | (rw [if_pos (by omega)]; with_reducible rfl) | skip
      try simp only [Act.put, List.setIfInBounds_toArray, List.set_cons_zero, List.set_cons_succ]
      refine take_dstH (i := 13) (d := 6) (v := ?_) rfl rfl (by kernel_rfl) (by kernel_rfl) (by kernel_rfl) (fun _ _ _ h => h) (by rfl) hHeld ?_ ?_
      rotate_left
      · intro wZ hSw; clear hSw; go_simp; first | (with_reducible rfl) | (rw [if_pos (by omega)]; with_reducible rfl) | skip
      try simp only [Act.put, List.setIfInBounds_toArray, List.set_cons_zero, List.set_cons_succ]
      refine wpAnyH_done (by kernel_rfl) ?_ _
      go_wp2_with fail
      go_roundg (n - k)
      case measure => omega
      case rel => exact ⟨lo', hi', k + 1, rfl, rfl, by simp, by omega, by omega, HNY.out, hHeld.out⟩
    · have hkn' : k = n := by omega
      subst hkn'
      have HA : Hid (∀ s ∈ xs, lo ≤ s ∧ s ≤ hi ∧ Samp s) := by
        have h := HT.out.1
        unfold In at h
        rw [List.take_of_length_le (by rw [HN.out]; exact Nat.le_refl _)] at h
        exact h
      clear HC HC0 HX0 hf hkn hk
      have HBT := hide (bt_any (lo := lo) (hi := hi) (l := xs) HA.out (by intro e; rw [e] at HN; have := HN.out; simp at this; omega) (by rw [HN.out]; exact h500))
      rw [HN.out] at HBT
      have HMY := hide (Me.may_all xs may0 (fun s hs => (HA.out s hs).2.2))
      have H1 : Hid (∀ (v : World), Below w.heap.size w v → Calls Try.prog 9 #[meV Me.none, .slice (some ⟨g, o, none⟩) k c] v fun e w' => e = .returned (.tuple #[meV (Me.none.all xs), .int .i64 0]) ∧ Below v.heap.size v w') := fun v hb => by
        have h := HH.out Me.none _ c k xs v (HP.out.kept hb) HN.out
        have e := hear_all may0 (fun s hs => (HA.out s hs).2.2)
        rwa [e.1, e.2] at h
      have H2 : Hid (∀ (j : Nat), j ≤ k → ∀ (v : World), Below w.heap.size w v → Calls Try.prog 9 #[meV Me.none, .slice (some ⟨g, o, none⟩) j c] v fun e w' => e = .returned (.tuple #[meV (Me.none.all (xs.take j)), .int .i64 0]) ∧ Below v.heap.size v w') := fun j hj v hb => by
        have h := HH.out Me.none _ c j (xs.take j) v ((HP.out.kept hb).take j) (by rw [List.length_take, HN.out]; omega)
        have e := hear_all may0 (l := xs.take j) (fun s hs => (HA.out s (List.mem_of_mem_take hs)).2.2)
        rwa [e.1, e.2] at h
      have H3 : Hid (∀ (j : Nat), j ≤ k → ∀ (v : World), Below w.heap.size w v → Calls Try.prog 9 #[meV (Me.none.all (xs.take j)), .slice (cutI (some ⟨g, o, none⟩) j c) (k - j) (c - j)] v fun e w' => e = .returned (.tuple #[meV (Me.none.all xs), .int .i64 0]) ∧ Below v.heap.size v w') := fun j hj v hb => by
        have h := HH.out (Me.none.all (xs.take j)) _ (c - j) (k - j) (xs.drop j) v ((HP.out.kept hb).from j (by rw [HN.out]; exact hj)) (by rw [List.length_drop, HN.out])
        have e := hear_all (Me.may_all (xs.take j) may0 (fun s hs => (HA.out s (List.mem_of_mem_take hs)).2.2)) (l := xs.drop j) (fun s hs => (HA.out s (List.mem_of_mem_drop hs)).2.2)
        rw [e.1, e.2, ← Me.all_append, List.take_append_drop] at h
        exact h
      have H4 := hide (fun v : World => mean_any (Me.none.all xs) v)
      have H5 := hide (fun v : World => wait_any (Me.none.all xs) v)
      have H6 : Hid (∀ v : World, Calls Try.prog 11 #[meV (Me.none.all xs)] v fun e w' => e = .returned (.bool true) ∧ Below v.heap.size v w') := fun v => by
        have h := may_any (Me.none.all xs) v
        rwa [decide_eq_true HMY.out] at h
      have HE := hide (fun v : World => me_eq_true (Me.none.all xs) v)
      have HB := hide HT.out.2
      clear HT HA HMY HH HP HN
      generalize Me.none.all xs = m at *
      generalize meanF m = mean at *
      generalize waitF m = wt at *
      go_wp2_with fail
      refine (H1.out wr HB.out).mono ?_
      rintro e w4 ⟨rfl, hb⟩
      have A5 : Hid (Arr (w4.alloc (Obj.cells #[Value.int .i64 m.a, Value.int .i64 m.b, Value.int .i64 m.c] 23)) w4.heap.size 23 (meC m) ∧ Below w.heap.size w (w4.alloc (Obj.cells #[Value.int .i64 m.a, Value.int .i64 m.b, Value.int .i64 m.c] 23)) ∧ w.heap.size ≤ w4.heap.size) := ⟨Arr.new w4 _ _, (HB.out.trans (hb.mono HB.out.size)).alloc (Nat.le_trans HB.out.size hb.size) _, Nat.le_trans HB.out.size hb.size⟩
      clear hb HB H1
      go_upto_region 13 with fail
      generalize w4.alloc (Obj.cells #[Value.int .i64 m.a, Value.int .i64 m.b, Value.int .i64 m.c] 23) = w5 at *
      generalize w4.heap.size = g8 at *
      refine wp_region_held_drew (S := fun v => Hid (Arr v g8 23 (meC m) ∧ Below w.heap.size w v)) (by kernel_rfl) (hide ⟨A5.out.1, A5.out.2.1.drew⟩) (fun hHeld => ?_)
      refine take_dstH (i := 0) (d := 68) (v := ?_) rfl rfl (by kernel_rfl) (by kernel_rfl) (by kernel_rfl) (fun _ _ _ h => h) (by rfl) hHeld ?_ ?_
      rotate_left
      · intro wZ hSw; refine exec_load_all 23 (.tmp 8) ?_ g8 ?_ 23 (meC m) _ (Hid.out hSw).1 Try.underlying23 rfl infoM <;> rfl
      try simp only [Act.put, List.setIfInBounds_toArray, List.set_cons_zero, List.set_cons_succ]
      refine take_dstH (i := 2) (d := 70) (v := ?_) rfl rfl (by kernel_rfl) (by kernel_rfl) (by kernel_rfl) (fun _ _ _ h => h) (by rfl) hHeld ?_ ?_
      rotate_left
      · intro wZ hSw; refine exec_load_all 23 (.tmp 8) ?_ g8 ?_ 23 (meC m) _ (Hid.out hSw).1 Try.underlying23 rfl infoM <;> rfl
      try simp only [Act.put, List.setIfInBounds_toArray, List.set_cons_zero, List.set_cons_succ]
      refine wpAnyH_ready (rs := [1]) (by kernel_rfl) (by simp) ?_
      refine (AllReadyH.cons rfl (fun K hK => ?_) AllReadyH.nil)
      go_simp
      refine (H4.out _).mono ?_; rintro e wa ⟨rfl, hba⟩; have HK1 : Hid (Arr wa g8 23 (meC m) ∧ Below w.heap.size w wa) := ⟨(Hid.out hHeld).1.kept hba, (Hid.out hHeld).2.trans (hba.mono (Hid.out hHeld).2.size)⟩; clear hba
      go_wp2_with fail
      refine hK.out _ _ ?_ (fun hHeld => ?_)
      · exact HK1
      clear hK K
      try simp only [Act.put, List.setIfInBounds_toArray, List.set_cons_zero, List.set_cons_succ]
      refine wpAnyH_ready (rs := [3]) (by kernel_rfl) (by simp) ?_
      refine (AllReadyH.cons rfl (fun K hK => ?_) AllReadyH.nil)
      go_simp
      refine (H5.out _).mono ?_; rintro e wb ⟨rfl, hba⟩; have HK1 : Hid (Arr wb g8 23 (meC m) ∧ Below w.heap.size w wb) := ⟨(Hid.out hHeld).1.kept hba, (Hid.out hHeld).2.trans (hba.mono (Hid.out hHeld).2.size)⟩; clear hba
      go_wp2_with fail
      refine hK.out _ _ ?_ (fun hHeld => ?_)
      · exact HK1
      clear hK K
      try simp only [Act.put, List.setIfInBounds_toArray, List.set_cons_zero, List.set_cons_succ]
      refine take_dstH (i := 4) (d := 10) (v := ?_) rfl rfl (by kernel_rfl) (by kernel_rfl) (by kernel_rfl) (fun _ _ _ h => h) (by rfl) hHeld ?_ ?_
      rotate_left
      · intro wZ hSw; clear hSw; go_simp; first | (with_reducible rfl) | (rw [if_pos (by omega)]; with_reducible rfl) | skip
      try simp only [Act.put, List.setIfInBounds_toArray, List.set_cons_zero, List.set_cons_succ]
      refine take_dstH (i := 5) (d := 11) (v := ?_) rfl rfl (by kernel_rfl) (by kernel_rfl) (by kernel_rfl) (fun _ _ _ h => h) (by rfl) hHeld ?_ ?_
      rotate_left
      · intro wZ hSw; clear hSw; go_simp; first | (with_reducible rfl) | (rw [if_pos (by omega)]; with_reducible rfl) | skip
      try simp only [Act.put, List.setIfInBounds_toArray, List.set_cons_zero, List.set_cons_succ]
      refine wpAnyH_done (by kernel_rfl) ?_ _
      have A6 : Hid (Arr wb g8 23 (meC m) ∧ Below w.heap.size w wb ∧ w.heap.size ≤ g8) := ⟨HK1.out.1, HK1.out.2, A5.out.2.2⟩
      clear hHeld HK1 A5 H4 H5
      go_upto_region 14 with fail
      go_wp2_with (refine wpList_exec (by rfl) _ (exec_load_all 23 (.tmp 8) rfl g8 rfl 23 (meC m) _ A6.out.1 Try.underlying23 rfl infoM) ?_)
      refine (H6.out _).mono ?_
      rintro e w7 ⟨rfl, hb⟩
      have A7 : Hid (Arr w7 g8 23 (meC m) ∧ Below w.heap.size w w7 ∧ w.heap.size ≤ g8) := ⟨A6.out.1.kept hb, A6.out.2.1.trans (hb.mono A6.out.2.1.size), A6.out.2.2⟩
      clear hb A6 H6
      have c0 := A7.out.1.cell 0
      simp only [List.getElem?_cons_zero] at c0
      rw [HBT.out.2] at c0
      obtain ⟨b1, b2, b3, b4, b5⟩ := HBT.out.1
      have hkk : ((k : Int) != (k : Int)) = false := by simp
      have b6 : 1000 < mean ∧ 1000 ≤ wt ∨ mean ≤ 1000 ∧ mean ≤ wt := by omega
      clear b5 HBT
      rcases b6 with ⟨q1, q2⟩ | ⟨q1, q2⟩
      all_goals
        go_upto_region 16 with fail
        clear b1 b2 b3 b4 q1 q2 hkk c0 g1' g2
        by_cases p1 : cut < 0
        · go_wp2
          go_ret
          exact ⟨rfl, A7.out.2.1⟩
        by_cases p2 : (k : Int) < cut
        · go_wp2
          go_ret
          exact ⟨rfl, A7.out.2.1⟩
        obtain ⟨j, rfl⟩ : ∃ j : Nat, cut = (j : Int) := ⟨cut.toNat, by omega⟩
        have hjk : j ≤ k := by omega
        have H2j := hide (H2.out j hjk)
        have H3j := hide (H3.out j hjk)
        have s1 := fun v => irun_to v (some ⟨g, o, none⟩) k c j (by have := HCM.out; omega)
        have s2 := fun v => irun_from v (some ⟨g, o, none⟩) k c j hjk HCM.out
        clear H2 H3
        generalize Me.none.all (xs.take j) = a at *
        go_upto_region 18 with fail
        clear s2
        go_wp2_with fail
        refine (H2j.out w7 A7.out.2.1).mono ?_
        rintro e w8 ⟨rfl, hb⟩
        have hb' : Below w7.heap.size w7 (w8.alloc (Obj.cells #[Value.int .i64 a.a, Value.int .i64 a.b, Value.int .i64 a.c] 23)) := hb.alloc hb.size _
        have A9 : Hid (StB w (w8.alloc (Obj.cells #[Value.int .i64 a.a, Value.int .i64 a.b, Value.int .i64 a.c] 23)) m a g8 w8.heap.size) := ⟨A7.out.1.kept hb', Arr.new w8 _ _, ⟨A7.out.2.2, Nat.le_trans A7.out.2.1.size hb.size⟩, A7.out.2.1.trans (hb'.mono A7.out.2.1.size)⟩
        clear hb hb' A7 H2j s1
        have s2 := fun v => irun_from v (some ⟨g, o, none⟩) k c j hjk HCM.out
        go_upto_region 19 with fail
        generalize w8.alloc (Obj.cells #[Value.int .i64 a.a, Value.int .i64 a.b, Value.int .i64 a.c] 23) = w9 at *
        generalize w8.heap.size = g12 at *
        refine wp_region_held_drew (S := fun v => Hid (StB w v m a g8 g12)) (by kernel_rfl) (hide A9.out.drew) (fun hHeld => ?_)
        refine take_dstH (i := 0) (d := 127) (v := ?_) rfl rfl (by kernel_rfl) (by kernel_rfl) (by kernel_rfl) (fun _ _ _ h => h) (by rfl) hHeld ?_ ?_
        rotate_left
        · intro wZ hSw; refine exec_load_all 23 (.tmp 12) ?_ g12 ?_ 23 (meC a) _ (Hid.out hSw).a Try.underlying23 rfl infoM <;> rfl
        try simp only [Act.put, List.setIfInBounds_toArray, List.set_cons_zero, List.set_cons_succ]
        refine take_dstH (i := 1) (d := 128) (v := ?_) rfl rfl (by kernel_rfl) (by kernel_rfl) (by kernel_rfl) (fun _ _ _ h => h) (by rfl) hHeld ?_ ?_
        rotate_left
        · intro wZ hSw; clear hSw; go_simp; first | (with_reducible rfl) | (rw [if_pos (by omega)]; with_reducible rfl) | skip
        try simp only [Act.put, List.setIfInBounds_toArray, List.set_cons_zero, List.set_cons_succ]
        refine take_dstH (i := 2) (d := 129) (v := ?_) rfl rfl (by kernel_rfl) (by kernel_rfl) (by kernel_rfl) (fun _ _ _ h => h) (by rfl) hHeld ?_ ?_
        rotate_left
        · intro wZ hSw; clear hSw; go_simp; first | (with_reducible rfl) | (rw [if_pos (by omega)]; with_reducible rfl) | skip
        try simp only [Act.put, List.setIfInBounds_toArray, List.set_cons_zero, List.set_cons_succ]
        refine take_dstH (i := 3) (d := 130) (v := ?_) rfl rfl (by kernel_rfl) (by kernel_rfl) (by kernel_rfl) (fun _ _ _ h => h) (by rfl) hHeld ?_ ?_
        rotate_left
        · intro wZ hSw; clear hSw; go_simp; first | (with_reducible rfl) | (rw [if_pos (by omega)]; with_reducible rfl) | skip
        try simp only [Act.put, List.setIfInBounds_toArray, List.set_cons_zero, List.set_cons_succ]
        refine wpAnyH_ready (rs := [4, 8]) (by kernel_rfl) (by simp) ?_
        refine (AllReadyH.cons rfl (fun K hK => ?_) (AllReadyH.cons rfl (fun K hK => ?_) AllReadyH.nil))
        focus
          go_simp
          refine (H3j.out _ (Hid.out hHeld).w).mono ?_; rintro e wa ⟨rfl, hba⟩; have HK1 : Hid (StB w wa m a g8 g12) := (Hid.out hHeld).kept hba; (try (replace AN := hide (And.intro (AN.out.1.kept hba) AN.out.2))); clear hba
          go_wp2_with fail
          refine hK.out _ _ ?_ (fun hHeld => ?_)
          · exact HK1
          clear hK K
          try simp only [Act.put, List.setIfInBounds_toArray, List.set_cons_zero, List.set_cons_succ]
          refine take_dstH (i := 5) (d := 126) (v := ?_) rfl rfl (by kernel_rfl) (by kernel_rfl) (by kernel_rfl) (fun _ _ _ h => h) (by rfl) hHeld ?_ ?_
          rotate_left
          · intro wZ hSw; clear hSw; go_simp; first | (with_reducible rfl) | (rw [if_pos (by omega)]; with_reducible rfl) | skip
          try simp only [Act.put, List.setIfInBounds_toArray, List.set_cons_zero, List.set_cons_succ]
          refine take_dstH (i := 6) (d := 132) (v := ?_) rfl rfl (by kernel_rfl) (by kernel_rfl) (by kernel_rfl) (fun _ _ _ h => h) (by rfl) hHeld ?_ ?_
          rotate_left
          · intro wZ hSw; clear hSw; go_simp; first | (with_reducible rfl) | (rw [if_pos (by omega)]; with_reducible rfl) | skip
          try simp only [Act.put, List.setIfInBounds_toArray, List.set_cons_zero, List.set_cons_succ]
          refine take_dstH (i := 7) (d := 133) (v := ?_) rfl rfl (by kernel_rfl) (by kernel_rfl) (by kernel_rfl) (fun _ _ _ h => h) (by rfl) hHeld ?_ ?_
          rotate_left
          · intro wZ hSw; clear hSw; go_simp; first | (with_reducible rfl) | (rw [if_pos (by omega)]; with_reducible rfl) | skip
          try simp only [Act.put, List.setIfInBounds_toArray, List.set_cons_zero, List.set_cons_succ]
          refine wpAnyH_ready (rs := [8]) (by kernel_rfl) (by simp) ?_
          refine (AllReadyH.cons rfl (fun K hK => ?_) AllReadyH.nil)
          refine wp_alloc_me rfl rfl (fun gA wA hA hB hg => ?_); have AN : Hid (Arr wA gA 23 (meC Me.none) ∧ g8 < gA ∧ g12 < gA) := ⟨hA, Nat.lt_of_lt_of_le (Hid.out hHeld).m.lt hg, Nat.lt_of_lt_of_le (Hid.out hHeld).a.lt hg⟩; have HKA : Hid (StB w wA m a g8 g12) := (Hid.out hHeld).kept hB; clear hA hB hg
          refine hK.out _ _ ?_ (fun hHeld => ?_)
          · exact HKA
          clear hK K
          try simp only [Act.put, List.setIfInBounds_toArray, List.set_cons_zero, List.set_cons_succ]
          refine wpAnyH_ready (rs := [9]) (by kernel_rfl) (by simp) ?_
          refine (AllReadyH.cons rfl (fun K hK => ?_) AllReadyH.nil)
          refine wp_store_dst rfl 23 (.tmp 14) (.tmp 132) rfl gA (meC m).toArray rfl rfl 23 (meC Me.none).toArray AN.out.1 infoM rfl (one_meC _) ?_; have AX : Hid (Arr _ gA 23 (meC m)) := AN.out.1.row _
          refine hK.out _ _ ?_ (fun hHeld => ?_)
          · exact hide ((Hid.out hHeld).store AN.out.2.1 AN.out.2.2 AN.out.1.lt _)
          clear hK K
          try simp only [Act.put, List.setIfInBounds_toArray, List.set_cons_zero, List.set_cons_succ]
          refine take_dstH (i := 10) (d := 15) (v := ?_) rfl rfl (by kernel_rfl) (by kernel_rfl) (by kernel_rfl) (fun _ _ _ h => h) (by rfl) hHeld ?_ ?_
          rotate_left
          · intro wZ hSw; clear hSw; go_simp; first | (with_reducible rfl) | (rw [if_pos (by omega)]; with_reducible rfl) | skip
          try simp only [Act.put, List.setIfInBounds_toArray, List.set_cons_zero, List.set_cons_succ]
          refine wpAnyH_done (by kernel_rfl) ?_ _
        rotate_left 1
        focus
          refine wp_alloc_me rfl rfl (fun gA wA hA hB hg => ?_); have AN : Hid (Arr wA gA 23 (meC Me.none) ∧ g8 < gA ∧ g12 < gA) := ⟨hA, Nat.lt_of_lt_of_le (Hid.out hHeld).m.lt hg, Nat.lt_of_lt_of_le (Hid.out hHeld).a.lt hg⟩; have HKA : Hid (StB w wA m a g8 g12) := (Hid.out hHeld).kept hB; clear hA hB hg
          refine hK.out _ _ ?_ (fun hHeld => ?_)
          · exact HKA
          clear hK K
          try simp only [Act.put, List.setIfInBounds_toArray, List.set_cons_zero, List.set_cons_succ]
          refine wpAnyH_ready (rs := [4]) (by kernel_rfl) (by simp) ?_
          refine (AllReadyH.cons rfl (fun K hK => ?_) AllReadyH.nil)
          go_simp
          refine (H3j.out _ (Hid.out hHeld).w).mono ?_; rintro e wa ⟨rfl, hba⟩; have HK1 : Hid (StB w wa m a g8 g12) := (Hid.out hHeld).kept hba; (try (replace AN := hide (And.intro (AN.out.1.kept hba) AN.out.2))); clear hba
          go_wp2_with fail
          refine hK.out _ _ ?_ (fun hHeld => ?_)
          · exact HK1
          clear hK K
          try simp only [Act.put, List.setIfInBounds_toArray, List.set_cons_zero, List.set_cons_succ]
          refine take_dstH (i := 5) (d := 126) (v := ?_) rfl rfl (by kernel_rfl) (by kernel_rfl) (by kernel_rfl) (fun _ _ _ h => h) (by rfl) hHeld ?_ ?_
          rotate_left
          · intro wZ hSw; clear hSw; go_simp; first | (with_reducible rfl) | (rw [if_pos (by omega)]; with_reducible rfl) | skip
          try simp only [Act.put, List.setIfInBounds_toArray, List.set_cons_zero, List.set_cons_succ]
          refine take_dstH (i := 6) (d := 132) (v := ?_) rfl rfl (by kernel_rfl) (by kernel_rfl) (by kernel_rfl) (fun _ _ _ h => h) (by rfl) hHeld ?_ ?_
          rotate_left
          · intro wZ hSw; clear hSw; go_simp; first | (with_reducible rfl) | (rw [if_pos (by omega)]; with_reducible rfl) | skip
          try simp only [Act.put, List.setIfInBounds_toArray, List.set_cons_zero, List.set_cons_succ]
          refine take_dstH (i := 7) (d := 133) (v := ?_) rfl rfl (by kernel_rfl) (by kernel_rfl) (by kernel_rfl) (fun _ _ _ h => h) (by rfl) hHeld ?_ ?_
          rotate_left
          · intro wZ hSw; clear hSw; go_simp; first | (with_reducible rfl) | (rw [if_pos (by omega)]; with_reducible rfl) | skip
          try simp only [Act.put, List.setIfInBounds_toArray, List.set_cons_zero, List.set_cons_succ]
          refine wpAnyH_ready (rs := [9]) (by kernel_rfl) (by simp) ?_
          refine (AllReadyH.cons rfl (fun K hK => ?_) AllReadyH.nil)
          refine wp_store_dst rfl 23 (.tmp 14) (.tmp 132) rfl gA (meC m).toArray rfl rfl 23 (meC Me.none).toArray AN.out.1 infoM rfl (one_meC _) ?_; have AX : Hid (Arr _ gA 23 (meC m)) := AN.out.1.row _
          refine hK.out _ _ ?_ (fun hHeld => ?_)
          · exact hide ((Hid.out hHeld).store AN.out.2.1 AN.out.2.2 AN.out.1.lt _)
          clear hK K
          try simp only [Act.put, List.setIfInBounds_toArray, List.set_cons_zero, List.set_cons_succ]
          refine take_dstH (i := 10) (d := 15) (v := ?_) rfl rfl (by kernel_rfl) (by kernel_rfl) (by kernel_rfl) (fun _ _ _ h => h) (by rfl) hHeld ?_ ?_
          rotate_left
          · intro wZ hSw; clear hSw; go_simp; first | (with_reducible rfl) | (rw [if_pos (by omega)]; with_reducible rfl) | skip
          try simp only [Act.put, List.setIfInBounds_toArray, List.set_cons_zero, List.set_cons_succ]
          refine wpAnyH_done (by kernel_rfl) ?_ _
        all_goals
          have AF := hide (Hid.out hHeld)
          clear hHeld A9
          go_wp2_with (first
            | (refine wpList_exec (by rfl) _ (exec_load_all 23 (.tmp 14) rfl gA rfl 23 (meC m) _ AX.out Try.underlying23 rfl infoM) ?_)
            | (refine wpList_exec (by rfl) _ (exec_load_all 23 (.tmp 8) rfl g8 rfl 23 (meC m) _ AF.out.m Try.underlying23 rfl infoM) ?_)
            | (refine wpList_exec (by rfl) _ (exec_eql_agg 23 23 (.tmp 141) (.tmp 142) rfl (meC m).toArray (meC m).toArray rfl rfl true (guardM _ _ _ _ _) (HE.out _)) ?_))
          go_ret
          exact ⟨rfl, AF.out.w⟩

theorem walk (p : Option Addr) (c : Nat) (xs : List Int) (cut : Int) (w : World) (hP : IPiece w p c xs) (w1 : (Lit.int .i64 cut).wf = true) :
    Calls Try.prog 5 #[.slice p xs.length c, .int .i64 cut] w fun e w' => e = .returned (.bool true) ∧ Below w.heap.size w w' := by
  by_cases h : xs.length = 0 ∨ 500 < xs.length
  · exact walk_no p c _ cut w h
  · exact walk_yes p c _ xs cut w hP rfl (by omega) (by omega)

theorem own : ownKnob Try.prog.godebug = none := by kernel_rfl
theorem laidOut : laidOutB Try.prog = true := by kernel_rfl
set_option maxRecDepth 100000 in
theorem lifted (os : Os) (started : os.Started) (H : Type) (enc : TypeId × Value → H) :
    ReturnsInHanded {} Try.checked os 5 .any (Rows.rttBetweenSpec.pre6 enc Try.prog Try.f5 Rows.rttBetweenRow.domain false) (Rows.rttBetweenSpec.post enc Try.prog Try.f5 false true false false) := by
  refine returnsInHanded_of_change (C := Try.checked) own started (by kernel_rfl) Try.func5
    (ChangeSpec.witness6 (enc := enc) (C := Try.checked) false ⟨#[], #[.slice none 0 0, .int .i64 0], []⟩ 8 (by kernel_rfl) (by kernel_rfl) (by kernel_rfl) (by kernel_rfl)) ?_
  intro W base args ds gs before hval0 hW hcnd _
  have hval : ∀ (j : Nat) t v, Try.f5.params[j]? = some t → args[j]? = some v → Value.okWide Try.prog W .any base t v := hval0
  have hW' := hW
  obtain ⟨p, q, hA0, hV, rfl, hfz, hnd⟩ := hW
  have hA : DataW.TrodAll enc Try.prog W 0 (fun _ => true) true Try.f5.params.toList args.toList ds p := hA0
  rw [Try.params5] at hA hval
  obtain ⟨v0, vs0, d0, ds0, p0, q0, hargs, rfl, rfl, h0, r0⟩ := trodAll_cons hA
  obtain ⟨v1, vs1, d1, ds1, p1, q1, rfl, rfl, rfl, h1, r1⟩ := trodAll_cons r0
  obtain ⟨rfl, rfl, rfl⟩ := trodAll_nil r1
  obtain rfl : args = #[v0, v1] := by cases args; simp_all
  obtain ⟨rfl, rfl⟩ := trodVars_none hV
  obtain ⟨a0, len0, cap0, rfl⟩ := okWide_slice Try.underlying24 (hval 0 24 v0 rfl rfl)
  have k0 := h0
  have lt0 : ∀ x ∈ p0, x.block < W.heap.size := by obtain ⟨m, hm⟩ := k0; exact DataW.trod_lt m _ _ _ hm
  obtain ⟨fuel0, hf0⟩ := h0
  obtain ⟨a0', cap0', x0, hcs0, w0⟩ := ints_of hf0
  simp [Value.cells] at hcs0
  obtain ⟨rfl, rfl, rfl⟩ := hcs0
  clear hf0
  obtain ⟨a1, rfl, rfl, rfl, w1⟩ := open_int Try.underlying3 (hval 1 3 v1 rfl rfl) h1
  clear hA0 hval0
  refine (walk a0 cap0 x0 a1 W w0 w1).mono fun e W' ⟨he, bel⟩ => ?_
  subst he
  exact ⟨_, rfl, _, _, _, [], _, [], hW', trodAll_mk1 (shut_bool Try.underlying4 _), (trodAll_cons_mk (Below.trod laidOut (by kernel_rfl) (of_decide_eq_true (by kernel_rfl)) k0 bel lt0) (trodAll_cons_mk (shut_int Try.underlying3 w1) trodAll_mk0)), rfl, bel.frame _, fun h => by cases h⟩

theorem over : Rows.rttBetweenRow.holds Try.pinned (OpenSpec.ofChange Rows.rttBetweenSpec) :=
  OpenClaim.holds_of_wide 5 Try.f5 rfl rfl rfl rfl rfl rfl rfl ⟨rfl, rfl, rfl, rfl, rfl⟩ rfl rfl rfl rfl rfl (by kernel_rfl) Try.func5 (by kernel_rfl)
    (of_decide_eq_true (by kernel_rfl)) (by unfold Func.isWrapper; first | (rw [if_pos (by decide +kernel)]; kernel_rfl) | (rw [if_neg (by decide +kernel)]; exact ⟨rfl, rfl⟩))
    (fun os started H enc _ => lifted os started H enc)

end RttBetweenProof

/-- The mean lies between the least and the greatest sample that was heard, the wait within its bounds; in two parts it is the same. -/
theorem rttBetween_holds : Rows.RttBetweenSaid := RttBetweenProof.over

#print axioms rttBetween_holds
end Go.Proofs.Ythnbbflpnklbjaa
