/-
  Several texts, joined: LE, LD.
-/
import Derived.Test.YtbmjlofehbbkbaaDoorJP
import Derived.Test.YtbmjlofehbbkbaaDoorJA
import Derived.Laws.ResultCell
import Derived.Test.YtbmjlofehbbkbaaDoorJM

/- A walk: a packet's parts. -/
namespace Go.Proofs.YtbmjlofehbbkbaaDoor
open Go.RowKit

/-- a slice that holds no more -/
theorem Piece.cap {w : World} {p : Option Addr} {c c' : Nat} {b : List Nat} (h : Piece w p c b) (h1 : b.length ≤ c') (h2 : c' ≤ maxLen) (h3 : p ≠ none) : Piece w p c' b :=
  ⟨h.1, fun e => (h3 e).elim, h.2.2.1, h1, h2⟩
theorem Piece.some {w : World} {p : Option Addr} {c : Nat} {b : List Nat} (h : Piece w p c b) (h1 : 0 < b.length) : p ≠ none := fun e => by
  have := h.2.1 e
  have := h.2.2.2.1
  omega

/-- a reader over eight bytes -/
def Rd8 (B : Nat) (w : World) (g x : Nat) : Prop := ∃ bs : List Int, bs.length = 8 ∧ valF (bs.take 8) = x ∧ Rd (fun k => B ≤ k ∧ k < g) w g bs 0

theorem open8 (p : Option Addr) (c : Nat) (b : List Nat) (w : World) (hP : Piece w p c b) (hn : 8 ≤ b.length) (cc : Nat) :
    Calls Tryd.prog 37 #[.slice p 8 cc] w fun e w' => ∃ g, e = .returned (.pointer (some ⟨g, 0, none⟩)) ∧ w.heap.size ≤ g ∧ Rd8 w.heap.size w' g (rd8 b) ∧ Below w.heap.size w w' := by
  have hl : ((b.take 8).map Int.ofNat).length = 8 := by simp; omega
  have h := open_any p cc ((b.take 8).map Int.ofNat) w (by rw [hl]; omega) (bytesIn_of (hP.take 8))
  rw [hl] at h
  exact h.mono fun e w' ⟨g, h1, h2, h3, h4⟩ => ⟨g, h1, h2, ⟨_, hl, by rw [List.take_of_length_le (by rw [hl]; exact Nat.le_refl _)]; rfl, h3⟩, h4⟩

theorem fix8 (B g x : Nat) (w : World) (h : Rd8 B w g x) (hB : B ≤ w.heap.size) (hg : B ≤ g) :
    Calls Tryd.prog 38 #[.pointer (some ⟨g, 0, none⟩), .int .i64 8] w fun e w' => e = .returned (.int .u64 (x : Int)) ∧ Below B w w' := by
  obtain ⟨bs, hl, hv, hr⟩ := h
  refine (rfix_ok g bs 8 w hr).mono ?_
  rintro e w' ⟨m, bs', y, rfl, hr', hgr, ⟨hno, _⟩ | ⟨_, hm, _, _⟩⟩
  · omega
  · refine ⟨?_, (Below.refl B w).grown hgr hB (by intro k hk; cases hk; exact hg)⟩
    rw [hm, show (8 : Int).toNat = 8 from rfl, hv]

theorem run_mid3 (w : World) (p : Option Addr) (n cap l h : Nat) (hl : l ≤ h) (hh : h ≤ cap) :
    (Instr.slice 42 (.slice p n cap) (some (.int .i64 (l : Int))) (some (.int .i64 (h : Int))) (some (.int .i64 (h : Int)))).run Tryd.prog w = .ok (.slice (cutP p l h) (h - l) (h - l)) w := by
  have ht' : Tryd.prog.underlying 42 = some (.slice (Tryd.prog.elem 42)) := by simp [Program.elem, Tryd.underlying42]
  have he : Tryd.prog.elem 42 = 5 := by simp [Program.elem, Tryd.underlying42]
  rw [run_slice_lhm w 42 _ _ _ ht' .i64 .i64 .i64 _ _ _ (by omega) (by omega) (by omega) (by omega), he, size5]
  simp [Result.andThen, sliced, cutP]
theorem run_to3 (w : World) (p : Option Addr) (n cap h : Nat) (hh : h ≤ cap) :
    (Instr.slice 42 (.slice p n cap) none (some (.int .i64 (h : Int))) (some (.int .i64 (h : Int)))).run Tryd.prog w = .ok (.slice p h h) w := by
  have ht' : Tryd.prog.underlying 42 = some (.slice (Tryd.prog.elem 42)) := by simp [Program.elem, Tryd.underlying42]
  have he : Tryd.prog.elem 42 = 5 := by simp [Program.elem, Tryd.underlying42]
  rw [run_slice_hm w 42 _ _ _ ht' .i64 .i64 _ _ (by omega) (by omega) (by omega), he, size5]
  have h0 : (fun x : Addr => x.add 0) = id := by funext x; simp [Addr.add]
  simp [Result.andThen, sliced, h0]

/-- what a packet's parts are -/
abbrev paC (x : Nat) (p : Option Addr) (n : Nat) : List Value := [.int .u64 (x : Int), .slice p (n - 16) (n - 16), .slice (cutP p 8 (n - 16)) (n - 16 - 8) (n - 16 - 8), .slice (cutP p (n - 16) n) (n - (n - 16)) (n - (n - 16))]
abbrev paZ : List Value := [.int .u64 0, .slice none 0 0, .slice none 0 0, .slice none 0 0]
theorem infoP : (Tryd.prog.info? 68).map (·.size) = some 4 := by kernel_rfl
theorem one_paC (x : Nat) (p : Option Addr) (n : Nat) : (paC x p n).toArray.all (·.oneCell') = true := by simp [Value.oneCell']
theorem builtP (x : Int) (a b c : Option Addr) (l1 l2 l3 c1 c2 c3 : Nat) : Tryd.prog.built 68 [(0, .int .u64 x), (1, .slice a l1 c1), (2, .slice b l2 c2), (3, .slice c l3 c3)] = some #[.int .u64 x, .slice a l1 c1, .slice b l2 c2, .slice c l3 c3] := by kernel_rfl

set_option maxHeartbeats 4000000 in
set_option maxRecDepth 100000 in
theorem cut_bad (p : Option Addr) (c n : Nat) (w : World) (h : n < 24 ∨ 1224 < n) :
    Calls Tryd.prog 24 #[.slice p n c] w fun e w' => e = .returned (.tuple #[.agg paZ.toArray, .int .i64 4]) ∧ Below w.heap.size w w' := by
  have A1 : Hid (Arr (w.alloc (Obj.cells #[Value.int IntKind.u64 0, Value.slice none 0 0, Value.slice none 0 0, Value.slice none 0 0] 68)) w.heap.size 68 paZ ∧ Below w.heap.size w (w.alloc (Obj.cells #[Value.int IntKind.u64 0, Value.slice none 0 0, Value.slice none 0 0, Value.slice none 0 0] 68))) := ⟨Arr.new w _ _, (Below.refl _ _).alloc (Nat.le_refl _) _⟩
  by_cases h1 : n < 24
  · have h1' : (n : Int) < 24 := by omega
    clear h h1
    go_enter Tryd.func24, Tryd.ntmps24
    go_wp2
    exact bodyPost_ret (results_ct Tryd.results24 _ _ w.heap.size paZ rfl A1.out.1 Tryd.underlying68 rfl infoP) rfl ⟨rfl, A1.out.2⟩
  · have h1' : decide ((n : Int) < 24) = false := by simp; omega
    have h2' : (1224 : Int) < (n : Int) := by omega
    clear h h1
    go_enter Tryd.func24, Tryd.ntmps24
    go_wp2
    exact bodyPost_ret (results_ct Tryd.results24 _ _ w.heap.size paZ rfl A1.out.1 Tryd.underlying68 rfl infoP) rfl ⟨rfl, A1.out.2⟩

set_option maxHeartbeats 4000000 in
set_option maxRecDepth 100000 in
theorem cut_ok (p : Option Addr) (c n : Nat) (b : List Nat) (w : World) (hP : Piece w p c b) (hn : b.length = n) (h1 : 24 ≤ n) (h2 : n ≤ 1224) :
    Calls Tryd.prog 24 #[.slice p n c] w fun e w' => e = .returned (.tuple #[.agg (paC (rd8 b) p n).toArray, .int .i64 0]) ∧ Below w.heap.size w w' := by
  have hc := hP.2.2.2.1
  have hcm := hP.2.2.2.2
  unfold maxLen at hcm
  rw [hn] at hc
  have HO := hide (fun (v : World) (hb : Below w.heap.size w v) => open8 p c b v (hP.kept hb) (by omega) 8)
  have HF := fix8
  have s1 := fun v => run_to3 v p n c 8 (by omega)
  have s2 := fun v => run_to3 v p n c (n - 16) (by omega)
  have s3 := fun v => run_mid3 v p n c 8 (n - 16) (by omega) (by omega)
  have s4 := fun v => run_mid3 v p n c (n - 16) n (by omega) (by omega)
  have e1 : ((n : Int) - 16) = ((n - 16 : Nat) : Int) := by omega
  have d1 : decide ((n : Int) < 24) = false := by simp; omega
  have d2 : ¬ (1224 : Int) < (n : Int) := by omega
  simp only [Int.cast_ofNat_Int] at s1 s3
  clear hP hn h1 h2 hc hcm
  have hbp := builtP (rd8 b : Int) p (cutP p 8 (n - 16)) (cutP p (n - 16) n) (n - 16) (n - 16 - 8) (n - (n - 16)) (n - 16) (n - 16 - 8) (n - (n - 16))
  have HBP := hide hbp
  clear hbp
  generalize rd8 b = X at *
  generalize hA : cutP p 8 (n - 16) = pA at *
  generalize hB : cutP p (n - 16) n = pB at *
  have A1 : Hid (Arr (w.alloc (Obj.cells #[Value.int IntKind.u64 0, Value.slice none 0 0, Value.slice none 0 0, Value.slice none 0 0] 68)) w.heap.size 68 paZ ∧ Below w.heap.size w (w.alloc (Obj.cells #[Value.int IntKind.u64 0, Value.slice none 0 0, Value.slice none 0 0, Value.slice none 0 0] 68))) := ⟨Arr.new w _ _, (Below.refl _ _).alloc (Nat.le_refl _) _⟩
  go_enter Tryd.func24, Tryd.ntmps24
  go_upto_region 4 with fail
  generalize w.alloc (Obj.cells #[Value.int IntKind.u64 0, Value.slice none 0 0, Value.slice none 0 0, Value.slice none 0 0] 68) = w1 at *
  clear e1 d1 d2
  refine wp_region_any (by kernel_rfl) ?_
  try (change wpAny _ _ _ _ _ _ _ (World.drew _))
  refine take_dst (i := 0) (d := 20) (v := ?_) rfl rfl (by kernel_rfl) (by kernel_rfl) (by kernel_rfl) (fun _ _ _ h => h) (by rfl) ?_ ?_
  rotate_left
  · intro wZ; go_simp; first | (with_reducible rfl) | (rw [if_pos (by omega)]; with_reducible rfl) | skip
  try simp only [Act.put, List.setIfInBounds_toArray, List.set_cons_zero, List.set_cons_succ]
  refine take_dst (i := 1) (d := 21) (v := ?_) rfl rfl (by kernel_rfl) (by kernel_rfl) (by kernel_rfl) (fun _ _ _ h => h) (by rfl) ?_ ?_
  rotate_left
  · intro wZ; go_simp; first | (with_reducible rfl) | (rw [if_pos (by omega)]; with_reducible rfl) | skip
  try simp only [Act.put, List.setIfInBounds_toArray, List.set_cons_zero, List.set_cons_succ]
  refine take_dst (i := 4) (d := 24) (v := ?_) rfl rfl (by kernel_rfl) (by kernel_rfl) (by kernel_rfl) (fun _ _ _ h => h) (by rfl) ?_ ?_
  rotate_left
  · intro wZ; go_simp; first | (with_reducible rfl) | (rw [if_pos (by omega)]; with_reducible rfl) | skip
  try simp only [Act.put, List.setIfInBounds_toArray, List.set_cons_zero, List.set_cons_succ]
  refine take_dst (i := 5) (d := 25) (v := ?_) rfl rfl (by kernel_rfl) (by kernel_rfl) (by kernel_rfl) (fun _ _ _ h => h) (by rfl) ?_ ?_
  rotate_left
  · intro wZ; go_simp; first | (with_reducible rfl) | (rw [if_pos (by omega)]; with_reducible rfl) | skip
  try simp only [Act.put, List.setIfInBounds_toArray, List.set_cons_zero, List.set_cons_succ]
  refine take_dst (i := 6) (d := 26) (v := ?_) rfl rfl (by kernel_rfl) (by kernel_rfl) (by kernel_rfl) (fun _ _ _ h => h) (by rfl) ?_ ?_
  rotate_left
  · intro wZ; go_simp; first | (with_reducible rfl) | (rw [if_pos (by omega)]; with_reducible rfl) | skip
  try simp only [Act.put, List.setIfInBounds_toArray, List.set_cons_zero, List.set_cons_succ]
  refine take_dst (i := 7) (d := 27) (v := ?_) rfl rfl (by kernel_rfl) (by kernel_rfl) (by kernel_rfl) (fun _ _ _ h => h) (by rfl) ?_ ?_
  rotate_left
  · intro wZ; go_simp; first | (with_reducible rfl) | (rw [if_pos (by omega)]; with_reducible rfl) | skip
  try simp only [Act.put, List.setIfInBounds_toArray, List.set_cons_zero, List.set_cons_succ]
  refine take_dst (i := 8) (d := 28) (v := ?_) rfl rfl (by kernel_rfl) (by kernel_rfl) (by kernel_rfl) (fun _ _ _ h => h) (by rfl) ?_ ?_
  rotate_left
  · intro wZ; go_simp; first | (with_reducible rfl) | (rw [if_pos (by omega)]; with_reducible rfl) | skip
  try simp only [Act.put, List.setIfInBounds_toArray, List.set_cons_zero, List.set_cons_succ]
  refine take_dst (i := 9) (d := 29) (v := ?_) rfl rfl (by kernel_rfl) (by kernel_rfl) (by kernel_rfl) (fun _ _ _ h => h) (by rfl) ?_ ?_
  rotate_left
  · intro wZ; go_simp; first | (with_reducible rfl) | (rw [if_pos (by omega)]; with_reducible rfl) | skip
  try simp only [Act.put, List.setIfInBounds_toArray, List.set_cons_zero, List.set_cons_succ]
  refine take_dst (i := 10) (d := 30) (v := ?_) rfl rfl (by kernel_rfl) (by kernel_rfl) (by kernel_rfl) (fun _ _ _ h => h) (by rfl) ?_ ?_
  rotate_left
  · intro wZ; go_simp; first | (with_reducible rfl) | (rw [if_pos (by omega)]; with_reducible rfl) | skip
  try simp only [Act.put, List.setIfInBounds_toArray, List.set_cons_zero, List.set_cons_succ]
  refine take_dst (i := 11) (d := 31) (v := ?_) rfl rfl (by kernel_rfl) (by kernel_rfl) (by kernel_rfl) (fun _ _ _ h => h) (by rfl) ?_ ?_
  rotate_left
  · intro wZ; go_simp; first | (with_reducible rfl) | (rw [if_pos (by omega)]; with_reducible rfl) | skip
  try simp only [Act.put, List.setIfInBounds_toArray, List.set_cons_zero, List.set_cons_succ]
  refine take_dst (i := 12) (d := 32) (v := ?_) rfl rfl (by kernel_rfl) (by kernel_rfl) (by kernel_rfl) (fun _ _ _ h => h) (by rfl) ?_ ?_
  rotate_left
  · intro wZ; go_simp; first | (with_reducible rfl) | (rw [if_pos (by omega)]; with_reducible rfl) | skip
  try simp only [Act.put, List.setIfInBounds_toArray, List.set_cons_zero, List.set_cons_succ]
  refine take_dst (i := 13) (d := 33) (v := ?_) rfl rfl (by kernel_rfl) (by kernel_rfl) (by kernel_rfl) (fun _ _ _ h => h) (by rfl) ?_ ?_
  rotate_left
  · intro wZ; go_simp; first | (with_reducible rfl) | (rw [if_pos (by omega)]; with_reducible rfl) | skip
  try simp only [Act.put, List.setIfInBounds_toArray, List.set_cons_zero, List.set_cons_succ]
  refine take_dst (i := 14) (d := 34) (v := ?_) rfl rfl (by kernel_rfl) (by kernel_rfl) (by kernel_rfl) (fun _ _ _ h => h) (by rfl) ?_ ?_
  rotate_left
  · intro wZ; go_simp; first | (with_reducible rfl) | (rw [if_pos (by omega)]; with_reducible rfl) | skip
  try simp only [Act.put, List.setIfInBounds_toArray, List.set_cons_zero, List.set_cons_succ]
  refine take_dst (i := 15) (d := 35) (v := ?_) rfl rfl (by kernel_rfl) (by kernel_rfl) (by kernel_rfl) (fun _ _ _ h => h) (by rfl) ?_ ?_
  rotate_left
  · intro wZ; go_simp; first | (with_reducible rfl) | (rw [if_pos (by omega)]; with_reducible rfl) | skip
  try simp only [Act.put, List.setIfInBounds_toArray, List.set_cons_zero, List.set_cons_succ]
  refine take_dst (i := 16) (d := 36) (v := ?_) rfl rfl (by kernel_rfl) (by kernel_rfl) (by kernel_rfl) (fun _ _ _ h => h) (by rfl) ?_ ?_
  rotate_left
  · intro wZ; go_simp; first | (with_reducible rfl) | (rw [if_pos (by omega)]; with_reducible rfl) | skip
  try simp only [Act.put, List.setIfInBounds_toArray, List.set_cons_zero, List.set_cons_succ]
  refine wpAny_ready (rs := [2]) (by kernel_rfl) (by simp) ?_
  refine (AllReady.cons rfl (fun K hK => ?_) AllReady.nil)
  go_simp
  go_wp2_with ((refine (HO.out _ A1.out.2.drew).mono ?_; rintro e w2 ⟨g, rfl, hg, hr, hb2⟩; have R2 := hide hr; have HG := hide hg; have A2 := hide ((show Arr w1.drew w.heap.size 68 paZ from A1.out.1).kept hb2); have B2 : Hid (Below w.heap.size w w2) := A1.out.2.drew.trans (hb2.mono A1.out.2.drew.size); have HS2 := hide hb2.size; clear hb2 hr hg))
  first | (refine hK _ _ ?_; clear hK K) | (clear hK K) | skip
  try simp only [Act.put, List.setIfInBounds_toArray, List.set_cons_zero, List.set_cons_succ]
  refine wpAny_ready (rs := [3]) (by kernel_rfl) (by simp) ?_
  refine (AllReady.cons rfl (fun K hK => ?_) AllReady.nil)
  go_simp
  go_wp2_with ((refine (HF _ _ _ _ R2.out HS2.out HG.out).mono ?_; rintro e w3 ⟨rfl, hb3⟩; have A3 := hide (A2.out.below (show w.heap.size < w1.drew.heap.size from A1.out.1.lt) hb3); have B3 : Hid (Below w.heap.size w w3) := B2.out.trans (hb3.mono A1.out.2.size); clear hb3))
  first | (refine hK _ _ ?_; clear hK K) | (clear hK K) | skip
  try simp only [Act.put, List.setIfInBounds_toArray, List.set_cons_zero, List.set_cons_succ]
  refine take_dst (i := 17) (d := 37) (v := ?_) rfl rfl (by kernel_rfl) (by kernel_rfl) (by kernel_rfl) (fun _ _ _ h => h) (by rfl) ?_ ?_
  rotate_left
  · intro wZ; go_simp; first | (with_reducible rfl) | (rw [if_pos (by omega)]; with_reducible rfl) | skip
  try simp only [Act.put, List.setIfInBounds_toArray, List.set_cons_zero, List.set_cons_succ]
  refine wpAny_ready (rs := [18]) (by kernel_rfl) (by simp) ?_
  refine (AllReady.cons rfl (fun K hK => ?_) AllReady.nil)
  refine wp_store_dst rfl 68 (.tmp 2) (.tmp 37) rfl w.heap.size (paC X p n).toArray rfl (by rw [← hA, ← hB]; rfl) 68 _ A3.out infoP rfl (one_paC X p n) ?_
  first | (refine hK _ _ ?_; clear hK K) | (clear hK K) | skip
  refine take_dst (i := 19) (d := 3) (v := ?_) rfl rfl (by kernel_rfl) (by kernel_rfl) (by kernel_rfl) (fun _ _ _ h => h) (by rfl) ?_ ?_
  rotate_left
  · intro wZ; go_simp; first | (with_reducible rfl) | (rw [if_pos (by omega)]; with_reducible rfl) | skip
  try simp only [Act.put, List.setIfInBounds_toArray, List.set_cons_zero, List.set_cons_succ]
  refine wpAny_done (by kernel_rfl) ?_ _
  go_wp2
  exact bodyPost_ret (results_ct Tryd.results24 _ _ w.heap.size (paC X p n) rfl (A3.out.row _) Tryd.underlying68 rfl infoP) rfl ⟨rfl, below_setRow B3.out (Nat.le_refl _) A3.out.lt _⟩

end Go.Proofs.YtbmjlofehbbkbaaDoor

/- Walks: Seal: a packet. -/
namespace Go.Proofs.YtbmjlofehbbkbaaDoor
open Go.RowKit

theorem fixed8 (x : Nat) (hx : x < 18446744073709551616) (w : World) : Calls Tryd.prog 30 #[.int .u64 (x : Int), .int .i64 8] w fun e w' => ∃ v, e = .returned v ∧ w'.ownsRow w.heap.size 5 1 v 8 (u8s (fx8 x)) ∧ Below w.heap.size w w' := by
  have h := fixed_in x 8 hx (by omega) (by omega) w
  rw [fixF8, ofNat_map] at h
  exact h
/-- two boxes -/
theorem old16z : (u8s (List.replicate 16 0)).toArray.size = 16 := by simp [u8s]


set_option maxHeartbeats 4000000 in
set_option maxRecDepth 100000 in
theorem seal_arg (code mark : List Nat) (d : Bool) (m : Nat) (p : Option Addr) (c n : Nat) (w : World) (hm : m < 18446744073709551616) (hm2 : ¬ m < 9223372036854775808) :
    Calls Tryd.prog 10 #[keyV code mark, noV d m, .slice p n c] w fun e w' => e = .returned (.tuple #[.slice none 0 0, .int .i64 2]) ∧ Below w.heap.size w w' := by
  have HW := hide (fun v : World => (word_no d m hm v))
  simp only [if_neg hm2] at HW
  have A1 := hide (boxes w (kCells code mark) (noC d m) 25 41)
  clear hm2
  go_enter Tryd.func10, Tryd.ntmps10
  go_upto_region 1 with fail
  generalize (w.alloc (Obj.cells (kCells code mark).toArray 25)).alloc (Obj.cells #[Value.bool d, Value.int IntKind.u64 ↑m] 41) = w1 at *
  go_wp2_with (refine wpList_load_row rfl 41 _ rfl (w.heap.size + 1) rfl 41 _ (0, 0) _ A1.out.2.1 Tryd.underlying41 rfl infoN ?_)
  refine (HW.out w1).mono ?_
  rintro e w2 ⟨rfl, hb2⟩
  have B2 : Hid (Below w.heap.size w w2) := A1.out.2.2.trans (hb2.mono A1.out.2.2.size)
  clear hb2 A1 HW
  go_wp2
  go_ret2
  exact ⟨rfl, B2.out⟩

set_option maxHeartbeats 4000000 in
set_option maxRecDepth 100000 in
theorem seal_long (code mark : List Nat) (d : Bool) (m : Nat) (p : Option Addr) (c n : Nat) (w : World) (hm : m < 9223372036854775808) (hn : 1200 < n) :
    Calls Tryd.prog 10 #[keyV code mark, noV d m, .slice p n c] w fun e w' => e = .returned (.tuple #[.slice none 0 0, .int .i64 3]) ∧ Below w.heap.size w w' := by
  have HW := hide (fun v : World => (word_no d m (by omega) v))
  simp only [if_pos hm] at HW
  have A1 := hide (boxes w (kCells code mark) (noC d m) 25 41)
  have hn' : (1200 : Int) < (n : Int) := by omega
  clear hm hn
  generalize wdF d m = X at *
  go_enter Tryd.func10, Tryd.ntmps10
  go_upto_region 1 with fail
  generalize (w.alloc (Obj.cells (kCells code mark).toArray 25)).alloc (Obj.cells #[Value.bool d, Value.int IntKind.u64 ↑m] 41) = w1 at *
  go_wp2_with (refine wpList_load_row rfl 41 _ rfl (w.heap.size + 1) rfl 41 _ (0, 0) _ A1.out.2.1 Tryd.underlying41 rfl infoN ?_)
  refine (HW.out w1).mono ?_
  rintro e w2 ⟨rfl, hb2⟩
  have B2 : Hid (Below w.heap.size w w2) := A1.out.2.2.trans (hb2.mono A1.out.2.2.size)
  clear hb2 A1 HW
  go_wp2
  go_ret2
  exact ⟨rfl, B2.out⟩

set_option maxHeartbeats 4000000 in
set_option maxRecDepth 100000 in
theorem seal_of (code mark : List Nat) (d : Bool) (m X : Nat) (p : Option Addr) (c n : Nat) (text H A G : List Nat) (w : World) (hk : IsKey code mark) (hP : Piece w p c text) (hn : text.length = n) (hn2 : n ≤ 1200) (hX : X < 18446744073709551616)
    (hHl : H.length = n) (hA : A = fx8 X ++ H) (hAb : BytesN A) (hG : G.length = 16) (hGb : BytesN G)
    (hW : ∀ v : World, Calls Tryd.prog 29 #[noV d m] v fun e w' => e = .returned (.tuple #[.int .u64 (X : Int), .int .i64 0]) ∧ Below v.heap.size v w')
    (hT : ∀ (v : World), Piece v p c text → Calls Tryd.prog 28 #[.agg (u8s code).toArray, .int .u64 (X : Int), .slice p n c] v fun r w' => ∃ u, r = .returned u ∧ w'.ownsRow v.heap.size 5 1 u n (u8s H) ∧ Below v.heap.size v w')
    (hTag : ∀ (v : World) (q : Option Addr) (cq : Nat), Below w.heap.size w v → Piece v q cq A → Calls Tryd.prog 26 #[keyV code mark, .slice q (n + 8) cq] v fun e w' => ∃ g cg, e = .returned (.slice g 16 cg) ∧ Piece w' g cg G ∧ Below v.heap.size v w') :
    Calls Tryd.prog 10 #[keyV code mark, noV d m, .slice p n c] w fun e w' => ∃ v, e = .returned (.tuple #[v, .int .i64 0]) ∧ w'.ownsRow w.heap.size 5 1 v (n + 24) (u8s (A ++ G)) ∧ Below w.heap.size w w' := by
  have HW := hide hW
  have HT := hide hT
  have HTG := hide hTag
  have HFX := hide (fun v : World => fixed8 X hX v)
  have HP := hide hP
  have HK := hide hk
  have IK := hide hk.info
  have IC := hide (szb hk.c)
  have HHL := hide hHl
  have HA := hide hA
  have HAB := hide hAb
  have HGL := hide hG
  have HGB := hide hGb
  have F8 := hide (fx8_length X)
  have HAL : Hid (A.length = n + 8) := by show _ = _; rw [hA, List.length_append, fx8_length, hHl]; omega
  have A1 := hide (boxes w (kCells code mark) (noC d m) 25 41)
  have hn' : ¬ (1200 : Int) < (n : Int) := by omega
  clear hW hT hTag hP hk hHl hA hAb hG hGb hn hX
  generalize fx8 X = F at *
  go_enter Tryd.func10, Tryd.ntmps10
  go_upto_region 1 with fail
  generalize (w.alloc (Obj.cells (kCells code mark).toArray 25)).alloc (Obj.cells #[Value.bool d, Value.int IntKind.u64 ↑m] 41) = w1 at *
  go_upto_region 6 with (first
    | (refine wpList_load_row rfl 41 _ rfl (w.heap.size + 1) rfl 41 _ (0, 0) _ A1.out.2.1 Tryd.underlying41 rfl infoN ?_)
    | (refine (HW.out w1).mono ?_; rintro e w2 ⟨rfl, hb2⟩; have H2 : Hid (Arr w2 w.heap.size 25 (kCells code mark) ∧ Piece w2 p c text ∧ Below w.heap.size w w2) := ⟨A1.out.1.kept hb2, (HP.out.kept A1.out.2.2).kept hb2, A1.out.2.2.trans (hb2.mono A1.out.2.2.size)⟩; clear hb2))
  clear A1 HW
  have HHB : Hid (BytesN H) := fun x hx => HAB.out x (by rw [HA.out]; exact List.mem_append_right _ hx)
  have HCD : Hid (∀ v, Hid (Below w2.heap.size w2 v) → v.rangeAt w.heap.size 0 (u8s code)) := fun v hb => key_code HK.out (H2.out.1.kept hb.out)
  have HPV : Hid (∀ v, Hid (Below w2.heap.size w2 v) → Piece v p c text) := fun v hb => H2.out.2.1.kept hb.out
  refine wp_region_held_drew (S := fun v => Hid (Below w2.heap.size w2 v)) (by kernel_rfl) (hide (Below.refl _ _).drew) (fun hHeld => ?_)
  refine take_dstH (i := 0) (d := 22) (v := ?_) rfl rfl (by kernel_rfl) (by kernel_rfl) (by kernel_rfl) (fun _ _ _ h => h) (by rfl) hHeld ?_ ?_
  rotate_left
  · intro wZ hSw; clear hSw; go_simp; first | (with_reducible rfl) | (rw [if_pos (by omega)]; with_reducible rfl) | skip
  try simp only [Act.put, List.setIfInBounds_toArray, List.set_cons_zero, List.set_cons_succ]
  refine take_dstH (i := 2) (d := 24) (v := ?_) rfl rfl (by kernel_rfl) (by kernel_rfl) (by kernel_rfl) (fun _ _ _ h => h) (by rfl) hHeld ?_ ?_
  rotate_left
  · intro wZ hSw; clear hSw; go_simp; first | (with_reducible rfl) | (rw [if_pos (by omega)]; with_reducible rfl) | skip
  try simp only [Act.put, List.setIfInBounds_toArray, List.set_cons_zero, List.set_cons_succ]
  refine take_dstH (i := 3) (d := 25) (v := ?_) rfl rfl (by kernel_rfl) (by kernel_rfl) (by kernel_rfl) (fun _ _ _ h => h) (by rfl) hHeld ?_ ?_
  rotate_left
  · intro wZ hSw; refine exec_load_mid 22 (.tmp 24) ?_ w.heap.size 0 ?_ (u8s code) _ (HCD.out wZ hSw) Tryd.underlying22 rfl IC.out <;> rfl
  try simp only [Act.put, List.setIfInBounds_toArray, List.set_cons_zero, List.set_cons_succ]
  refine take_dstH (i := 4) (d := 26) (v := ?_) rfl rfl (by kernel_rfl) (by kernel_rfl) (by kernel_rfl) (fun _ _ _ h => h) (by rfl) hHeld ?_ ?_
  rotate_left
  · intro wZ hSw; clear hSw; go_simp; first | (with_reducible rfl) | (rw [if_pos (by omega)]; with_reducible rfl) | skip
  try simp only [Act.put, List.setIfInBounds_toArray, List.set_cons_zero, List.set_cons_succ]
  refine take_dstH (i := 5) (d := 27) (v := ?_) rfl rfl (by kernel_rfl) (by kernel_rfl) (by kernel_rfl) (fun _ _ _ h => h) (by rfl) hHeld ?_ ?_
  rotate_left
  · intro wZ hSw; clear hSw; go_simp; first | (with_reducible rfl) | (rw [if_pos (by omega)]; with_reducible rfl) | skip
  try simp only [Act.put, List.setIfInBounds_toArray, List.set_cons_zero, List.set_cons_succ]
  refine wpAnyH_ready (rs := [1]) (by kernel_rfl) (by simp) ?_
  refine (AllReadyH.cons rfl (fun K hK => ?_) AllReadyH.nil)
  go_simp
  refine (HFX.out _).mono ?_; rintro e wa ⟨va, rfl, hoa, hba⟩; have OA : Hid (wa.ownsRow w2.heap.size 5 1 va 8 (u8s F)) := own_base hoa (Hid.out hHeld).size; have HBa : Hid (Below w2.heap.size w2 wa) := (Hid.out hHeld).trans (hba.mono (Hid.out hHeld).size); (try (replace OB := hide (own_below OB.out hba))); clear hoa hba
  go_wp2_with fail
  refine hK.out _ _ ?_ (fun hHeld => ?_)
  · exact HBa
  clear hK K
  try simp only [Act.put, List.setIfInBounds_toArray, List.set_cons_zero, List.set_cons_succ]
  refine wpAnyH_ready (rs := [6]) (by kernel_rfl) (by simp) ?_
  refine (AllReadyH.cons rfl (fun K hK => ?_) AllReadyH.nil)
  go_simp
  refine (HT.out _ (HPV.out _ hHeld)).mono ?_; rintro e wb ⟨vb, rfl, hob, hbb⟩; have OB : Hid (wb.ownsRow w2.heap.size 5 1 vb n (u8s H)) := own_base hob (Hid.out hHeld).size; have HBb : Hid (Below w2.heap.size w2 wb) := (Hid.out hHeld).trans (hbb.mono (Hid.out hHeld).size); (try (replace OA := hide (own_below OA.out hbb))); clear hob hbb
  go_wp2_with fail
  refine hK.out _ _ ?_ (fun hHeld => ?_)
  · exact HBb
  clear hK K
  try simp only [Act.put, List.setIfInBounds_toArray, List.set_cons_zero, List.set_cons_succ]
  refine wpAnyH_ready (rs := [7]) (by kernel_rfl) (by simp) ?_
  refine (AllReadyH.cons rfl (fun K hK => ?_) AllReadyH.nil)
  obtain ⟨pb, cb, rfl, hpb, _⟩ := own_piece_n OB.out HHL.out HHB.out; have PB := hide hpb; clear hpb; refine wp_append_bytes_dst (dd := 29) rfl (.tmp 23) (.tmp 28) rfl w2.heap.size va F rfl 8 F8.out OA.out pb n cb H HHL.out rfl PB.out.1 PB.out.2.1 (by omega) (Hid.out hHeld).size (fun v7 w7 hown hgrow => ?_); have HB7 : Hid (Below w2.heap.size w2 w7) := (Hid.out hHeld).grown hgrow (Hid.out hHeld).size (fun k hk => (OA.out.lt k hk).1); have O7 := hide hown; clear hown hgrow
  refine hK.out _ _ ?_ (fun hHeld => ?_)
  · exact HB7
  clear hK K
  try simp only [Act.put, List.setIfInBounds_toArray, List.set_cons_zero, List.set_cons_succ]
  refine take_dstH (i := 8) (d := 10) (v := ?_) rfl rfl (by kernel_rfl) (by kernel_rfl) (by kernel_rfl) (fun _ _ _ h => h) (by rfl) hHeld ?_ ?_
  rotate_left
  · intro wZ hSw; clear hSw; go_simp; first | (with_reducible rfl) | (rw [if_pos (by omega)]; with_reducible rfl) | skip
  try simp only [Act.put, List.setIfInBounds_toArray, List.set_cons_zero, List.set_cons_succ]
  refine wpAnyH_done (by kernel_rfl) ?_ _
  all_goals
    have HAE : Hid (A = F ++ H) := HA.out
    have O8 : Hid (w7.ownsRow w2.heap.size 5 1 v7 (n + 8) (u8s A)) := by show World.ownsRow _ _ _ _ _ _ _; rw [HAE.out, Nat.add_comm]; exact O7.out
    obtain ⟨q, cq, rfl, hq, _⟩ := own_piece_n O8.out HAL.out HAB.out
    have PQ := hide hq
    have B7 : Hid (Below w.heap.size w w7) := H2.out.2.2.trans (HB7.out.mono H2.out.2.2.size)
    have AK := hide (H2.out.1.kept HB7.out)
    have HC := hide (HTG.out w7 q cq B7.out PQ.out)
    have HWS := hide H2.out.2.2.size
    clear hq O7 HA HAE HTG hHeld HFX HT HPV HCD H2 HAB HP HK
    generalize w2.heap.size = G2 at *
    go_wp2_with (first
      | (refine wpList_load_row rfl 25 _ rfl w.heap.size rfl 25 _ (0, 0) _ AK.out Tryd.underlying25 rfl IK.out ?_)
      | (refine HC.out.mono ?_; rintro e w8 ⟨g, cg, rfl, hpg, hb8⟩; have PG := hide hpg; have O9 := hide (own_below O8.out hb8); have B9 : Hid (Below w.heap.size w w8) := B7.out.trans (hb8.mono B7.out.size); clear hpg hb8 AK HC O8 B7 PQ)
      | (at_builtin; refine wpList_append_bytes rfl (.tmp 30) (.tmp 33) rfl w.heap.size _ A rfl (n + 8) HAL.out (own_base O9.out HWS.out) g 16 cg G HGL.out rfl PG.out.1 PG.out.2.1 (by omega) B9.out.size ?_; intro v10 w10 hown hgrow; have O10 := hide hown; have B10 : Hid (Below w.heap.size w w10) := B9.out.grown hgrow B9.out.size (fun k hk => ((own_base O9.out HWS.out).lt k hk).1); clear hown hgrow))
    go_ret2
    exact ⟨v10, rfl, O10.out, B10.out⟩

theorem seal_ok (code mark : List Nat) (d : Bool) (m : Nat) (p : Option Addr) (c n : Nat) (text : List Nat) (w : World) (hk : IsKey code mark) (hm : m < 9223372036854775808) (hP : Piece w p c text) (hn : text.length = n) (hn2 : n ≤ 1200) (hL : Laid w) :
    Calls Tryd.prog 10 #[keyV code mark, noV d m, .slice p n c] w fun e w' => ∃ v, e = .returned (.tuple #[v, .int .i64 0]) ∧ w'.ownsRow w.heap.size 5 1 v (n + 24) (u8s (paF code mark (wdF d m) text)) ∧ Below w.heap.size w w' := by
  have hX := wdF_lt (d := d) hm
  have hA := ahF_bytes hk.c (wdF d m) hP.2.2.1
  refine seal_of code mark d m (wdF d m) p c n text (hiF code (wdF d m) text) (ahF code (wdF d m) text) (tgF mark (ahF code (wdF d m) text)) w hk hP hn hn2 hX (by rw [hiF_length, hn]) rfl hA (tgF_length _ _) (tgF_bytes _ _)
    (fun v => by have h := word_no d m (by omega) v; simp only [if_pos hm] at h; exact h) (fun v hv => turn_any code (wdF d m) n p c text v hk.c hX hv hn (by omega)) (fun v q cq hb hq => ?_)
  have hL2 := hL.size
  refine (tag_any code mark q cq (n + 8) _ v hk hq (by rw [ahF_length, hn]) (by omega) (hL.keptB (B := w.heap.size) hL2 hb)).mono ?_
  rintro e w' ⟨g, he, _, hp, hb'⟩
  exact ⟨_, _, he, hp, hb'⟩

end Go.Proofs.YtbmjlofehbbkbaaDoor
