/-
  A joiner of the program's in memory. Walks of the program: what stands against a piece, bytes copied, whether a piece is wanted, done with a text.
-/
import Derived.Test.YtecpnnnkkofejaaGI
namespace Go.Proofs.Ytecpnnnkkofejaa
open Go.RowKit

set_option maxHeartbeats 1000000 in
set_option maxRecDepth 100000 in
theorem fault_in (i a : Int) (l : Bool) (p : Option Addr) (n c : Nat) (r : Int) (w : World) (hr : (if a < 0 ∨ 255 < a then 2 else if 1100 < n then 3 else 0 : Int) = r) :
    Calls Try.prog 25 #[.agg #[.int .u64 i, .int .i64 a, .bool l, .slice p n c]] w fun e w' => e = .returned (.int .i64 r) ∧ Below w.heap.size w w' := by
  have HR := hide hr
  have A1 : Hid (Below w.heap.size w (w.alloc (Obj.cells #[.int .u64 i, .int .i64 a, .bool l, .slice p n c] 25))) := (Below.refl _ _).alloc (Nat.le_refl _) _
  clear hr
  by_cases h1 : a < 0
  · go_enter Try.func25, Try.ntmps25
    go_wp2
    go_ret
    exact ⟨ret_i64 (by rw [← HR.out, if_pos (Or.inl h1)]), A1.out⟩
  by_cases h2 : 255 < a
  · have h2' : 256 ≤ a := by omega
    go_enter Try.func25, Try.ntmps25
    go_wp2
    go_ret
    exact ⟨ret_i64 (by rw [← HR.out, if_pos (Or.inr h2)]), A1.out⟩
  have h2' : ¬ 256 ≤ a := by omega
  by_cases h3 : 1100 < n
  · have h3' : (1100 : Int) < (n : Int) := by omega
    go_enter Try.func25, Try.ntmps25
    go_wp2
    go_ret
    exact ⟨ret_i64 (by rw [← HR.out, if_neg (by omega), if_pos h3]), A1.out⟩
  · have h3' : ¬ (1100 : Int) < (n : Int) := by omega
    go_enter Try.func25, Try.ntmps25
    go_wp2
    go_ret
    exact ⟨ret_i64 (by rw [← HR.out, if_neg (by omega), if_neg h3]), A1.out⟩
theorem fault_any (x : Pc) (p : Option Addr) (c : Nat) (w : World) :
    Calls Try.prog 25 #[pcV x p c] w fun e w' => e = .returned (.int .i64 x.e) ∧ Below w.heap.size w w' := fault_in _ _ _ p _ c _ w rfl

theorem own_both {w : World} {B : Nat} {v : Value} {l : List Nat} {n : Nat} (h : w.ownsRow B 5 1 v n (u8s l)) (hl : l.length = n) (hb : BytesN l) : ∃ p c, v = .slice p n c ∧ Piece w p c l ∧ OB w B p l := by
  obtain ⟨p, c, hv, hP, _⟩ := own_piece_n h hl hb
  obtain ⟨p', c', hv', hO⟩ := own_ob h hl hb
  rw [hv] at hv'
  cases hv'
  exact ⟨p, c, hv, hP, hO⟩

/-- bytes copied -/
theorem bclone_any (b : List Nat) (n c : Nat) (p : Option Addr) (w : World) (h : Piece w p c b) (hn : b.length = n) (hb : n ≤ 1000000) :
    Calls Try.prog 34 #[.slice p n c] w fun e w' => ∃ q d, e = .returned (.slice q n d) ∧ Piece w' q d b ∧ OB w' w.heap.size q b ∧ Below w.heap.size w w' := by
  have h1 := clone_any p c (b.map Int.ofNat) w (by simp; omega) (bytesIn_of h)
  rw [show (b.map Int.ofNat).length = n by simpa using hn, show (b.map Int.ofNat).map (Value.int .u8) = u8s b by rw [u8s, List.map_map]; rfl] at h1
  refine h1.mono ?_
  rintro e w' ⟨v, rfl, ho, hb⟩
  obtain ⟨q, d, rfl, hq, ho2⟩ := own_both ho hn h.2.2.1
  exact ⟨q, d, rfl, hq, ho2, hb⟩

/-- a map of these, by so many -/
theorem mp_tight {w : World} {b n : Nat} {ks : List Pk} (h : Mp w b n (mapOf ks)) : Mp w b ks.length (mapOf ks) := by
  obtain ⟨es, clock, hb, F, hs, hD⟩ := h
  refine ⟨es, clock, hb, F, ?_, hD⟩
  have := congrArg Maps.size hD
  rw [size_mapOf] at this
  simp [Maps.size, length_sorted] at this
  omega

/-- the bytes of a piece that is held -/
def EP (w : World) (k : Pk) : Prop := OB w 0 k.p k.x.b ∧ (k.p = none → k.c = 0)
theorem EP.kept {w w' : World} {k : Pk} (h : EP w k) (hb : Below w.heap.size w w') : EP w' k := ⟨h.1.kept hb, h.2⟩
theorem EP.keptR {w w' : World} {k : Pk} {g : Nat} {t : TypeId} {us : Array Value} {f : Nat × Nat} (h : EP w k) (hg : w.grownBy w' (some g)) (hw : w.heap[g]? = some (.cells us t f)) (ht : t ≠ 5) : EP w' k := ⟨h.1.keptR hg hw ht, h.2⟩
/-- .. a map is written -/
theorem EP.keptM {w w' : World} {k : Pk} {b n : Nat} {D : DataW Value} (h : EP w k) (hg : w.grownBy w' (some b)) (hm : Mp w b n D) : EP w' k := by
  obtain ⟨es, clock, hb, _⟩ := hm
  have hne : ∀ a, k.p = some a → k.x.b ≠ [] → a.block ≠ b := fun a ha hn e => by
    obtain ⟨_, cs, fr, h2⟩ := h.1.2 a ha hn
    rw [e, hb] at h2
    cases h2
  refine ⟨⟨⟨bi_grown h.1.1.1 hg hne, h.1.1.2⟩, fun a ha hn => ?_⟩, h.2⟩
  obtain ⟨h1, cs, fr, h2⟩ := h.1.2 a ha hn
  have hlt : a.block < w.heap.size := by
    by_cases hlt : a.block < w.heap.size
    · exact hlt
    · rw [Array.getElem?_eq_none (by omega)] at h2; cases h2
  exact ⟨h1, cs, fr, by rw [hg.block _ hlt (fun e => hne a ha hn (by cases e; rfl))]; exact h2⟩
/-- what a joiner holds: none, or a map -/
def Held (w : World) (q : Option Nat) (ks : List Pk) : Prop := match q with | none => ks = [] | some b => Mp w b ks.length (mapOf ks)
/-- a joiner of the program's -/
structure PJ (w : World) (g i : Nat) (done : Bool) (must : Int) (q : Option Nat) (ks : List Pk) : Prop where
  j : Arr w g 55 [.int .u64 (i : Int), .bool done, .int .i64 must, .map q]
  d : Dist ks
  m : Held w q ks
  e : ∀ k ∈ ks, EP w k
theorem Held.kept {w w' : World} {q : Option Nat} {ks : List Pk} {r : Option Nat} (h : Held w q ks) (hg : w.grownBy w' r) (hr : ∀ b, q = some b → some b ≠ r) : Held w' q ks := by
  cases q with
  | none => exact h
  | some b => exact World.ownsMap.kept h hg (hr b rfl)
theorem PJ.kept {w w' : World} {g i : Nat} {done : Bool} {must : Int} {q : Option Nat} {ks : List Pk} (h : PJ w g i done must q ks) (hb : Below w.heap.size w w') : PJ w' g i done must q ks :=
  ⟨h.j.kept hb, h.d, h.m.kept (below_grown hb none) (fun _ _ e => by cases e), fun k hk => (h.e k hk).kept hb⟩
/-- no row of cells is a map -/
theorem held_ne {w : World} {q : Option Nat} {ks : List Pk} {g : Nat} {t : TypeId} {vs : List Value} (h : Held w q ks) (hg : Arr w g t vs) : ∀ b, q = some b → some b ≠ some g := by
  intro b hb e
  subst hb
  cases e
  obtain ⟨es, clock, hb, _⟩ := h
  unfold Arr at hg
  rw [hg] at hb
  cases hb
/-- a joiner beside which another block of cells is written -/
theorem PJ.row {w w' : World} {g i : Nat} {done : Bool} {must : Int} {q : Option Nat} {ks : List Pk} {X : Nat} {t : TypeId} {vs : List Value} (h : PJ w g i done must q ks) (hX : Arr w X t vs) (ht : t ≠ 5) (hne : X ≠ g) (hg : w.grownBy w' (some X)) : PJ w' g i done must q ks :=
  ⟨h.j.keptR hg (by simpa using hne), h.d, h.m.kept hg (held_ne h.m hX), fun k hk => (h.e k hk).keptR hg hX ht⟩
/-- a joiner that is set anew -/
theorem PJ.set {w : World} {g i : Nat} {done : Bool} {must : Int} {q : Option Nat} {ks : List Pk} (h : PJ w g i done must q ks) (dn : Bool) (i' : Nat) : PJ (w.setRow g #[.int .u64 (i' : Int), .bool dn, .int .i64 0, .map none]) g i' dn 0 none [] :=
  ⟨h.j.row _, List.Pairwise.nil, rfl, fun k hk => by cases hk⟩
theorem pj_look {w : World} {g i : Nat} {done : Bool} {must : Int} {q : Option Nat} {ks : List Pk} (h : PJ w g i done must q ks) (a : Int) (ha : (Lit.int .i64 a).wf = true) :
    (Instr.lookup 53 (.map q) (.int .i64 a) true).run Try.prog w = .ok (.tuple #[.slice (atP ks a) (atX ks a).b.length (atC ks a), .bool (findP ks a).isSome]) w ∧
    (Instr.lookup 53 (.map q) (.int .i64 a) false).run Try.prog w = .ok (.slice (atP ks a) (atX ks a).b.length (atC ks a)) w := by
  cases q with
  | none =>
    have e : ks = [] := h.m
    subst e
    exact mp_look_none w a ha
  | some b => exact mp_look h.m h.d a ha
theorem infoFJ : (Try.prog.info? 55).map (·.size) = some 4 := by kernel_rfl
theorem built_f1 (i : Int) : Try.prog.built 55 [(0, .int .u64 i)] = some #[.int .u64 i, .bool false, .int .i64 0, .map none] := by kernel_rfl
theorem built_f2 (i : Int) : Try.prog.built 55 [(0, .int .u64 i), (1, .bool true)] = some #[.int .u64 i, .bool true, .int .i64 0, .map none] := by kernel_rfl
theorem one_fj (i : Int) (d : Bool) (m : Int) (q : Option Nat) : (#[Value.int .u64 i, .bool d, .int .i64 m, .map q] : Array Value).all (·.oneCell') = true := by simp [Value.oneCell']

set_option maxHeartbeats 1000000 in
set_option maxRecDepth 100000 in
/-- done with a text -/
theorem finish_any (g i : Nat) (done : Bool) (must : Int) (q : Option Nat) (w : World) (h : Arr w g 55 [.int .u64 (i : Int), .bool done, .int .i64 must, .map q]) :
    Calls Try.prog 37 #[.pointer (some ⟨g, 0, none⟩)] w fun e w' => e = .returned (.tuple #[]) ∧ w' = w.setRow g #[.int .u64 (i : Int), .bool true, .int .i64 0, .map none] := by
  have H := hide h
  have c0 := h.cell 0
  simp only [List.getElem?_cons_zero] at c0
  clear h
  go_enter Try.func37, Try.ntmps37
  go_wp2_with (refine wpList_store_row rfl 55 _ _ rfl g #[.int .u64 (i : Int), .bool true, .int .i64 0, .map none] rfl rfl 55 _ H.out infoFJ (by simp) (one_fj _ _ _ _) ?_)
  exact bodyPost_end (results_none rfl _ _ _) rfl ⟨rfl, rfl⟩

end Go.Proofs.Ytecpnnnkkofejaa
