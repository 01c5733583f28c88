/-
  A walk of the document's answer: Put.
-/
import Derived.Test.YtecpnnnkkofejaaGV
import Derived.Test.YtecpnnnkkofejaaBT
namespace Go.Proofs.Ytecpnnnkkofejaa
open Go.RowKit

theorem built_j (i : Int) : Try.prog.built 45 [(0, .bool true), (2, .int .u64 i)] = some #[.bool true, .bool false, .int .u64 i, .int .i64 0, .slice none 0 0] := by kernel_rfl
theorem built_j2 (i : Int) : Try.prog.built 45 [(0, .bool true), (1, .bool true), (2, .int .u64 i)] = some #[.bool true, .bool true, .int .u64 i, .int .i64 0, .slice none 0 0] := by kernel_rfl

/-- a joiner that is set anew -/
theorem RPn.set {w : World} {B g N : Nat} {s : Js} (h : RPn w B g N s) (done : Bool) (i : Nat) : RPn (w.setRow g #[.bool true, .bool done, .int .u64 (i : Int), .int .i64 0, .slice none 0 0]) B g N ⟨true, done, i, 0, []⟩ := by
  obtain ⟨q, d, ks, h1, h2, _⟩ := h
  exact ⟨none, 0, [], ⟨h1.j.row _, World.ownsRow_nil _ _ _ _, fun k hk => by cases hk⟩, rfl, fun a ha => by cases ha⟩
theorem RPn.arr {w : World} {B g N : Nat} {s : Js} (h : RPn w B g N s) : ∃ cs, cs.length = 5 ∧ Arr w g 45 cs := by
  obtain ⟨q, d, ks, h1, _, _⟩ := h
  exact ⟨_, rfl, h1.j⟩

/-- the five cells that are read when a piece is held -/
def Q5 (v : World) (g b n d : Nat) (q p : Option Addr) (c : Nat) (x : Pc) : Prop := v.cell? ⟨g, 4, none⟩ = some (.slice q n d) ∧ v.cell? ⟨b, 0, none⟩ = some (.int .u64 (x.i : Int)) ∧ v.cell? ⟨b, 1, none⟩ = some (.int .i64 x.a) ∧ v.cell? ⟨b, 2, none⟩ = some (.bool x.l) ∧ v.cell? ⟨b, 3, none⟩ = some (.slice p x.b.length c)
theorem Q5.kept {v v' : World} {g b n d c : Nat} {q p : Option Addr} {x : Pc} (h : Q5 v g b n d q p c x) (hb : Below v.heap.size v v') : Q5 v' g b n d q p c x := by
  obtain ⟨h0, h1, h2, h3, h4⟩ := h
  exact ⟨(hb.cell (block_lt_of_cell h0)).trans h0, (hb.cell (block_lt_of_cell h1)).trans h1, (hb.cell (block_lt_of_cell h2)).trans h2, (hb.cell (block_lt_of_cell h3)).trans h3, (hb.cell (block_lt_of_cell h4)).trans h4⟩
theorem Q5.keptR {v v' : World} {g b n d c : Nat} {q p : Option Addr} {x : Pc} {r : Option Nat} (h : Q5 v g b n d q p c x) (hg : v.grownBy v' r) (h1 : r ≠ some g) (h2 : r ≠ some b) : Q5 v' g b n d q p c x := by
  obtain ⟨k0, k1, k2, k3, k4⟩ := h
  exact ⟨hg.cell k0 (fun e => h1 e.symm), hg.cell k1 (fun e => h2 e.symm), hg.cell k2 (fun e => h2 e.symm), hg.cell k3 (fun e => h2 e.symm), hg.cell k4 (fun e => h2 e.symm)⟩

/-- a block of another type is no row of pieces -/
theorem row_ne {w : World} {B X : Nat} {v : Value} {n : Nat} {xs vs : List Value} {t : TypeId} (h : w.ownsRow B 25 4 v n xs) (hA : Arr w X t vs) (ht : t ≠ 25) : v.ownBlock ≠ some X := by
  intro e
  rcases h.2 with ⟨rfl, _⟩ | ⟨g, cap, cur, rfl, hb, hg, _⟩
  · simp [Value.ownBlock] at e
  · simp [Value.ownBlock] at e
    subst e
    unfold Arr at hA
    rw [hA] at hg
    simp at hg
    exact ht hg.2

/-- .. what is left of it, once the bytes were copied -/
structure StQ (w wr : World) (B g : Nat) (s : Js) (x : Pc) (p : Option Addr) (c : Nat) : Prop where
  j : RPn wr B g w.heap.size s
  b : Arr wr w.heap.size 25 (pcC x p c)
  w : Grow w wr (SP w B g)
theorem StQ.kept {w wr w' : World} {B g c : Nat} {s : Js} {x : Pc} {p : Option Addr} (h : StQ w wr B g s x p c) (hb : Below wr.heap.size wr w') : StQ w w' B g s x p c := ⟨h.j.kept hb, h.b.kept hb, h.w.below hb⟩
theorem StQ.drew {w wr : World} {B g c : Nat} {s : Js} {x : Pc} {p : Option Addr} (h : StQ w wr B g s x p c) : StQ w wr.drew B g s x p c := h.kept (Below.refl _ _).drew
theorem StQ.box {w wr : World} {B g c : Nat} {s : Js} {x : Pc} {p : Option Addr} (h : StQ w wr B g s x p c) : wr.cell? ⟨w.heap.size, 0, none⟩ = some (.int .u64 (x.i : Int)) ∧ wr.cell? ⟨w.heap.size, 1, none⟩ = some (.int .i64 x.a) ∧ wr.cell? ⟨w.heap.size, 2, none⟩ = some (.bool x.l) ∧ wr.cell? ⟨w.heap.size, 3, none⟩ = some (.slice p x.b.length c) := ⟨h.b.cell 0, h.b.cell 1, h.b.cell 2, h.b.cell 3⟩
theorem StQ.set {w wr : World} {B g c : Nat} {s : Js} {x : Pc} {p : Option Addr} (h : StQ w wr B g s x p c) (hgw : g < w.heap.size) (done : Bool) (i : Nat) :
    StQ w (wr.setRow g #[.bool true, .bool done, .int .u64 (i : Int), .int .i64 0, .slice none 0 0]) B g ⟨true, done, i, 0, []⟩ x p c :=
  ⟨h.j.set done i, h.b.rowOther _ _ (by omega), h.w.grown (grown_setRow _ _ _) (fun k hk _ => by cases hk; exact Or.inl rfl)⟩

theorem grown_cell (w : World) (X j : Nat) (v : Value) : w.grownBy (w.setCell ⟨X, j, none⟩ v) (some X) :=
  ⟨rfl, rfl, rfl, by simp, fun k _ hk => heap_setCell_other w ⟨X, j, none⟩ k _ (fun e => hk (by simp [e]))⟩
theorem own_at_ne {q : Option Addr} {n d N : Nat} (h : ∀ a, q = some a → a.block ≠ N) : (Value.slice q n d).ownBlock ≠ some N := by
  cases q with
  | none => simp [Value.ownBlock]
  | some a => simp [Value.ownBlock]; exact h a rfl
theorem OB.row {w w' : World} {B C : Nat} {p : Option Addr} {b : List Nat} {v : Value} {n : Nat} {xs : List Value} (h : OB w C p b) (ho : w.ownsRow B 25 4 v n xs) (hg : w.grownBy w' v.ownBlock) : OB w' C p b := by
  rcases ho.2 with ⟨rfl, _⟩ | ⟨g, cap, cur, rfl, _, hgt, _⟩
  · exact h.kept (grown_below hg (Nat.le_refl _) (by intro k hk; simp [Value.ownBlock] at hk))
  · exact h.keptR hg hgt (by decide)

/-- a piece was held -/
theorem held_stq {w w8 w9 wC : World} {B g c d dc cb i : Nat} {met done : Bool} {must : Nat} {s : Js} {x : Pc} {p q qc pb : Option Addr} {ks : List Pk} (h8 : Grow w w8 (SP w B g)) (hb8 : Arr w8 w.heap.size 25 (pcC x p c)) (hB : B ≤ w8.heap.size) (hgw : g < w.heap.size)
    (hs : s = ⟨met, done, i, must, ks.map Pk.x⟩) (h9 : Below w8.heap.size w8 w9) (hj : RJ w9 B g met done i (must : Int) q d ks) (hq : ∀ a, q = some a → a.block ≠ w.heap.size) (hob : OB w9 w8.heap.size pb x.b) (hcb : pb = none → cb = 0)
    (ho : wC.ownsRow B 25 4 (.slice qc (ks.length + 1) dc) (ks.length + 1) (pkC (ks ++ [⟨x, pb, cb⟩]))) (hg : w9.grownBy wC (Value.slice q ks.length d).ownBlock) (hat : (Value.slice qc (ks.length + 1) dc).ownBlock = (Value.slice q ks.length d).ownBlock ∨ (Value.slice qc (ks.length + 1) dc).ownBlock = some w9.heap.size) :
    StQ w (wC.setCell ⟨g, 4, none⟩ (.slice qc (ks.length + 1) dc)) B g (s.hold x) x p c := by
  have hlt : w.heap.size < w9.heap.size := Nat.lt_of_lt_of_le hb8.lt h9.size
  have hne := row_ne hj.o hj.j (by decide)
  have CJ := hj.j.keptR hg hne
  have hne2 := row_ne ho CJ (by decide)
  have hl : (ks ++ [Pk.mk x pb cb]).length = ks.length + 1 := by simp
  subst hs
  refine ⟨⟨qc, dc, ks ++ [⟨x, pb, cb⟩], ⟨?_, ?_, ?_⟩, ?_, ?_⟩, ?_, ?_⟩
  · rw [hl]
    exact CJ.set 4 (.slice qc (ks.length + 1) dc)
  · rw [hl]
    exact ho.kept (grown_cell wC g 4 _) (Or.inr hne2)
  · intro k hk
    rcases List.mem_append.1 hk with h | h
    · exact ⟨((hj.e k h).1.row hj.o hg).keptR (grown_cell wC g 4 _) CJ (by decide), (hj.e k h).2⟩
    · simp at h
      subst h
      exact ⟨((hob.from hB).row hj.o hg).keptR (grown_cell wC g 4 _) CJ (by decide), hcb⟩
  · simp [Js.hold]
  · intro a ha e
    subst ha
    simp only [Value.ownBlock] at hat
    rcases hat with h | h
    · cases q with
      | none => simp at h
      | some b =>
        simp at h
        exact hq b rfl (by rw [← h]; exact e)
    · simp at h
      omega
  · exact ((hb8.kept h9).keptR hg (own_at_ne hq)).other _ _ (by show w.heap.size ≠ g; omega)
  · exact (grow_row (h8.below h9) hj.o hg).grown (grown_cell wC g 4 _) (fun k hk _ => by cases hk; exact Or.inl rfl)

theorem StP.set {w wr : World} {B g c : Nat} {s : Js} {x : Pc} {p : Option Addr} (h : StP w wr B g s x p c) (ha : Apt p x.b g) (hgw : g < w.heap.size) (done : Bool) (i : Nat) :
    StP w (wr.setRow g #[.bool true, .bool done, .int .u64 (i : Int), .int .i64 0, .slice none 0 0]) B g ⟨true, done, i, 0, []⟩ x p c :=
  ⟨h.j.set done i, h.b.rowOther _ _ (by omega), ⟨bi_grown h.t.1 (grown_setRow _ _ _) (fun a e hn => ha a e hn), h.t.2⟩, h.w.grown (grown_setRow _ _ _) (fun k hk _ => by cases hk; exact Or.inl rfl)⟩

theorem stop_is {s : Js} {x : Pc} {r : Bool} (hr : s.has x.a = r) : s.stop x = (s.done || r || (decide (0 < s.must) && decide ((s.must : Int) ≤ x.a))) := by rw [Js.stop, hr]

theorem own_base4 {w : World} {B B' : Nat} {v : Value} {n : Nat} {xs : List Value} (h : w.ownsRow B 25 4 v n xs) (hB : B' ≤ B) : w.ownsRow B' 25 4 v n xs := by
  refine ⟨h.1, ?_⟩
  rcases h.2 with h0 | ⟨g, cap, cur, e1, e2, e3⟩
  · exact .inl h0
  · exact .inr ⟨g, cap, cur, e1, Nat.le_trans hB e2, e3⟩

/-- pieces were let go -/
theorem bound_stq {w w6 wr : World} {B g c d d' i m n : Nat} {met done : Bool} {must : Int} {s : Js} {x : Pc} {p q q' : Option Addr} {ks ls : List Pk} (hj : Arr w6 g 45 [.bool met, .bool done, .int .u64 (i : Int), .int .i64 must, .slice q n d]) (hb : Arr w6 w.heap.size 25 (pcC x p c))
    (he : ∀ k ∈ ks, OB w6 B k.p k.x.b ∧ (k.p = none → k.c = 0)) (hw : Grow w w6 (SP w B g)) (hB : B ≤ w6.heap.size) (hgw : g < w.heap.size) (hbl : Below w6.heap.size w6 wr) (ho : wr.ownsRow w6.heap.size 25 4 (.slice q' m d') m (pkC ls)) (hls : ∀ k ∈ ls, k ∈ ks) (hm : ls.length = m)
    (hs : s.met = met ∧ s.done = done ∧ s.i = i ∧ (s.must : Int) = must ∧ ls.map Pk.x = s.l) : StQ w (wr.setCell ⟨g, 4, none⟩ (.slice q' m d')) B g s x p c := by
  obtain ⟨h1, h2, h3, h4, h5⟩ := hs
  have hj' := hj.kept hbl
  have hne := row_ne ho hj' (by decide)
  have hwb := hb.lt
  subst hm
  refine ⟨⟨q', d', ls, ⟨?_, ?_, ?_⟩, h5, ?_⟩, (hb.kept hbl).other _ _ (by show w.heap.size ≠ g; omega), (hw.below hbl).grown (grown_cell wr g 4 _) (fun k hk _ => by cases hk; exact Or.inl rfl)⟩
  · rw [h1, h2, h3, h4]
    exact hj'.set 4 _
  · exact (own_base4 ho hB).kept (grown_cell wr g 4 _) (Or.inr hne)
  · intro k hk
    exact ⟨((he k (hls k hk)).1.kept hbl).keptR (grown_cell wr g 4 _) hj' (by decide), (he k (hls k hk)).2⟩
  · intro a ha e
    subst ha
    have := (ho.lt a.block (by simp [Value.ownBlock])).1
    omega

theorem rj_at {w : World} {B : Nat} {ks : List Pk} (h : ∀ k ∈ ks, OB w B k.p k.x.b ∧ (k.p = none → k.c = 0)) (a : Int) : BI w (atP ks a) (atX ks a).b ∧ (atP ks a = none → atC ks a = 0) ∧ BytesN (atX ks a).b := by
  unfold atP atX atC
  cases hf : findP ks a with
  | none => exact ⟨Or.inl rfl, fun _ => rfl, fun x hx => by cases hx⟩
  | some k =>
    have h1 := h k (findP_mem hf).1
    exact ⟨h1.1.1.1, h1.2, h1.1.1.2⟩
theorem rj_bytes {w : World} {B : Nat} {ks : List Pk} (h : ∀ k ∈ ks, OB w B k.p k.x.b ∧ (k.p = none → k.c = 0)) : ∀ m, BytesN (whP ks m)
  | 0 => fun x hx => by cases hx
  | m + 1 => bytes_append (rj_bytes h m) (rj_at h m).2.2

set_option maxHeartbeats 8000000 in
set_option maxRecDepth 100000 in
theorem rput_more (w : World) (B g c : Nat) (s s1 s3 s' : Js) (x : Pc) (p : Option Addr) (T : List Nat) (ok : Bool) (er : Int) (h : RP w B g s) (ht : Piece w p c x.b) (hE : x.e = 0) (h0 : ¬ (s.met = true ∧ x.i < s.i)) (hgw : g < w.heap.size) (ha : Apt p x.b g) (hs1 : s.meet x = s1) (hs3 : (s1.hold x).bound x = s3) (N0 : Nat) (hft : s.fits N0) (hN0 : N0 ≤ 1000) (hBw : B ≤ w.heap.size)
    (k1 : s1.stop x = true → T = [] ∧ ok = false ∧ er = 0 ∧ s' = s1)
    (k2 : s1.stop x = false → 65536 < sizeL s3.l → T = [] ∧ ok = false ∧ er = 3 ∧ s' = Js.over x.i)
    (k3 : s1.stop x = false → ¬ 65536 < sizeL s3.l → (s3.must = 0 ∨ s3.l.length < s3.must) → T = [] ∧ ok = false ∧ er = 0 ∧ s' = s3)
    (k4 : s1.stop x = false → ¬ 65536 < sizeL s3.l → ¬ (s3.must = 0 ∨ s3.l.length < s3.must) → T = s3.whole s3.must ∧ ok = true ∧ er = 0 ∧ s' = Js.over x.i) :
    Calls Try.prog 21 #[.pointer (some ⟨g, 0, none⟩), pcV x p c] w fun e w' => ∃ q, (∃ d, e = .returned (.tuple #[.slice q T.length d, .bool ok, .int .i64 er])) ∧ BR w' q T ∧ RP w' B g s' ∧ Grow w w' (SP w B g) := by
  have A1 := hide (stp_start h ht)
  have HM : Hid (∀ v : World, Calls Try.prog 11 #[pcV x p c] v fun e w' => e = .returned (.int .i64 0) ∧ Below v.heap.size v w') := fun v => by
    have := rpmay_any x p c v
    rwa [hE] at this
  have H0 := hide h0
  have HS1 := hide hs1
  have HS3 := hide hs3
  have HAP := hide ha
  have HGW := hide hgw
  have HF1 := meet_fits hft x
  rw [hs1] at HF1
  have HF3 := hide (bound_fits HF1 x hE)
  rw [hs3] at HF3
  have HLN : Hid (s1.l.length ≤ 1000) := Nat.le_trans HF1.2.2 hN0
  have K1 := hide k1
  have K2 := hide k2
  have K3 := hide k3
  have K4 := hide k4
  have HE := hide hE
  have HBW := hide hBw
  clear hBw h ht hE h0 ha hgw hs1 hs3 hft HF1 k1 k2 k3 k4
  go_enter Try.func21, Try.ntmps21
  go_upto_region 1 with fail
  generalize w.alloc (Obj.cells #[.int .u64 (x.i : Int), .int .i64 x.a, .bool x.l, .slice p x.b.length c] 25) = w1 at *
  go_wp2_with (refine wpList_exec (by rfl) _ (exec_load_all 25 (.tmp 3) rfl w.heap.size rfl 25 (pcC x p c) _ A1.out.b Try.underlying25 rfl infoPc) ?_)
  refine (HM.out w1).mono ?_
  rintro e w2 ⟨rfl, hb⟩
  have A2 := hide (A1.out.kept hb)
  clear hb A1 HM
  obtain ⟨c0, c1, c2, c3⟩ := A2.out.j.cells
  obtain ⟨b0, b1, b2, b3⟩ := A2.out.box
  go_upto_region 4 with fail
  go_cut [33] (fun s33 wc => s33 = .bool false ∧ wc = w2.drew)
  case first => as_aux_lemma =>
    cases hm : s.met
    · rw [hm] at c0
      refine wp_region_held_drew (S := fun v => Hid (v = w2.drew)) (by kernel_rfl) (hide rfl) (fun hHeld => ?_)
      refine take_dstH (i := 0) (d := 21) (v := ?_) rfl rfl (by kernel_rfl) (by kernel_rfl) (by kernel_rfl) (fun _ _ _ h => h) (by rfl) hHeld ?_ ?_
      rotate_left
      · intro wZ hSw; clear hSw; go_simp; first | (with_reducible rfl) | (rw [if_pos (by omega)]; with_reducible rfl) | skip
      try simp only [Act.put, List.setIfInBounds_toArray, List.set_cons_zero, List.set_cons_succ]
      refine take_dstH (i := 1) (d := 22) (v := ?_) rfl rfl (by kernel_rfl) (by kernel_rfl) (by kernel_rfl) (fun _ _ _ h => h) (by rfl) hHeld ?_ ?_
      rotate_left
      · intro wZ hSw; clear hSw; go_simp; first | (with_reducible rfl) | (rw [if_pos (by omega)]; with_reducible rfl) | skip
      try simp only [Act.put, List.setIfInBounds_toArray, List.set_cons_zero, List.set_cons_succ]
      refine take_dstH (i := 2) (d := 23) (v := ?_) rfl rfl (by kernel_rfl) (by kernel_rfl) (by kernel_rfl) (fun _ _ _ h => h) (by rfl) hHeld ?_ ?_
      rotate_left
      · intro wZ hSw; clear hSw; go_simp; first | (with_reducible rfl) | (rw [if_pos (by omega)]; with_reducible rfl) | skip
      try simp only [Act.put, List.setIfInBounds_toArray, List.set_cons_zero, List.set_cons_succ]
      refine take_dstH (i := 3) (d := 24) (v := ?_) rfl rfl (by kernel_rfl) (by kernel_rfl) (by kernel_rfl) (fun _ _ _ h => h) (by rfl) hHeld ?_ ?_
      rotate_left
      · intro wZ hSw; have hfS := (fun (v : World) (hv : Hid (v = w2.drew)) => show v.cell? ⟨g, 0, none⟩ = some (.bool false) from by rw [hv.out]; exact c0) wZ hSw; clear hSw; go_simp; first | (with_reducible rfl) | (rw [if_pos (by omega)]; with_reducible rfl) | skip
      try simp only [Act.put, List.setIfInBounds_toArray, List.set_cons_zero, List.set_cons_succ]
      refine take_dstH (i := 4) (d := 25) (v := ?_) rfl rfl (by kernel_rfl) (by kernel_rfl) (by kernel_rfl) (fun _ _ _ h => h) (by rfl) hHeld ?_ ?_
      rotate_left
      · intro wZ hSw; clear hSw; go_simp; first | (with_reducible rfl) | (rw [if_pos (by omega)]; with_reducible rfl) | skip
      try simp only [Act.put, List.setIfInBounds_toArray, List.set_cons_zero, List.set_cons_succ]
      refine skip_dstH (i := 5) (d := 26) rfl rfl (by kernel_rfl) (by kernel_rfl) (by kernel_rfl) (fun _ _ _ h => h) (by rfl) hHeld ?_
      try simp only [Act.put, List.setIfInBounds_toArray, List.set_cons_zero, List.set_cons_succ]
      refine skip_dstH (i := 6) (d := 27) rfl rfl (by kernel_rfl) (by kernel_rfl) (by kernel_rfl) (fun _ _ _ h => h) (by rfl) hHeld ?_
      try simp only [Act.put, List.setIfInBounds_toArray, List.set_cons_zero, List.set_cons_succ]
      refine skip_dstH (i := 7) (d := 28) rfl rfl (by kernel_rfl) (by kernel_rfl) (by kernel_rfl) (fun _ _ _ h => h) (by rfl) hHeld ?_
      try simp only [Act.put, List.setIfInBounds_toArray, List.set_cons_zero, List.set_cons_succ]
      refine skip_dstH (i := 8) (d := 29) rfl rfl (by kernel_rfl) (by kernel_rfl) (by kernel_rfl) (fun _ _ _ h => h) (by rfl) hHeld ?_
      try simp only [Act.put, List.setIfInBounds_toArray, List.set_cons_zero, List.set_cons_succ]
      refine skip_dstH (i := 9) (d := 30) rfl rfl (by kernel_rfl) (by kernel_rfl) (by kernel_rfl) (fun _ _ _ h => h) (by rfl) hHeld ?_
      try simp only [Act.put, List.setIfInBounds_toArray, List.set_cons_zero, List.set_cons_succ]
      refine skip_dstH (i := 10) (d := 31) rfl rfl (by kernel_rfl) (by kernel_rfl) (by kernel_rfl) (fun _ _ _ h => h) (by rfl) hHeld ?_
      try simp only [Act.put, List.setIfInBounds_toArray, List.set_cons_zero, List.set_cons_succ]
      refine skip_dstH (i := 11) (d := 32) rfl rfl (by kernel_rfl) (by kernel_rfl) (by kernel_rfl) (fun _ _ _ h => h) (by rfl) hHeld ?_
      try simp only [Act.put, List.setIfInBounds_toArray, List.set_cons_zero, List.set_cons_succ]
      refine take_dstH (i := 12) (d := 33) (v := ?_) rfl rfl (by kernel_rfl) (by kernel_rfl) (by kernel_rfl) (fun _ _ _ h => h) (by rfl) hHeld ?_ ?_
      rotate_left
      · intro wZ hSw; clear hSw; go_simp; first | (with_reducible rfl) | (rw [if_pos (by omega)]; with_reducible rfl) | skip
      try simp only [Act.put, List.setIfInBounds_toArray, List.set_cons_zero, List.set_cons_succ]
      refine wpAnyH_done (by kernel_rfl) ?_ _
      go_wp2_with fail
      go_meet
      case rel => exact ⟨rfl, rfl⟩
    · rw [hm] at c0
      have hii : decide (x.i < s.i) = false := by
        have h1 := H0.out
        simp [hm] at h1
        simp; omega
      refine wp_region_held_drew (S := fun v => Hid (v = w2.drew)) (by kernel_rfl) (hide rfl) (fun hHeld => ?_)
      refine take_dstH (i := 0) (d := 21) (v := ?_) rfl rfl (by kernel_rfl) (by kernel_rfl) (by kernel_rfl) (fun _ _ _ h => h) (by rfl) hHeld ?_ ?_
      rotate_left
      · intro wZ hSw; clear hSw; go_simp; first | (with_reducible rfl) | (rw [if_pos (by omega)]; with_reducible rfl) | skip
      try simp only [Act.put, List.setIfInBounds_toArray, List.set_cons_zero, List.set_cons_succ]
      refine take_dstH (i := 1) (d := 22) (v := ?_) rfl rfl (by kernel_rfl) (by kernel_rfl) (by kernel_rfl) (fun _ _ _ h => h) (by rfl) hHeld ?_ ?_
      rotate_left
      · intro wZ hSw; clear hSw; go_simp; first | (with_reducible rfl) | (rw [if_pos (by omega)]; with_reducible rfl) | skip
      try simp only [Act.put, List.setIfInBounds_toArray, List.set_cons_zero, List.set_cons_succ]
      refine take_dstH (i := 2) (d := 23) (v := ?_) rfl rfl (by kernel_rfl) (by kernel_rfl) (by kernel_rfl) (fun _ _ _ h => h) (by rfl) hHeld ?_ ?_
      rotate_left
      · intro wZ hSw; clear hSw; go_simp; first | (with_reducible rfl) | (rw [if_pos (by omega)]; with_reducible rfl) | skip
      try simp only [Act.put, List.setIfInBounds_toArray, List.set_cons_zero, List.set_cons_succ]
      refine take_dstH (i := 3) (d := 24) (v := ?_) rfl rfl (by kernel_rfl) (by kernel_rfl) (by kernel_rfl) (fun _ _ _ h => h) (by rfl) hHeld ?_ ?_
      rotate_left
      · intro wZ hSw; have hfS := (fun (v : World) (hv : Hid (v = w2.drew)) => show v.cell? ⟨g, 0, none⟩ = some (.bool true) from by rw [hv.out]; exact c0) wZ hSw; clear hSw; go_simp; first | (with_reducible rfl) | (rw [if_pos (by omega)]; with_reducible rfl) | skip
      try simp only [Act.put, List.setIfInBounds_toArray, List.set_cons_zero, List.set_cons_succ]
      refine take_dstH (i := 4) (d := 25) (v := ?_) rfl rfl (by kernel_rfl) (by kernel_rfl) (by kernel_rfl) (fun _ _ _ h => h) (by rfl) hHeld ?_ ?_
      rotate_left
      · intro wZ hSw; clear hSw; go_simp; first | (with_reducible rfl) | (rw [if_pos (by omega)]; with_reducible rfl) | skip
      try simp only [Act.put, List.setIfInBounds_toArray, List.set_cons_zero, List.set_cons_succ]
      refine take_dstH (i := 5) (d := 26) (v := ?_) rfl rfl (by kernel_rfl) (by kernel_rfl) (by kernel_rfl) (fun _ _ _ h => h) (by rfl) hHeld ?_ ?_
      rotate_left
      · intro wZ hSw; clear hSw; go_simp; first | (with_reducible rfl) | (rw [if_pos (by omega)]; with_reducible rfl) | skip
      try simp only [Act.put, List.setIfInBounds_toArray, List.set_cons_zero, List.set_cons_succ]
      refine take_dstH (i := 6) (d := 27) (v := ?_) rfl rfl (by kernel_rfl) (by kernel_rfl) (by kernel_rfl) (fun _ _ _ h => h) (by rfl) hHeld ?_ ?_
      rotate_left
      · intro wZ hSw; have hfS := (fun (v : World) (hv : Hid (v = w2.drew)) => show v.cell? ⟨w.heap.size, 0, none⟩ = some (.int .u64 (x.i : Int)) from by rw [hv.out]; exact b0) wZ hSw; clear hSw; go_simp; first | (with_reducible rfl) | (rw [if_pos (by omega)]; with_reducible rfl) | skip
      try simp only [Act.put, List.setIfInBounds_toArray, List.set_cons_zero, List.set_cons_succ]
      refine take_dstH (i := 7) (d := 28) (v := ?_) rfl rfl (by kernel_rfl) (by kernel_rfl) (by kernel_rfl) (fun _ _ _ h => h) (by rfl) hHeld ?_ ?_
      rotate_left
      · intro wZ hSw; clear hSw; go_simp; first | (with_reducible rfl) | (rw [if_pos (by omega)]; with_reducible rfl) | skip
      try simp only [Act.put, List.setIfInBounds_toArray, List.set_cons_zero, List.set_cons_succ]
      refine take_dstH (i := 8) (d := 29) (v := ?_) rfl rfl (by kernel_rfl) (by kernel_rfl) (by kernel_rfl) (fun _ _ _ h => h) (by rfl) hHeld ?_ ?_
      rotate_left
      · intro wZ hSw; clear hSw; go_simp; first | (with_reducible rfl) | (rw [if_pos (by omega)]; with_reducible rfl) | skip
      try simp only [Act.put, List.setIfInBounds_toArray, List.set_cons_zero, List.set_cons_succ]
      refine take_dstH (i := 9) (d := 30) (v := ?_) rfl rfl (by kernel_rfl) (by kernel_rfl) (by kernel_rfl) (fun _ _ _ h => h) (by rfl) hHeld ?_ ?_
      rotate_left
      · intro wZ hSw; clear hSw; go_simp; first | (with_reducible rfl) | (rw [if_pos (by omega)]; with_reducible rfl) | skip
      try simp only [Act.put, List.setIfInBounds_toArray, List.set_cons_zero, List.set_cons_succ]
      refine take_dstH (i := 10) (d := 31) (v := ?_) rfl rfl (by kernel_rfl) (by kernel_rfl) (by kernel_rfl) (fun _ _ _ h => h) (by rfl) hHeld ?_ ?_
      rotate_left
      · intro wZ hSw; have hfS := (fun (v : World) (hv : Hid (v = w2.drew)) => show v.cell? ⟨g, 2, none⟩ = some (.int .u64 (s.i : Int)) from by rw [hv.out]; exact c2) wZ hSw; clear hSw; go_simp; first | (with_reducible rfl) | (rw [if_pos (by omega)]; with_reducible rfl) | skip
      try simp only [Act.put, List.setIfInBounds_toArray, List.set_cons_zero, List.set_cons_succ]
      refine take_dstH (i := 11) (d := 32) (v := ?_) rfl rfl (by kernel_rfl) (by kernel_rfl) (by kernel_rfl) (fun _ _ _ h => h) (by rfl) hHeld ?_ ?_
      rotate_left
      · intro wZ hSw; clear hSw; go_simp; first | (with_reducible rfl) | (rw [if_pos (by omega)]; with_reducible rfl) | skip
      try simp only [Act.put, List.setIfInBounds_toArray, List.set_cons_zero, List.set_cons_succ]
      refine take_dstH (i := 12) (d := 33) (v := ?_) rfl rfl (by kernel_rfl) (by kernel_rfl) (by kernel_rfl) (fun _ _ _ h => h) (by rfl) hHeld ?_ ?_
      rotate_left
      · intro wZ hSw; clear hSw; go_simp; first | (with_reducible rfl) | (rw [if_pos (by omega)]; with_reducible rfl) | skip
      try simp only [Act.put, List.setIfInBounds_toArray, List.set_cons_zero, List.set_cons_succ]
      refine wpAnyH_done (by kernel_rfl) ?_ _
      go_wp2_with fail
      go_meet
      case rel => exact ⟨rfl, rfl⟩
  case rest =>
    obtain ⟨rfl, rfl⟩ := hcut
    have A3 := hide A2.out.drew
    obtain ⟨r, hr⟩ : ∃ r, decide (s.met = false ∨ s.i < x.i) = r := ⟨_, rfl⟩
    have HR := hide hr
    clear hr A2
    go_upto_region 6 with fail
    go_cut [47] (fun s47 wc => s47 = .bool r ∧ wc = w2.drew.drew)
    case first => as_aux_lemma =>
      cases hm : s.met
      · rw [hm] at c0
        have hrt : r = true := by rw [← HR.out, hm]; simp
        subst hrt
        refine wp_region_held_drew (S := fun v => Hid (v = w2.drew.drew)) (by kernel_rfl) (hide rfl) (fun hHeld => ?_)
        refine take_dstH (i := 0) (d := 34) (v := ?_) rfl rfl (by kernel_rfl) (by kernel_rfl) (by kernel_rfl) (fun _ _ _ h => h) (by rfl) hHeld ?_ ?_
        rotate_left
        · intro wZ hSw; clear hSw; go_simp; first | (with_reducible rfl) | (rw [if_pos (by omega)]; with_reducible rfl) | skip
        try simp only [Act.put, List.setIfInBounds_toArray, List.set_cons_zero, List.set_cons_succ]
        refine take_dstH (i := 1) (d := 35) (v := ?_) rfl rfl (by kernel_rfl) (by kernel_rfl) (by kernel_rfl) (fun _ _ _ h => h) (by rfl) hHeld ?_ ?_
        rotate_left
        · intro wZ hSw; clear hSw; go_simp; first | (with_reducible rfl) | (rw [if_pos (by omega)]; with_reducible rfl) | skip
        try simp only [Act.put, List.setIfInBounds_toArray, List.set_cons_zero, List.set_cons_succ]
        refine take_dstH (i := 2) (d := 36) (v := ?_) rfl rfl (by kernel_rfl) (by kernel_rfl) (by kernel_rfl) (fun _ _ _ h => h) (by rfl) hHeld ?_ ?_
        rotate_left
        · intro wZ hSw; clear hSw; go_simp; first | (with_reducible rfl) | (rw [if_pos (by omega)]; with_reducible rfl) | skip
        try simp only [Act.put, List.setIfInBounds_toArray, List.set_cons_zero, List.set_cons_succ]
        refine take_dstH (i := 3) (d := 37) (v := ?_) rfl rfl (by kernel_rfl) (by kernel_rfl) (by kernel_rfl) (fun _ _ _ h => h) (by rfl) hHeld ?_ ?_
        rotate_left
        · intro wZ hSw; have hfS := (fun (v : World) (hv : Hid (v = w2.drew.drew)) => show v.cell? ⟨g, 0, none⟩ = some (.bool false) from by rw [hv.out]; exact c0) wZ hSw; clear hSw; go_simp; first | (with_reducible rfl) | (rw [if_pos (by omega)]; with_reducible rfl) | skip
        try simp only [Act.put, List.setIfInBounds_toArray, List.set_cons_zero, List.set_cons_succ]
        refine take_dstH (i := 4) (d := 38) (v := ?_) rfl rfl (by kernel_rfl) (by kernel_rfl) (by kernel_rfl) (fun _ _ _ h => h) (by rfl) hHeld ?_ ?_
        rotate_left
        · intro wZ hSw; clear hSw; go_simp; first | (with_reducible rfl) | (rw [if_pos (by omega)]; with_reducible rfl) | skip
        try simp only [Act.put, List.setIfInBounds_toArray, List.set_cons_zero, List.set_cons_succ]
        refine take_dstH (i := 5) (d := 39) (v := ?_) rfl rfl (by kernel_rfl) (by kernel_rfl) (by kernel_rfl) (fun _ _ _ h => h) (by rfl) hHeld ?_ ?_
        rotate_left
        · intro wZ hSw; clear hSw; go_simp; first | (with_reducible rfl) | (rw [if_pos (by omega)]; with_reducible rfl) | skip
        try simp only [Act.put, List.setIfInBounds_toArray, List.set_cons_zero, List.set_cons_succ]
        refine skip_dstH (i := 6) (d := 40) rfl rfl (by kernel_rfl) (by kernel_rfl) (by kernel_rfl) (fun _ _ _ h => h) (by rfl) hHeld ?_
        try simp only [Act.put, List.setIfInBounds_toArray, List.set_cons_zero, List.set_cons_succ]
        refine skip_dstH (i := 7) (d := 41) rfl rfl (by kernel_rfl) (by kernel_rfl) (by kernel_rfl) (fun _ _ _ h => h) (by rfl) hHeld ?_
        try simp only [Act.put, List.setIfInBounds_toArray, List.set_cons_zero, List.set_cons_succ]
        refine skip_dstH (i := 8) (d := 42) rfl rfl (by kernel_rfl) (by kernel_rfl) (by kernel_rfl) (fun _ _ _ h => h) (by rfl) hHeld ?_
        try simp only [Act.put, List.setIfInBounds_toArray, List.set_cons_zero, List.set_cons_succ]
        refine skip_dstH (i := 9) (d := 43) rfl rfl (by kernel_rfl) (by kernel_rfl) (by kernel_rfl) (fun _ _ _ h => h) (by rfl) hHeld ?_
        try simp only [Act.put, List.setIfInBounds_toArray, List.set_cons_zero, List.set_cons_succ]
        refine skip_dstH (i := 10) (d := 44) rfl rfl (by kernel_rfl) (by kernel_rfl) (by kernel_rfl) (fun _ _ _ h => h) (by rfl) hHeld ?_
        try simp only [Act.put, List.setIfInBounds_toArray, List.set_cons_zero, List.set_cons_succ]
        refine skip_dstH (i := 11) (d := 45) rfl rfl (by kernel_rfl) (by kernel_rfl) (by kernel_rfl) (fun _ _ _ h => h) (by rfl) hHeld ?_
        try simp only [Act.put, List.setIfInBounds_toArray, List.set_cons_zero, List.set_cons_succ]
        refine skip_dstH (i := 12) (d := 46) rfl rfl (by kernel_rfl) (by kernel_rfl) (by kernel_rfl) (fun _ _ _ h => h) (by rfl) hHeld ?_
        try simp only [Act.put, List.setIfInBounds_toArray, List.set_cons_zero, List.set_cons_succ]
        refine take_dstH (i := 13) (d := 47) (v := ?_) rfl rfl (by kernel_rfl) (by kernel_rfl) (by kernel_rfl) (fun _ _ _ h => h) (by rfl) hHeld ?_ ?_
        rotate_left
        · intro wZ hSw; clear hSw; go_simp; first | (with_reducible rfl) | (rw [if_pos (by omega)]; with_reducible rfl) | skip
        try simp only [Act.put, List.setIfInBounds_toArray, List.set_cons_zero, List.set_cons_succ]
        refine wpAnyH_done (by kernel_rfl) ?_ _
        go_wp2_with fail
        go_meet
        case rel => exact ⟨rfl, rfl⟩
      · rw [hm] at c0
        have hrt : decide (s.i < x.i) = r := by
          rw [← HR.out, hm]
          exact decide_eq_decide.2 (by simp)
        refine wp_region_held_drew (S := fun v => Hid (v = w2.drew.drew)) (by kernel_rfl) (hide rfl) (fun hHeld => ?_)
        refine take_dstH (i := 0) (d := 34) (v := ?_) rfl rfl (by kernel_rfl) (by kernel_rfl) (by kernel_rfl) (fun _ _ _ h => h) (by rfl) hHeld ?_ ?_
        rotate_left
        · intro wZ hSw; clear hSw; go_simp; first | (with_reducible rfl) | (rw [if_pos (by omega)]; with_reducible rfl) | skip
        try simp only [Act.put, List.setIfInBounds_toArray, List.set_cons_zero, List.set_cons_succ]
        refine take_dstH (i := 1) (d := 35) (v := ?_) rfl rfl (by kernel_rfl) (by kernel_rfl) (by kernel_rfl) (fun _ _ _ h => h) (by rfl) hHeld ?_ ?_
        rotate_left
        · intro wZ hSw; clear hSw; go_simp; first | (with_reducible rfl) | (rw [if_pos (by omega)]; with_reducible rfl) | skip
        try simp only [Act.put, List.setIfInBounds_toArray, List.set_cons_zero, List.set_cons_succ]
        refine take_dstH (i := 2) (d := 36) (v := ?_) rfl rfl (by kernel_rfl) (by kernel_rfl) (by kernel_rfl) (fun _ _ _ h => h) (by rfl) hHeld ?_ ?_
        rotate_left
        · intro wZ hSw; clear hSw; go_simp; first | (with_reducible rfl) | (rw [if_pos (by omega)]; with_reducible rfl) | skip
        try simp only [Act.put, List.setIfInBounds_toArray, List.set_cons_zero, List.set_cons_succ]
        refine take_dstH (i := 3) (d := 37) (v := ?_) rfl rfl (by kernel_rfl) (by kernel_rfl) (by kernel_rfl) (fun _ _ _ h => h) (by rfl) hHeld ?_ ?_
        rotate_left
        · intro wZ hSw; have hfS := (fun (v : World) (hv : Hid (v = w2.drew.drew)) => show v.cell? ⟨g, 0, none⟩ = some (.bool true) from by rw [hv.out]; exact c0) wZ hSw; clear hSw; go_simp; first | (with_reducible rfl) | (rw [if_pos (by omega)]; with_reducible rfl) | skip
        try simp only [Act.put, List.setIfInBounds_toArray, List.set_cons_zero, List.set_cons_succ]
        refine take_dstH (i := 4) (d := 38) (v := ?_) rfl rfl (by kernel_rfl) (by kernel_rfl) (by kernel_rfl) (fun _ _ _ h => h) (by rfl) hHeld ?_ ?_
        rotate_left
        · intro wZ hSw; clear hSw; go_simp; first | (with_reducible rfl) | (rw [if_pos (by omega)]; with_reducible rfl) | skip
        try simp only [Act.put, List.setIfInBounds_toArray, List.set_cons_zero, List.set_cons_succ]
        refine take_dstH (i := 5) (d := 39) (v := ?_) rfl rfl (by kernel_rfl) (by kernel_rfl) (by kernel_rfl) (fun _ _ _ h => h) (by rfl) hHeld ?_ ?_
        rotate_left
        · intro wZ hSw; clear hSw; go_simp; first | (with_reducible rfl) | (rw [if_pos (by omega)]; with_reducible rfl) | skip
        try simp only [Act.put, List.setIfInBounds_toArray, List.set_cons_zero, List.set_cons_succ]
        refine take_dstH (i := 6) (d := 40) (v := ?_) rfl rfl (by kernel_rfl) (by kernel_rfl) (by kernel_rfl) (fun _ _ _ h => h) (by rfl) hHeld ?_ ?_
        rotate_left
        · intro wZ hSw; clear hSw; go_simp; first | (with_reducible rfl) | (rw [if_pos (by omega)]; with_reducible rfl) | skip
        try simp only [Act.put, List.setIfInBounds_toArray, List.set_cons_zero, List.set_cons_succ]
        refine take_dstH (i := 7) (d := 41) (v := ?_) rfl rfl (by kernel_rfl) (by kernel_rfl) (by kernel_rfl) (fun _ _ _ h => h) (by rfl) hHeld ?_ ?_
        rotate_left
        · intro wZ hSw; have hfS := (fun (v : World) (hv : Hid (v = w2.drew.drew)) => show v.cell? ⟨w.heap.size, 0, none⟩ = some (.int .u64 (x.i : Int)) from by rw [hv.out]; exact b0) wZ hSw; clear hSw; go_simp; first | (with_reducible rfl) | (rw [if_pos (by omega)]; with_reducible rfl) | skip
        try simp only [Act.put, List.setIfInBounds_toArray, List.set_cons_zero, List.set_cons_succ]
        refine take_dstH (i := 8) (d := 42) (v := ?_) rfl rfl (by kernel_rfl) (by kernel_rfl) (by kernel_rfl) (fun _ _ _ h => h) (by rfl) hHeld ?_ ?_
        rotate_left
        · intro wZ hSw; clear hSw; go_simp; first | (with_reducible rfl) | (rw [if_pos (by omega)]; with_reducible rfl) | skip
        try simp only [Act.put, List.setIfInBounds_toArray, List.set_cons_zero, List.set_cons_succ]
        refine take_dstH (i := 9) (d := 43) (v := ?_) rfl rfl (by kernel_rfl) (by kernel_rfl) (by kernel_rfl) (fun _ _ _ h => h) (by rfl) hHeld ?_ ?_
        rotate_left
        · intro wZ hSw; clear hSw; go_simp; first | (with_reducible rfl) | (rw [if_pos (by omega)]; with_reducible rfl) | skip
        try simp only [Act.put, List.setIfInBounds_toArray, List.set_cons_zero, List.set_cons_succ]
        refine take_dstH (i := 10) (d := 44) (v := ?_) rfl rfl (by kernel_rfl) (by kernel_rfl) (by kernel_rfl) (fun _ _ _ h => h) (by rfl) hHeld ?_ ?_
        rotate_left
        · intro wZ hSw; clear hSw; go_simp; first | (with_reducible rfl) | (rw [if_pos (by omega)]; with_reducible rfl) | skip
        try simp only [Act.put, List.setIfInBounds_toArray, List.set_cons_zero, List.set_cons_succ]
        refine take_dstH (i := 11) (d := 45) (v := ?_) rfl rfl (by kernel_rfl) (by kernel_rfl) (by kernel_rfl) (fun _ _ _ h => h) (by rfl) hHeld ?_ ?_
        rotate_left
        · intro wZ hSw; have hfS := (fun (v : World) (hv : Hid (v = w2.drew.drew)) => show v.cell? ⟨g, 2, none⟩ = some (.int .u64 (s.i : Int)) from by rw [hv.out]; exact c2) wZ hSw; clear hSw; go_simp; first | (with_reducible rfl) | (rw [if_pos (by omega)]; with_reducible rfl) | skip
        try simp only [Act.put, List.setIfInBounds_toArray, List.set_cons_zero, List.set_cons_succ]
        refine take_dstH (i := 12) (d := 46) (v := ?_) rfl rfl (by kernel_rfl) (by kernel_rfl) (by kernel_rfl) (fun _ _ _ h => h) (by rfl) hHeld ?_ ?_
        rotate_left
        · intro wZ hSw; clear hSw; go_simp; first | (with_reducible rfl) | (rw [if_pos (by omega)]; with_reducible rfl) | skip
        try simp only [Act.put, List.setIfInBounds_toArray, List.set_cons_zero, List.set_cons_succ]
        refine take_dstH (i := 13) (d := 47) (v := ?_) rfl rfl (by kernel_rfl) (by kernel_rfl) (by kernel_rfl) (fun _ _ _ h => h) (by rfl) hHeld ?_ ?_
        rotate_left
        · intro wZ hSw; clear hSw; go_simp; first | (with_reducible rfl) | (rw [if_pos (by omega)]; with_reducible rfl) | skip
        try simp only [Act.put, List.setIfInBounds_toArray, List.set_cons_zero, List.set_cons_succ]
        refine wpAnyH_done (by kernel_rfl) ?_ _
        go_wp2_with fail
        go_meet
        case rel => exact ⟨rfl, rfl⟩
    case rest =>
      obtain ⟨rfl, rfl⟩ := hcut
      have A4 := hide A3.out.drew
      clear A3 c0 c1 c2 c3 b1 b2 b3 H0
      go_upto_if 47 with fail
      go_cut [48] (fun _ wc => Hid (StP w wc B g s1 x p c))
      case first => as_aux_lemma =>
        cases r
        · have e : s1 = s := by rw [← HS1.out, Js.meet, if_neg (by simpa using HR.out)]
          clear HR b0
          go_wp2
          go_meet
          case rel => rw [e]; exact A4.out
        · have e : s1 = ⟨true, false, x.i, 0, []⟩ := by rw [← HS1.out, Js.meet, if_pos (by simpa using HR.out)]
          obtain ⟨cs, hl, hA⟩ := A4.out.j.arr
          have HL := hide hl
          have HA := hide hA
          clear HR hl hA
          go_wp2_with (refine wpList_store_row rfl 45 _ _ rfl g #[.bool true, .bool false, .int .u64 (x.i : Int), .int .i64 0, .slice none 0 0] rfl rfl 45 cs.toArray HA.out infoJ (by simp [HL.out]) (by simp [Value.oneCell']) ?_)
          go_meet
          case rel => rw [e]; exact A4.out.set HAP.out HGW.out false x.i
      case rest =>
        have A5 := hide hcut.out
        clear hcut A4 b0 HR
        obtain ⟨q, d, ks, hj, hmap, hqx⟩ := A5.out.j
        have b1 := A5.out.box.2.1
        have HAT := hide (at_any wc B g _ d ks.length _ _ _ x.a q ks hj rfl (by have := HLN.out; have h1 := congrArg List.length hmap; simp at h1; omega))
        have HHAS := hide (has_map s1 ks x.a hmap)
        clear hj hmap hqx
        go_wp2_with fail
        refine HAT.out.mono ?_
        rintro e w6 ⟨rfl, hb⟩
        have A6 := hide (A5.out.kept (hb.alloc hb.size (Obj.cells #[.int .u64 ((atX ks x.a).i : Int), .int .i64 (atX ks x.a).a, .bool (atX ks x.a).l, .slice (atP ks x.a) (atX ks x.a).b.length (atC ks x.a)] 25)))
        clear hb A5 b1 HAT
        go_upto_region 9 with fail
        generalize w6.alloc (Obj.cells #[.int .u64 ((atX ks x.a).i : Int), .int .i64 (atX ks x.a).a, .bool (atX ks x.a).l, .slice (atP ks x.a) (atX ks x.a).b.length (atC ks x.a)] 25) = w7 at *
        obtain ⟨r, hr⟩ : ∃ r, (findP ks x.a).isSome = r := ⟨_, rfl⟩
        rw [hr] at HHAS
        have HST := hide (stop_is HHAS.out)
        obtain ⟨st, hst⟩ : ∃ st, s1.stop x = st := ⟨_, rfl⟩
        rw [hst] at HST
        have HSS := hide hst
        clear hst
        simp only [hr]
        clear hr
        have c1 := A6.out.j.cells.2.1
        have c3 := A6.out.j.cells.2.2.2
        have b1 := A6.out.box.2.1
        go_cut [82] (fun s82 wd => s82 = .bool st ∧ wd = w7.drew)
        case first => as_aux_lemma =>
          cases hd : s1.done
          · rw [hd] at c1
            cases r
            · by_cases hm : 0 < s1.must
              · have hm1 : decide (0 < s1.must) = true := decide_eq_true hm
                have hm2 : decide ((s1.must : Int) ≤ x.a) = st := by
                  rw [HST.out, hd, hm1]; simp
                clear hm
                refine wp_region_held_drew (S := fun v => Hid (v = w7.drew)) (by kernel_rfl) (hide rfl) (fun hHeld => ?_)
                refine take_dstH (i := 0) (d := 60) (v := ?_) rfl rfl (by kernel_rfl) (by kernel_rfl) (by kernel_rfl) (fun _ _ _ h => h) (by rfl) hHeld ?_ ?_
                rotate_left
                · intro wZ hSw; clear hSw; go_simp; first | (with_reducible rfl) | (rw [if_pos (by omega)]; with_reducible rfl) | skip
                try simp only [Act.put, List.setIfInBounds_toArray, List.set_cons_zero, List.set_cons_succ]
                refine take_dstH (i := 1) (d := 61) (v := ?_) rfl rfl (by kernel_rfl) (by kernel_rfl) (by kernel_rfl) (fun _ _ _ h => h) (by rfl) hHeld ?_ ?_
                rotate_left
                · intro wZ hSw; clear hSw; go_simp; first | (with_reducible rfl) | (rw [if_pos (by omega)]; with_reducible rfl) | skip
                try simp only [Act.put, List.setIfInBounds_toArray, List.set_cons_zero, List.set_cons_succ]
                refine take_dstH (i := 2) (d := 62) (v := ?_) rfl rfl (by kernel_rfl) (by kernel_rfl) (by kernel_rfl) (fun _ _ _ h => h) (by rfl) hHeld ?_ ?_
                rotate_left
                · intro wZ hSw; clear hSw; go_simp; first | (with_reducible rfl) | (rw [if_pos (by omega)]; with_reducible rfl) | skip
                try simp only [Act.put, List.setIfInBounds_toArray, List.set_cons_zero, List.set_cons_succ]
                refine take_dstH (i := 3) (d := 63) (v := ?_) rfl rfl (by kernel_rfl) (by kernel_rfl) (by kernel_rfl) (fun _ _ _ h => h) (by rfl) hHeld ?_ ?_
                rotate_left
                · intro wZ hSw; have hfS := (fun (v : World) (hv : Hid (v = w7.drew)) => show v.cell? ⟨g, 1, none⟩ = some (.bool false) from by rw [hv.out]; exact c1) wZ hSw; clear hSw; go_simp; first | (with_reducible rfl) | (rw [if_pos (by omega)]; with_reducible rfl) | skip
                try simp only [Act.put, List.setIfInBounds_toArray, List.set_cons_zero, List.set_cons_succ]
                refine take_dstH (i := 4) (d := 64) (v := ?_) rfl rfl (by kernel_rfl) (by kernel_rfl) (by kernel_rfl) (fun _ _ _ h => h) (by rfl) hHeld ?_ ?_
                rotate_left
                · intro wZ hSw; clear hSw; go_simp; first | (with_reducible rfl) | (rw [if_pos (by omega)]; with_reducible rfl) | skip
                try simp only [Act.put, List.setIfInBounds_toArray, List.set_cons_zero, List.set_cons_succ]
                refine take_dstH (i := 5) (d := 65) (v := ?_) rfl rfl (by kernel_rfl) (by kernel_rfl) (by kernel_rfl) (fun _ _ _ h => h) (by rfl) hHeld ?_ ?_
                rotate_left
                · intro wZ hSw; clear hSw; go_simp; first | (with_reducible rfl) | (rw [if_pos (by omega)]; with_reducible rfl) | skip
                try simp only [Act.put, List.setIfInBounds_toArray, List.set_cons_zero, List.set_cons_succ]
                refine take_dstH (i := 6) (d := 66) (v := ?_) rfl rfl (by kernel_rfl) (by kernel_rfl) (by kernel_rfl) (fun _ _ _ h => h) (by rfl) hHeld ?_ ?_
                rotate_left
                · intro wZ hSw; clear hSw; go_simp; first | (with_reducible rfl) | (rw [if_pos (by omega)]; with_reducible rfl) | skip
                try simp only [Act.put, List.setIfInBounds_toArray, List.set_cons_zero, List.set_cons_succ]
                refine take_dstH (i := 7) (d := 67) (v := ?_) rfl rfl (by kernel_rfl) (by kernel_rfl) (by kernel_rfl) (fun _ _ _ h => h) (by rfl) hHeld ?_ ?_
                rotate_left
                · intro wZ hSw; clear hSw; go_simp; first | (with_reducible rfl) | (rw [if_pos (by omega)]; with_reducible rfl) | skip
                try simp only [Act.put, List.setIfInBounds_toArray, List.set_cons_zero, List.set_cons_succ]
                refine take_dstH (i := 8) (d := 68) (v := ?_) rfl rfl (by kernel_rfl) (by kernel_rfl) (by kernel_rfl) (fun _ _ _ h => h) (by rfl) hHeld ?_ ?_
                rotate_left
                · intro wZ hSw; clear hSw; go_simp; first | (with_reducible rfl) | (rw [if_pos (by omega)]; with_reducible rfl) | skip
                try simp only [Act.put, List.setIfInBounds_toArray, List.set_cons_zero, List.set_cons_succ]
                refine take_dstH (i := 9) (d := 69) (v := ?_) rfl rfl (by kernel_rfl) (by kernel_rfl) (by kernel_rfl) (fun _ _ _ h => h) (by rfl) hHeld ?_ ?_
                rotate_left
                · intro wZ hSw; clear hSw; go_simp; first | (with_reducible rfl) | (rw [if_pos (by omega)]; with_reducible rfl) | skip
                try simp only [Act.put, List.setIfInBounds_toArray, List.set_cons_zero, List.set_cons_succ]
                refine take_dstH (i := 10) (d := 70) (v := ?_) rfl rfl (by kernel_rfl) (by kernel_rfl) (by kernel_rfl) (fun _ _ _ h => h) (by rfl) hHeld ?_ ?_
                rotate_left
                · intro wZ hSw; clear hSw; go_simp; first | (with_reducible rfl) | (rw [if_pos (by omega)]; with_reducible rfl) | skip
                try simp only [Act.put, List.setIfInBounds_toArray, List.set_cons_zero, List.set_cons_succ]
                refine take_dstH (i := 11) (d := 71) (v := ?_) rfl rfl (by kernel_rfl) (by kernel_rfl) (by kernel_rfl) (fun _ _ _ h => h) (by rfl) hHeld ?_ ?_
                rotate_left
                · intro wZ hSw; have hfS := (fun (v : World) (hv : Hid (v = w7.drew)) => show v.cell? ⟨g, 3, none⟩ = some (.int .i64 (s1.must : Int)) from by rw [hv.out]; exact c3) wZ hSw; clear hSw; go_simp; first | (with_reducible rfl) | (rw [if_pos (by omega)]; with_reducible rfl) | skip
                try simp only [Act.put, List.setIfInBounds_toArray, List.set_cons_zero, List.set_cons_succ]
                refine take_dstH (i := 12) (d := 72) (v := ?_) rfl rfl (by kernel_rfl) (by kernel_rfl) (by kernel_rfl) (fun _ _ _ h => h) (by rfl) hHeld ?_ ?_
                rotate_left
                · intro wZ hSw; clear hSw; go_simp; first | (with_reducible rfl) | (rw [if_pos (by omega)]; with_reducible rfl) | skip
                try simp only [Act.put, List.setIfInBounds_toArray, List.set_cons_zero, List.set_cons_succ]
                refine take_dstH (i := 13) (d := 73) (v := ?_) rfl rfl (by kernel_rfl) (by kernel_rfl) (by kernel_rfl) (fun _ _ _ h => h) (by rfl) hHeld ?_ ?_
                rotate_left
                · intro wZ hSw; clear hSw; go_simp; first | (with_reducible rfl) | (rw [if_pos (by omega)]; with_reducible rfl) | skip
                try simp only [Act.put, List.setIfInBounds_toArray, List.set_cons_zero, List.set_cons_succ]
                refine take_dstH (i := 14) (d := 74) (v := ?_) rfl rfl (by kernel_rfl) (by kernel_rfl) (by kernel_rfl) (fun _ _ _ h => h) (by rfl) hHeld ?_ ?_
                rotate_left
                · intro wZ hSw; clear hSw; go_simp; first | (with_reducible rfl) | (rw [if_pos (by omega)]; with_reducible rfl) | skip
                try simp only [Act.put, List.setIfInBounds_toArray, List.set_cons_zero, List.set_cons_succ]
                refine take_dstH (i := 15) (d := 75) (v := ?_) rfl rfl (by kernel_rfl) (by kernel_rfl) (by kernel_rfl) (fun _ _ _ h => h) (by rfl) hHeld ?_ ?_
                rotate_left
                · intro wZ hSw; have hfS := (fun (v : World) (hv : Hid (v = w7.drew)) => show v.cell? ⟨w.heap.size, 1, none⟩ = some (.int .i64 x.a) from by rw [hv.out]; exact b1) wZ hSw; clear hSw; go_simp; first | (with_reducible rfl) | (rw [if_pos (by omega)]; with_reducible rfl) | skip
                try simp only [Act.put, List.setIfInBounds_toArray, List.set_cons_zero, List.set_cons_succ]
                refine take_dstH (i := 16) (d := 76) (v := ?_) rfl rfl (by kernel_rfl) (by kernel_rfl) (by kernel_rfl) (fun _ _ _ h => h) (by rfl) hHeld ?_ ?_
                rotate_left
                · intro wZ hSw; clear hSw; go_simp; first | (with_reducible rfl) | (rw [if_pos (by omega)]; with_reducible rfl) | skip
                try simp only [Act.put, List.setIfInBounds_toArray, List.set_cons_zero, List.set_cons_succ]
                refine take_dstH (i := 17) (d := 77) (v := ?_) rfl rfl (by kernel_rfl) (by kernel_rfl) (by kernel_rfl) (fun _ _ _ h => h) (by rfl) hHeld ?_ ?_
                rotate_left
                · intro wZ hSw; clear hSw; go_simp; first | (with_reducible rfl) | (rw [if_pos (by omega)]; with_reducible rfl) | skip
                try simp only [Act.put, List.setIfInBounds_toArray, List.set_cons_zero, List.set_cons_succ]
                refine take_dstH (i := 18) (d := 78) (v := ?_) rfl rfl (by kernel_rfl) (by kernel_rfl) (by kernel_rfl) (fun _ _ _ h => h) (by rfl) hHeld ?_ ?_
                rotate_left
                · intro wZ hSw; clear hSw; go_simp; first | (with_reducible rfl) | (rw [if_pos (by omega)]; with_reducible rfl) | skip
                try simp only [Act.put, List.setIfInBounds_toArray, List.set_cons_zero, List.set_cons_succ]
                refine take_dstH (i := 19) (d := 79) (v := ?_) rfl rfl (by kernel_rfl) (by kernel_rfl) (by kernel_rfl) (fun _ _ _ h => h) (by rfl) hHeld ?_ ?_
                rotate_left
                · intro wZ hSw; have hfS := (fun (v : World) (hv : Hid (v = w7.drew)) => show v.cell? ⟨g, 3, none⟩ = some (.int .i64 (s1.must : Int)) from by rw [hv.out]; exact c3) wZ hSw; clear hSw; go_simp; first | (with_reducible rfl) | (rw [if_pos (by omega)]; with_reducible rfl) | skip
                try simp only [Act.put, List.setIfInBounds_toArray, List.set_cons_zero, List.set_cons_succ]
                refine take_dstH (i := 20) (d := 80) (v := ?_) rfl rfl (by kernel_rfl) (by kernel_rfl) (by kernel_rfl) (fun _ _ _ h => h) (by rfl) hHeld ?_ ?_
                rotate_left
                · intro wZ hSw; clear hSw; go_simp; first | (with_reducible rfl) | (rw [if_pos (by omega)]; with_reducible rfl) | skip
                try simp only [Act.put, List.setIfInBounds_toArray, List.set_cons_zero, List.set_cons_succ]
                refine take_dstH (i := 21) (d := 81) (v := ?_) rfl rfl (by kernel_rfl) (by kernel_rfl) (by kernel_rfl) (fun _ _ _ h => h) (by rfl) hHeld ?_ ?_
                rotate_left
                · intro wZ hSw; clear hSw; go_simp; first | (with_reducible rfl) | (rw [if_pos (by omega)]; with_reducible rfl) | skip
                try simp only [Act.put, List.setIfInBounds_toArray, List.set_cons_zero, List.set_cons_succ]
                refine take_dstH (i := 22) (d := 82) (v := ?_) rfl rfl (by kernel_rfl) (by kernel_rfl) (by kernel_rfl) (fun _ _ _ h => h) (by rfl) hHeld ?_ ?_
                rotate_left
                · intro wZ hSw; clear hSw; go_simp; first | (with_reducible rfl) | (rw [if_pos (by omega)]; with_reducible rfl) | skip
                try simp only [Act.put, List.setIfInBounds_toArray, List.set_cons_zero, List.set_cons_succ]
                refine wpAnyH_done (by kernel_rfl) ?_ _
                go_wp2_with fail
                go_meet
                case rel => exact ⟨rfl, rfl⟩
              · have hm1 : decide (0 < s1.must) = false := decide_eq_false hm
                obtain rfl : st = false := by rw [HST.out, hd, hm1]; simp
                clear hm
                refine wp_region_held_drew (S := fun v => Hid (v = w7.drew)) (by kernel_rfl) (hide rfl) (fun hHeld => ?_)
                refine take_dstH (i := 0) (d := 60) (v := ?_) rfl rfl (by kernel_rfl) (by kernel_rfl) (by kernel_rfl) (fun _ _ _ h => h) (by rfl) hHeld ?_ ?_
                rotate_left
                · intro wZ hSw; clear hSw; go_simp; first | (with_reducible rfl) | (rw [if_pos (by omega)]; with_reducible rfl) | skip
                try simp only [Act.put, List.setIfInBounds_toArray, List.set_cons_zero, List.set_cons_succ]
                refine take_dstH (i := 1) (d := 61) (v := ?_) rfl rfl (by kernel_rfl) (by kernel_rfl) (by kernel_rfl) (fun _ _ _ h => h) (by rfl) hHeld ?_ ?_
                rotate_left
                · intro wZ hSw; clear hSw; go_simp; first | (with_reducible rfl) | (rw [if_pos (by omega)]; with_reducible rfl) | skip
                try simp only [Act.put, List.setIfInBounds_toArray, List.set_cons_zero, List.set_cons_succ]
                refine take_dstH (i := 2) (d := 62) (v := ?_) rfl rfl (by kernel_rfl) (by kernel_rfl) (by kernel_rfl) (fun _ _ _ h => h) (by rfl) hHeld ?_ ?_
                rotate_left
                · intro wZ hSw; clear hSw; go_simp; first | (with_reducible rfl) | (rw [if_pos (by omega)]; with_reducible rfl) | skip
                try simp only [Act.put, List.setIfInBounds_toArray, List.set_cons_zero, List.set_cons_succ]
                refine take_dstH (i := 3) (d := 63) (v := ?_) rfl rfl (by kernel_rfl) (by kernel_rfl) (by kernel_rfl) (fun _ _ _ h => h) (by rfl) hHeld ?_ ?_
                rotate_left
                · intro wZ hSw; have hfS := (fun (v : World) (hv : Hid (v = w7.drew)) => show v.cell? ⟨g, 1, none⟩ = some (.bool false) from by rw [hv.out]; exact c1) wZ hSw; clear hSw; go_simp; first | (with_reducible rfl) | (rw [if_pos (by omega)]; with_reducible rfl) | skip
                try simp only [Act.put, List.setIfInBounds_toArray, List.set_cons_zero, List.set_cons_succ]
                refine take_dstH (i := 4) (d := 64) (v := ?_) rfl rfl (by kernel_rfl) (by kernel_rfl) (by kernel_rfl) (fun _ _ _ h => h) (by rfl) hHeld ?_ ?_
                rotate_left
                · intro wZ hSw; clear hSw; go_simp; first | (with_reducible rfl) | (rw [if_pos (by omega)]; with_reducible rfl) | skip
                try simp only [Act.put, List.setIfInBounds_toArray, List.set_cons_zero, List.set_cons_succ]
                refine take_dstH (i := 5) (d := 65) (v := ?_) rfl rfl (by kernel_rfl) (by kernel_rfl) (by kernel_rfl) (fun _ _ _ h => h) (by rfl) hHeld ?_ ?_
                rotate_left
                · intro wZ hSw; clear hSw; go_simp; first | (with_reducible rfl) | (rw [if_pos (by omega)]; with_reducible rfl) | skip
                try simp only [Act.put, List.setIfInBounds_toArray, List.set_cons_zero, List.set_cons_succ]
                refine take_dstH (i := 6) (d := 66) (v := ?_) rfl rfl (by kernel_rfl) (by kernel_rfl) (by kernel_rfl) (fun _ _ _ h => h) (by rfl) hHeld ?_ ?_
                rotate_left
                · intro wZ hSw; clear hSw; go_simp; first | (with_reducible rfl) | (rw [if_pos (by omega)]; with_reducible rfl) | skip
                try simp only [Act.put, List.setIfInBounds_toArray, List.set_cons_zero, List.set_cons_succ]
                refine take_dstH (i := 7) (d := 67) (v := ?_) rfl rfl (by kernel_rfl) (by kernel_rfl) (by kernel_rfl) (fun _ _ _ h => h) (by rfl) hHeld ?_ ?_
                rotate_left
                · intro wZ hSw; clear hSw; go_simp; first | (with_reducible rfl) | (rw [if_pos (by omega)]; with_reducible rfl) | skip
                try simp only [Act.put, List.setIfInBounds_toArray, List.set_cons_zero, List.set_cons_succ]
                refine take_dstH (i := 8) (d := 68) (v := ?_) rfl rfl (by kernel_rfl) (by kernel_rfl) (by kernel_rfl) (fun _ _ _ h => h) (by rfl) hHeld ?_ ?_
                rotate_left
                · intro wZ hSw; clear hSw; go_simp; first | (with_reducible rfl) | (rw [if_pos (by omega)]; with_reducible rfl) | skip
                try simp only [Act.put, List.setIfInBounds_toArray, List.set_cons_zero, List.set_cons_succ]
                refine take_dstH (i := 9) (d := 69) (v := ?_) rfl rfl (by kernel_rfl) (by kernel_rfl) (by kernel_rfl) (fun _ _ _ h => h) (by rfl) hHeld ?_ ?_
                rotate_left
                · intro wZ hSw; clear hSw; go_simp; first | (with_reducible rfl) | (rw [if_pos (by omega)]; with_reducible rfl) | skip
                try simp only [Act.put, List.setIfInBounds_toArray, List.set_cons_zero, List.set_cons_succ]
                refine take_dstH (i := 10) (d := 70) (v := ?_) rfl rfl (by kernel_rfl) (by kernel_rfl) (by kernel_rfl) (fun _ _ _ h => h) (by rfl) hHeld ?_ ?_
                rotate_left
                · intro wZ hSw; clear hSw; go_simp; first | (with_reducible rfl) | (rw [if_pos (by omega)]; with_reducible rfl) | skip
                try simp only [Act.put, List.setIfInBounds_toArray, List.set_cons_zero, List.set_cons_succ]
                refine take_dstH (i := 11) (d := 71) (v := ?_) rfl rfl (by kernel_rfl) (by kernel_rfl) (by kernel_rfl) (fun _ _ _ h => h) (by rfl) hHeld ?_ ?_
                rotate_left
                · intro wZ hSw; have hfS := (fun (v : World) (hv : Hid (v = w7.drew)) => show v.cell? ⟨g, 3, none⟩ = some (.int .i64 (s1.must : Int)) from by rw [hv.out]; exact c3) wZ hSw; clear hSw; go_simp; first | (with_reducible rfl) | (rw [if_pos (by omega)]; with_reducible rfl) | skip
                try simp only [Act.put, List.setIfInBounds_toArray, List.set_cons_zero, List.set_cons_succ]
                refine take_dstH (i := 12) (d := 72) (v := ?_) rfl rfl (by kernel_rfl) (by kernel_rfl) (by kernel_rfl) (fun _ _ _ h => h) (by rfl) hHeld ?_ ?_
                rotate_left
                · intro wZ hSw; clear hSw; go_simp; first | (with_reducible rfl) | (rw [if_pos (by omega)]; with_reducible rfl) | skip
                try simp only [Act.put, List.setIfInBounds_toArray, List.set_cons_zero, List.set_cons_succ]
                refine take_dstH (i := 13) (d := 73) (v := ?_) rfl rfl (by kernel_rfl) (by kernel_rfl) (by kernel_rfl) (fun _ _ _ h => h) (by rfl) hHeld ?_ ?_
                rotate_left
                · intro wZ hSw; clear hSw; go_simp; first | (with_reducible rfl) | (rw [if_pos (by omega)]; with_reducible rfl) | skip
                try simp only [Act.put, List.setIfInBounds_toArray, List.set_cons_zero, List.set_cons_succ]
                refine skip_dstH (i := 14) (d := 74) rfl rfl (by kernel_rfl) (by kernel_rfl) (by kernel_rfl) (fun _ _ _ h => h) (by rfl) hHeld ?_
                try simp only [Act.put, List.setIfInBounds_toArray, List.set_cons_zero, List.set_cons_succ]
                refine skip_dstH (i := 15) (d := 75) rfl rfl (by kernel_rfl) (by kernel_rfl) (by kernel_rfl) (fun _ _ _ h => h) (by rfl) hHeld ?_
                try simp only [Act.put, List.setIfInBounds_toArray, List.set_cons_zero, List.set_cons_succ]
                refine skip_dstH (i := 16) (d := 76) rfl rfl (by kernel_rfl) (by kernel_rfl) (by kernel_rfl) (fun _ _ _ h => h) (by rfl) hHeld ?_
                try simp only [Act.put, List.setIfInBounds_toArray, List.set_cons_zero, List.set_cons_succ]
                refine skip_dstH (i := 17) (d := 77) rfl rfl (by kernel_rfl) (by kernel_rfl) (by kernel_rfl) (fun _ _ _ h => h) (by rfl) hHeld ?_
                try simp only [Act.put, List.setIfInBounds_toArray, List.set_cons_zero, List.set_cons_succ]
                refine skip_dstH (i := 18) (d := 78) rfl rfl (by kernel_rfl) (by kernel_rfl) (by kernel_rfl) (fun _ _ _ h => h) (by rfl) hHeld ?_
                try simp only [Act.put, List.setIfInBounds_toArray, List.set_cons_zero, List.set_cons_succ]
                refine skip_dstH (i := 19) (d := 79) rfl rfl (by kernel_rfl) (by kernel_rfl) (by kernel_rfl) (fun _ _ _ h => h) (by rfl) hHeld ?_
                try simp only [Act.put, List.setIfInBounds_toArray, List.set_cons_zero, List.set_cons_succ]
                refine skip_dstH (i := 20) (d := 80) rfl rfl (by kernel_rfl) (by kernel_rfl) (by kernel_rfl) (fun _ _ _ h => h) (by rfl) hHeld ?_
                try simp only [Act.put, List.setIfInBounds_toArray, List.set_cons_zero, List.set_cons_succ]
                refine take_dstH (i := 21) (d := 81) (v := ?_) rfl rfl (by kernel_rfl) (by kernel_rfl) (by kernel_rfl) (fun _ _ _ h => h) (by rfl) hHeld ?_ ?_
                rotate_left
                · intro wZ hSw; clear hSw; go_simp; first | (with_reducible rfl) | (rw [if_pos (by omega)]; with_reducible rfl) | skip
                try simp only [Act.put, List.setIfInBounds_toArray, List.set_cons_zero, List.set_cons_succ]
                refine take_dstH (i := 22) (d := 82) (v := ?_) rfl rfl (by kernel_rfl) (by kernel_rfl) (by kernel_rfl) (fun _ _ _ h => h) (by rfl) hHeld ?_ ?_
                rotate_left
                · intro wZ hSw; clear hSw; go_simp; first | (with_reducible rfl) | (rw [if_pos (by omega)]; with_reducible rfl) | skip
                try simp only [Act.put, List.setIfInBounds_toArray, List.set_cons_zero, List.set_cons_succ]
                refine wpAnyH_done (by kernel_rfl) ?_ _
                go_wp2_with fail
                go_meet
                case rel => exact ⟨rfl, rfl⟩
            · obtain rfl : st = true := by rw [HST.out, hd]; simp
              refine wp_region_held_drew (S := fun v => Hid (v = w7.drew)) (by kernel_rfl) (hide rfl) (fun hHeld => ?_)
              refine take_dstH (i := 0) (d := 60) (v := ?_) rfl rfl (by kernel_rfl) (by kernel_rfl) (by kernel_rfl) (fun _ _ _ h => h) (by rfl) hHeld ?_ ?_
              rotate_left
              · intro wZ hSw; clear hSw; go_simp; first | (with_reducible rfl) | (rw [if_pos (by omega)]; with_reducible rfl) | skip
              try simp only [Act.put, List.setIfInBounds_toArray, List.set_cons_zero, List.set_cons_succ]
              refine take_dstH (i := 1) (d := 61) (v := ?_) rfl rfl (by kernel_rfl) (by kernel_rfl) (by kernel_rfl) (fun _ _ _ h => h) (by rfl) hHeld ?_ ?_
              rotate_left
              · intro wZ hSw; clear hSw; go_simp; first | (with_reducible rfl) | (rw [if_pos (by omega)]; with_reducible rfl) | skip
              try simp only [Act.put, List.setIfInBounds_toArray, List.set_cons_zero, List.set_cons_succ]
              refine take_dstH (i := 2) (d := 62) (v := ?_) rfl rfl (by kernel_rfl) (by kernel_rfl) (by kernel_rfl) (fun _ _ _ h => h) (by rfl) hHeld ?_ ?_
              rotate_left
              · intro wZ hSw; clear hSw; go_simp; first | (with_reducible rfl) | (rw [if_pos (by omega)]; with_reducible rfl) | skip
              try simp only [Act.put, List.setIfInBounds_toArray, List.set_cons_zero, List.set_cons_succ]
              refine take_dstH (i := 3) (d := 63) (v := ?_) rfl rfl (by kernel_rfl) (by kernel_rfl) (by kernel_rfl) (fun _ _ _ h => h) (by rfl) hHeld ?_ ?_
              rotate_left
              · intro wZ hSw; have hfS := (fun (v : World) (hv : Hid (v = w7.drew)) => show v.cell? ⟨g, 1, none⟩ = some (.bool false) from by rw [hv.out]; exact c1) wZ hSw; clear hSw; go_simp; first | (with_reducible rfl) | (rw [if_pos (by omega)]; with_reducible rfl) | skip
              try simp only [Act.put, List.setIfInBounds_toArray, List.set_cons_zero, List.set_cons_succ]
              refine take_dstH (i := 4) (d := 64) (v := ?_) rfl rfl (by kernel_rfl) (by kernel_rfl) (by kernel_rfl) (fun _ _ _ h => h) (by rfl) hHeld ?_ ?_
              rotate_left
              · intro wZ hSw; clear hSw; go_simp; first | (with_reducible rfl) | (rw [if_pos (by omega)]; with_reducible rfl) | skip
              try simp only [Act.put, List.setIfInBounds_toArray, List.set_cons_zero, List.set_cons_succ]
              refine take_dstH (i := 5) (d := 65) (v := ?_) rfl rfl (by kernel_rfl) (by kernel_rfl) (by kernel_rfl) (fun _ _ _ h => h) (by rfl) hHeld ?_ ?_
              rotate_left
              · intro wZ hSw; clear hSw; go_simp; first | (with_reducible rfl) | (rw [if_pos (by omega)]; with_reducible rfl) | skip
              try simp only [Act.put, List.setIfInBounds_toArray, List.set_cons_zero, List.set_cons_succ]
              refine take_dstH (i := 6) (d := 66) (v := ?_) rfl rfl (by kernel_rfl) (by kernel_rfl) (by kernel_rfl) (fun _ _ _ h => h) (by rfl) hHeld ?_ ?_
              rotate_left
              · intro wZ hSw; clear hSw; go_simp; first | (with_reducible rfl) | (rw [if_pos (by omega)]; with_reducible rfl) | skip
              try simp only [Act.put, List.setIfInBounds_toArray, List.set_cons_zero, List.set_cons_succ]
              refine take_dstH (i := 7) (d := 67) (v := ?_) rfl rfl (by kernel_rfl) (by kernel_rfl) (by kernel_rfl) (fun _ _ _ h => h) (by rfl) hHeld ?_ ?_
              rotate_left
              · intro wZ hSw; clear hSw; go_simp; first | (with_reducible rfl) | (rw [if_pos (by omega)]; with_reducible rfl) | skip
              try simp only [Act.put, List.setIfInBounds_toArray, List.set_cons_zero, List.set_cons_succ]
              refine skip_dstH (i := 8) (d := 68) rfl rfl (by kernel_rfl) (by kernel_rfl) (by kernel_rfl) (fun _ _ _ h => h) (by rfl) hHeld ?_
              try simp only [Act.put, List.setIfInBounds_toArray, List.set_cons_zero, List.set_cons_succ]
              refine skip_dstH (i := 9) (d := 69) rfl rfl (by kernel_rfl) (by kernel_rfl) (by kernel_rfl) (fun _ _ _ h => h) (by rfl) hHeld ?_
              try simp only [Act.put, List.setIfInBounds_toArray, List.set_cons_zero, List.set_cons_succ]
              refine skip_dstH (i := 10) (d := 70) rfl rfl (by kernel_rfl) (by kernel_rfl) (by kernel_rfl) (fun _ _ _ h => h) (by rfl) hHeld ?_
              try simp only [Act.put, List.setIfInBounds_toArray, List.set_cons_zero, List.set_cons_succ]
              refine skip_dstH (i := 11) (d := 71) rfl rfl (by kernel_rfl) (by kernel_rfl) (by kernel_rfl) (fun _ _ _ h => h) (by rfl) hHeld ?_
              try simp only [Act.put, List.setIfInBounds_toArray, List.set_cons_zero, List.set_cons_succ]
              refine skip_dstH (i := 12) (d := 72) rfl rfl (by kernel_rfl) (by kernel_rfl) (by kernel_rfl) (fun _ _ _ h => h) (by rfl) hHeld ?_
              try simp only [Act.put, List.setIfInBounds_toArray, List.set_cons_zero, List.set_cons_succ]
              refine skip_dstH (i := 13) (d := 73) rfl rfl (by kernel_rfl) (by kernel_rfl) (by kernel_rfl) (fun _ _ _ h => h) (by rfl) hHeld ?_
              try simp only [Act.put, List.setIfInBounds_toArray, List.set_cons_zero, List.set_cons_succ]
              refine skip_dstH (i := 14) (d := 74) rfl rfl (by kernel_rfl) (by kernel_rfl) (by kernel_rfl) (fun _ _ _ h => h) (by rfl) hHeld ?_
              try simp only [Act.put, List.setIfInBounds_toArray, List.set_cons_zero, List.set_cons_succ]
              refine skip_dstH (i := 15) (d := 75) rfl rfl (by kernel_rfl) (by kernel_rfl) (by kernel_rfl) (fun _ _ _ h => h) (by rfl) hHeld ?_
              try simp only [Act.put, List.setIfInBounds_toArray, List.set_cons_zero, List.set_cons_succ]
              refine skip_dstH (i := 16) (d := 76) rfl rfl (by kernel_rfl) (by kernel_rfl) (by kernel_rfl) (fun _ _ _ h => h) (by rfl) hHeld ?_
              try simp only [Act.put, List.setIfInBounds_toArray, List.set_cons_zero, List.set_cons_succ]
              refine skip_dstH (i := 17) (d := 77) rfl rfl (by kernel_rfl) (by kernel_rfl) (by kernel_rfl) (fun _ _ _ h => h) (by rfl) hHeld ?_
              try simp only [Act.put, List.setIfInBounds_toArray, List.set_cons_zero, List.set_cons_succ]
              refine skip_dstH (i := 18) (d := 78) rfl rfl (by kernel_rfl) (by kernel_rfl) (by kernel_rfl) (fun _ _ _ h => h) (by rfl) hHeld ?_
              try simp only [Act.put, List.setIfInBounds_toArray, List.set_cons_zero, List.set_cons_succ]
              refine skip_dstH (i := 19) (d := 79) rfl rfl (by kernel_rfl) (by kernel_rfl) (by kernel_rfl) (fun _ _ _ h => h) (by rfl) hHeld ?_
              try simp only [Act.put, List.setIfInBounds_toArray, List.set_cons_zero, List.set_cons_succ]
              refine skip_dstH (i := 20) (d := 80) rfl rfl (by kernel_rfl) (by kernel_rfl) (by kernel_rfl) (fun _ _ _ h => h) (by rfl) hHeld ?_
              try simp only [Act.put, List.setIfInBounds_toArray, List.set_cons_zero, List.set_cons_succ]
              refine skip_dstH (i := 21) (d := 81) rfl rfl (by kernel_rfl) (by kernel_rfl) (by kernel_rfl) (fun _ _ _ h => h) (by rfl) hHeld ?_
              try simp only [Act.put, List.setIfInBounds_toArray, List.set_cons_zero, List.set_cons_succ]
              refine take_dstH (i := 22) (d := 82) (v := ?_) rfl rfl (by kernel_rfl) (by kernel_rfl) (by kernel_rfl) (fun _ _ _ h => h) (by rfl) hHeld ?_ ?_
              rotate_left
              · intro wZ hSw; clear hSw; go_simp; first | (with_reducible rfl) | (rw [if_pos (by omega)]; with_reducible rfl) | skip
              try simp only [Act.put, List.setIfInBounds_toArray, List.set_cons_zero, List.set_cons_succ]
              refine wpAnyH_done (by kernel_rfl) ?_ _
              go_wp2_with fail
              go_meet
              case rel => exact ⟨rfl, rfl⟩
          · rw [hd] at c1
            obtain rfl : st = true := by rw [HST.out, hd]; simp
            refine wp_region_held_drew (S := fun v => Hid (v = w7.drew)) (by kernel_rfl) (hide rfl) (fun hHeld => ?_)
            refine take_dstH (i := 0) (d := 60) (v := ?_) rfl rfl (by kernel_rfl) (by kernel_rfl) (by kernel_rfl) (fun _ _ _ h => h) (by rfl) hHeld ?_ ?_
            rotate_left
            · intro wZ hSw; clear hSw; go_simp; first | (with_reducible rfl) | (rw [if_pos (by omega)]; with_reducible rfl) | skip
            try simp only [Act.put, List.setIfInBounds_toArray, List.set_cons_zero, List.set_cons_succ]
            refine take_dstH (i := 1) (d := 61) (v := ?_) rfl rfl (by kernel_rfl) (by kernel_rfl) (by kernel_rfl) (fun _ _ _ h => h) (by rfl) hHeld ?_ ?_
            rotate_left
            · intro wZ hSw; clear hSw; go_simp; first | (with_reducible rfl) | (rw [if_pos (by omega)]; with_reducible rfl) | skip
            try simp only [Act.put, List.setIfInBounds_toArray, List.set_cons_zero, List.set_cons_succ]
            refine take_dstH (i := 2) (d := 62) (v := ?_) rfl rfl (by kernel_rfl) (by kernel_rfl) (by kernel_rfl) (fun _ _ _ h => h) (by rfl) hHeld ?_ ?_
            rotate_left
            · intro wZ hSw; clear hSw; go_simp; first | (with_reducible rfl) | (rw [if_pos (by omega)]; with_reducible rfl) | skip
            try simp only [Act.put, List.setIfInBounds_toArray, List.set_cons_zero, List.set_cons_succ]
            refine take_dstH (i := 3) (d := 63) (v := ?_) rfl rfl (by kernel_rfl) (by kernel_rfl) (by kernel_rfl) (fun _ _ _ h => h) (by rfl) hHeld ?_ ?_
            rotate_left
            · intro wZ hSw; have hfS := (fun (v : World) (hv : Hid (v = w7.drew)) => show v.cell? ⟨g, 1, none⟩ = some (.bool true) from by rw [hv.out]; exact c1) wZ hSw; clear hSw; go_simp; first | (with_reducible rfl) | (rw [if_pos (by omega)]; with_reducible rfl) | skip
            try simp only [Act.put, List.setIfInBounds_toArray, List.set_cons_zero, List.set_cons_succ]
            refine take_dstH (i := 4) (d := 64) (v := ?_) rfl rfl (by kernel_rfl) (by kernel_rfl) (by kernel_rfl) (fun _ _ _ h => h) (by rfl) hHeld ?_ ?_
            rotate_left
            · intro wZ hSw; clear hSw; go_simp; first | (with_reducible rfl) | (rw [if_pos (by omega)]; with_reducible rfl) | skip
            try simp only [Act.put, List.setIfInBounds_toArray, List.set_cons_zero, List.set_cons_succ]
            refine skip_dstH (i := 5) (d := 65) rfl rfl (by kernel_rfl) (by kernel_rfl) (by kernel_rfl) (fun _ _ _ h => h) (by rfl) hHeld ?_
            try simp only [Act.put, List.setIfInBounds_toArray, List.set_cons_zero, List.set_cons_succ]
            refine take_dstH (i := 6) (d := 66) (v := ?_) rfl rfl (by kernel_rfl) (by kernel_rfl) (by kernel_rfl) (fun _ _ _ h => h) (by rfl) hHeld ?_ ?_
            rotate_left
            · intro wZ hSw; clear hSw; go_simp; first | (with_reducible rfl) | (rw [if_pos (by omega)]; with_reducible rfl) | skip
            try simp only [Act.put, List.setIfInBounds_toArray, List.set_cons_zero, List.set_cons_succ]
            refine take_dstH (i := 7) (d := 67) (v := ?_) rfl rfl (by kernel_rfl) (by kernel_rfl) (by kernel_rfl) (fun _ _ _ h => h) (by rfl) hHeld ?_ ?_
            rotate_left
            · intro wZ hSw; clear hSw; go_simp; first | (with_reducible rfl) | (rw [if_pos (by omega)]; with_reducible rfl) | skip
            try simp only [Act.put, List.setIfInBounds_toArray, List.set_cons_zero, List.set_cons_succ]
            refine skip_dstH (i := 8) (d := 68) rfl rfl (by kernel_rfl) (by kernel_rfl) (by kernel_rfl) (fun _ _ _ h => h) (by rfl) hHeld ?_
            try simp only [Act.put, List.setIfInBounds_toArray, List.set_cons_zero, List.set_cons_succ]
            refine skip_dstH (i := 9) (d := 69) rfl rfl (by kernel_rfl) (by kernel_rfl) (by kernel_rfl) (fun _ _ _ h => h) (by rfl) hHeld ?_
            try simp only [Act.put, List.setIfInBounds_toArray, List.set_cons_zero, List.set_cons_succ]
            refine skip_dstH (i := 10) (d := 70) rfl rfl (by kernel_rfl) (by kernel_rfl) (by kernel_rfl) (fun _ _ _ h => h) (by rfl) hHeld ?_
            try simp only [Act.put, List.setIfInBounds_toArray, List.set_cons_zero, List.set_cons_succ]
            refine skip_dstH (i := 11) (d := 71) rfl rfl (by kernel_rfl) (by kernel_rfl) (by kernel_rfl) (fun _ _ _ h => h) (by rfl) hHeld ?_
            try simp only [Act.put, List.setIfInBounds_toArray, List.set_cons_zero, List.set_cons_succ]
            refine skip_dstH (i := 12) (d := 72) rfl rfl (by kernel_rfl) (by kernel_rfl) (by kernel_rfl) (fun _ _ _ h => h) (by rfl) hHeld ?_
            try simp only [Act.put, List.setIfInBounds_toArray, List.set_cons_zero, List.set_cons_succ]
            refine skip_dstH (i := 13) (d := 73) rfl rfl (by kernel_rfl) (by kernel_rfl) (by kernel_rfl) (fun _ _ _ h => h) (by rfl) hHeld ?_
            try simp only [Act.put, List.setIfInBounds_toArray, List.set_cons_zero, List.set_cons_succ]
            refine skip_dstH (i := 14) (d := 74) rfl rfl (by kernel_rfl) (by kernel_rfl) (by kernel_rfl) (fun _ _ _ h => h) (by rfl) hHeld ?_
            try simp only [Act.put, List.setIfInBounds_toArray, List.set_cons_zero, List.set_cons_succ]
            refine skip_dstH (i := 15) (d := 75) rfl rfl (by kernel_rfl) (by kernel_rfl) (by kernel_rfl) (fun _ _ _ h => h) (by rfl) hHeld ?_
            try simp only [Act.put, List.setIfInBounds_toArray, List.set_cons_zero, List.set_cons_succ]
            refine skip_dstH (i := 16) (d := 76) rfl rfl (by kernel_rfl) (by kernel_rfl) (by kernel_rfl) (fun _ _ _ h => h) (by rfl) hHeld ?_
            try simp only [Act.put, List.setIfInBounds_toArray, List.set_cons_zero, List.set_cons_succ]
            refine skip_dstH (i := 17) (d := 77) rfl rfl (by kernel_rfl) (by kernel_rfl) (by kernel_rfl) (fun _ _ _ h => h) (by rfl) hHeld ?_
            try simp only [Act.put, List.setIfInBounds_toArray, List.set_cons_zero, List.set_cons_succ]
            refine skip_dstH (i := 18) (d := 78) rfl rfl (by kernel_rfl) (by kernel_rfl) (by kernel_rfl) (fun _ _ _ h => h) (by rfl) hHeld ?_
            try simp only [Act.put, List.setIfInBounds_toArray, List.set_cons_zero, List.set_cons_succ]
            refine skip_dstH (i := 19) (d := 79) rfl rfl (by kernel_rfl) (by kernel_rfl) (by kernel_rfl) (fun _ _ _ h => h) (by rfl) hHeld ?_
            try simp only [Act.put, List.setIfInBounds_toArray, List.set_cons_zero, List.set_cons_succ]
            refine skip_dstH (i := 20) (d := 80) rfl rfl (by kernel_rfl) (by kernel_rfl) (by kernel_rfl) (fun _ _ _ h => h) (by rfl) hHeld ?_
            try simp only [Act.put, List.setIfInBounds_toArray, List.set_cons_zero, List.set_cons_succ]
            refine skip_dstH (i := 21) (d := 81) rfl rfl (by kernel_rfl) (by kernel_rfl) (by kernel_rfl) (fun _ _ _ h => h) (by rfl) hHeld ?_
            try simp only [Act.put, List.setIfInBounds_toArray, List.set_cons_zero, List.set_cons_succ]
            refine take_dstH (i := 22) (d := 82) (v := ?_) rfl rfl (by kernel_rfl) (by kernel_rfl) (by kernel_rfl) (fun _ _ _ h => h) (by rfl) hHeld ?_ ?_
            rotate_left
            · intro wZ hSw; clear hSw; go_simp; first | (with_reducible rfl) | (rw [if_pos (by omega)]; with_reducible rfl) | skip
            try simp only [Act.put, List.setIfInBounds_toArray, List.set_cons_zero, List.set_cons_succ]
            refine wpAnyH_done (by kernel_rfl) ?_ _
            go_wp2_with fail
            go_meet
            case rel => exact ⟨rfl, rfl⟩
        case rest =>
          obtain ⟨rfl, rfl⟩ := hcut
          have A7 := hide A6.out.drew
          clear A6 c1 c3 b1
          cases st
          · go_upto_region 11 with fail
            have A8 := hide A7.out.drew
            obtain ⟨b0, b1, b2, b3⟩ := A8.out.box
            obtain ⟨q, d, ks, hj, hmap, hqn⟩ := A8.out.j
            have c4 := hj.j.cell 4
            simp only [List.getElem?_cons_zero, List.getElem?_cons_succ] at c4
            have QS := hide (show Q5 w7.drew.drew g w.heap.size ks.length d q p c x from ⟨c4, b0, b1, b2, b3⟩)
            have HJ := hide hj
            have HMAP := hide hmap
            have HQN := hide hqn
            have HKL : Hid (ks.length ≤ 1000) := by show _ ≤ _; have h1 := congrArg List.length HMAP.out; have h2 := HLN.out; simp at h1; omega
            have HXL : Hid (x.b.length ≤ 1100) := (Pc.e_zero HE.out).2.2
            clear hj hmap hqn A7 c4 b0 b1 b2 b3
            -- @@KEEP
            go_cut [83] (fun _ we => Hid (StQ w we B g (s1.hold x) x p c))
            case first => as_aux_lemma =>
              refine wp_region_late (S := fun v => Hid (Q5 v g w.heap.size ks.length d q p c x)) [20] (by kernel_rfl) (QS) (fun hHeld => ?_)
              refine take_dstT (i := 0) (d := 83) (v := ?_) rfl rfl (by kernel_rfl) (by kernel_rfl) (by kernel_rfl) (by kernel_rfl) (fun _ _ _ h => h) (by rfl) hHeld ?_ ?_
              rotate_left
              · intro wZ hSw; clear hSw; go_simp; first | (with_reducible rfl) | (rw [if_pos (by omega)]; with_reducible rfl) | skip
              try simp only [Act.put, List.setIfInBounds_toArray, List.set_cons_zero, List.set_cons_succ]
              refine take_dstT (i := 1) (d := 84) (v := ?_) rfl rfl (by kernel_rfl) (by kernel_rfl) (by kernel_rfl) (by kernel_rfl) (fun _ _ _ h => h) (by rfl) hHeld ?_ ?_
              rotate_left
              · intro wZ hSw; clear hSw; go_simp; first | (with_reducible rfl) | (rw [if_pos (by omega)]; with_reducible rfl) | skip
              try simp only [Act.put, List.setIfInBounds_toArray, List.set_cons_zero, List.set_cons_succ]
              refine take_dstT (i := 2) (d := 85) (v := ?_) rfl rfl (by kernel_rfl) (by kernel_rfl) (by kernel_rfl) (by kernel_rfl) (fun _ _ _ h => h) (by rfl) hHeld ?_ ?_
              rotate_left
              · intro wZ hSw; clear hSw; go_simp; first | (with_reducible rfl) | (rw [if_pos (by omega)]; with_reducible rfl) | skip
              try simp only [Act.put, List.setIfInBounds_toArray, List.set_cons_zero, List.set_cons_succ]
              refine take_dstT (i := 3) (d := 86) (v := ?_) rfl rfl (by kernel_rfl) (by kernel_rfl) (by kernel_rfl) (by kernel_rfl) (fun _ _ _ h => h) (by rfl) hHeld ?_ ?_
              rotate_left
              · intro wZ hSw; clear hSw; go_simp; first | (with_reducible rfl) | (rw [if_pos (by omega)]; with_reducible rfl) | skip
              try simp only [Act.put, List.setIfInBounds_toArray, List.set_cons_zero, List.set_cons_succ]
              refine take_dstT (i := 4) (d := 87) (v := ?_) rfl rfl (by kernel_rfl) (by kernel_rfl) (by kernel_rfl) (by kernel_rfl) (fun _ _ _ h => h) (by rfl) hHeld ?_ ?_
              rotate_left
              · intro wZ hSw; have hfS := (fun (v : World) (hv : Hid (Q5 v g w.heap.size ks.length d q p c x)) => (Hid.out hv).1) wZ hSw; clear hSw; go_simp; first | (with_reducible rfl) | (rw [if_pos (by omega)]; with_reducible rfl) | skip
              try simp only [Act.put, List.setIfInBounds_toArray, List.set_cons_zero, List.set_cons_succ]
              refine take_dstT (i := 5) (d := 88) (v := ?_) rfl rfl (by kernel_rfl) (by kernel_rfl) (by kernel_rfl) (by kernel_rfl) (fun _ _ _ h => h) (by rfl) hHeld ?_ ?_
              rotate_left
              · intro wZ hSw; clear hSw; go_simp; first | (with_reducible rfl) | (rw [if_pos (by omega)]; with_reducible rfl) | skip
              try simp only [Act.put, List.setIfInBounds_toArray, List.set_cons_zero, List.set_cons_succ]
              refine take_dstT (i := 6) (d := 89) (v := ?_) rfl rfl (by kernel_rfl) (by kernel_rfl) (by kernel_rfl) (by kernel_rfl) (fun _ _ _ h => h) (by rfl) hHeld ?_ ?_
              rotate_left
              · intro wZ hSw; have hfS := (fun (v : World) (hv : Hid (Q5 v g w.heap.size ks.length d q p c x)) => (Hid.out hv).2.1) wZ hSw; clear hSw; go_simp; first | (with_reducible rfl) | (rw [if_pos (by omega)]; with_reducible rfl) | skip
              try simp only [Act.put, List.setIfInBounds_toArray, List.set_cons_zero, List.set_cons_succ]
              refine take_dstT (i := 7) (d := 90) (v := ?_) rfl rfl (by kernel_rfl) (by kernel_rfl) (by kernel_rfl) (by kernel_rfl) (fun _ _ _ h => h) (by rfl) hHeld ?_ ?_
              rotate_left
              · intro wZ hSw; clear hSw; go_simp; first | (with_reducible rfl) | (rw [if_pos (by omega)]; with_reducible rfl) | skip
              try simp only [Act.put, List.setIfInBounds_toArray, List.set_cons_zero, List.set_cons_succ]
              refine take_dstT (i := 8) (d := 91) (v := ?_) rfl rfl (by kernel_rfl) (by kernel_rfl) (by kernel_rfl) (by kernel_rfl) (fun _ _ _ h => h) (by rfl) hHeld ?_ ?_
              rotate_left
              · intro wZ hSw; have hfS := (fun (v : World) (hv : Hid (Q5 v g w.heap.size ks.length d q p c x)) => (Hid.out hv).2.2.1) wZ hSw; clear hSw; go_simp; first | (with_reducible rfl) | (rw [if_pos (by omega)]; with_reducible rfl) | skip
              try simp only [Act.put, List.setIfInBounds_toArray, List.set_cons_zero, List.set_cons_succ]
              refine take_dstT (i := 9) (d := 92) (v := ?_) rfl rfl (by kernel_rfl) (by kernel_rfl) (by kernel_rfl) (by kernel_rfl) (fun _ _ _ h => h) (by rfl) hHeld ?_ ?_
              rotate_left
              · intro wZ hSw; clear hSw; go_simp; first | (with_reducible rfl) | (rw [if_pos (by omega)]; with_reducible rfl) | skip
              try simp only [Act.put, List.setIfInBounds_toArray, List.set_cons_zero, List.set_cons_succ]
              refine take_dstT (i := 10) (d := 93) (v := ?_) rfl rfl (by kernel_rfl) (by kernel_rfl) (by kernel_rfl) (by kernel_rfl) (fun _ _ _ h => h) (by rfl) hHeld ?_ ?_
              rotate_left
              · intro wZ hSw; have hfS := (fun (v : World) (hv : Hid (Q5 v g w.heap.size ks.length d q p c x)) => (Hid.out hv).2.2.2.1) wZ hSw; clear hSw; go_simp; first | (with_reducible rfl) | (rw [if_pos (by omega)]; with_reducible rfl) | skip
              try simp only [Act.put, List.setIfInBounds_toArray, List.set_cons_zero, List.set_cons_succ]
              refine take_dstT (i := 12) (d := 95) (v := ?_) rfl rfl (by kernel_rfl) (by kernel_rfl) (by kernel_rfl) (by kernel_rfl) (fun _ _ _ h => h) (by rfl) hHeld ?_ ?_
              rotate_left
              · intro wZ hSw; clear hSw; go_simp; first | (with_reducible rfl) | (rw [if_pos (by omega)]; with_reducible rfl) | skip
              try simp only [Act.put, List.setIfInBounds_toArray, List.set_cons_zero, List.set_cons_succ]
              refine take_dstT (i := 13) (d := 96) (v := ?_) rfl rfl (by kernel_rfl) (by kernel_rfl) (by kernel_rfl) (by kernel_rfl) (fun _ _ _ h => h) (by rfl) hHeld ?_ ?_
              rotate_left
              · intro wZ hSw; have hfS := (fun (v : World) (hv : Hid (Q5 v g w.heap.size ks.length d q p c x)) => (Hid.out hv).2.2.2.2) wZ hSw; clear hSw; go_simp; first | (with_reducible rfl) | (rw [if_pos (by omega)]; with_reducible rfl) | skip
              try simp only [Act.put, List.setIfInBounds_toArray, List.set_cons_zero, List.set_cons_succ]
              refine wpAnyT_ready (rs := [11]) (by kernel_rfl) (by simp) ?_
              refine (AllReadyT.cons rfl (fun K hK => ?_) AllReadyT.nil)
              refine wp_build_empty (dd := 94) rfl rfl (fun wA vA hoA hbA => ?_); have OA := hide hoA; have BA := hide hbA; clear hoA hbA
              refine hK.out _ _ ?_ (fun hHeld => ?_)
              · exact hide (QS.out.kept BA.out)
              clear hK K
              try simp only [Act.put, List.setIfInBounds_toArray, List.set_cons_zero, List.set_cons_succ]
              refine wpAnyT_ready (rs := [14]) (by kernel_rfl) (by simp) ?_
              refine (AllReadyT.cons rfl (fun K hK => ?_) AllReadyT.nil)
              refine wp_append_bytes_dst (dd := 97) rfl (.tmp 94) (.tmp 96) rfl w7.drew.drew.heap.size vA [] rfl 0 rfl OA.out p x.b.length c x.b rfl rfl (A8.out.t.kept BA.out).1 A8.out.t.2.1 (by have := HXL.out; omega) BA.out.size (fun vB wB hoB hgB => ?_); have BB8 := hide (BA.out.trans (grown_below hgB BA.out.size (fun k hk => (OA.out.lt k hk).1))); obtain ⟨pb, cb, rfl, hpc, hob⟩ := own_both (l := x.b) (n := x.b.length) (by simpa using hoB) rfl A8.out.t.2.2.1; have OB8 := hide hob; have CB8 := hide hpc.2.1; clear hoB hgB hob hpc
              refine hK.out _ _ ?_ (fun hHeld => ?_)
              · exact hide (QS.out.kept BB8.out)
              clear hK K
              try simp only [Act.put, List.setIfInBounds_toArray, List.set_cons_zero, List.set_cons_succ]
              refine take_dstT (i := 15) (d := 98) (v := ?_) rfl rfl (by kernel_rfl) (by kernel_rfl) (by kernel_rfl) (by kernel_rfl) (fun _ _ _ h => h) (by rfl) hHeld ?_ ?_
              rotate_left
              · intro wZ hSw; clear hSw; go_simp; first | (with_reducible rfl) | (rw [if_pos (by omega)]; with_reducible rfl) | skip
              try simp only [Act.put, List.setIfInBounds_toArray, List.set_cons_zero, List.set_cons_succ]
              refine wpAnyT_ready (rs := [16]) (by kernel_rfl) (by simp) ?_
              refine (AllReadyT.cons rfl (fun K hK => ?_) AllReadyT.nil)
              go_simp
              refine hK.out _ _ ?_ (fun hHeld => ?_)
              · exact hide (QS.out.kept (BB8.out.alloc BB8.out.size _))
              clear hK K
              have B9 : Hid (Below w7.drew.drew.heap.size w7.drew.drew (wB.alloc (Obj.cells #[.int .u64 (x.i : Int), .int .i64 x.a, .bool x.l, .slice pb x.b.length cb] 25))) := BB8.out.alloc BB8.out.size _; have J9 := hide (HJ.out.kept B9.out); have N9 : Hid (Arr (wB.alloc (Obj.cells #[.int .u64 (x.i : Int), .int .i64 x.a, .bool x.l, .slice pb x.b.length cb] 25)) wB.heap.size 25 (Pk.mk x pb cb).C) := Arr.new wB _ _; have OB9 := hide (OB8.out.kept ((Below.refl _ wB).alloc (Nat.le_refl _) (Obj.cells #[.int .u64 (x.i : Int), .int .i64 x.a, .bool x.l, .slice pb x.b.length cb] 25))); generalize wB.alloc (Obj.cells #[.int .u64 (x.i : Int), .int .i64 x.a, .bool x.l, .slice pb x.b.length cb] 25) = w9 at *
              try simp only [Act.put, List.setIfInBounds_toArray, List.set_cons_zero, List.set_cons_succ]
              refine wpAnyT_ready (rs := [17]) (by kernel_rfl) (by simp) ?_
              refine (AllReadyT.cons rfl (fun K hK => ?_) AllReadyT.nil)
              refine wp_append_pk_dst (dd := 100) rfl (.tmp 87) (.tmp 99) rfl B (.slice q ks.length d) ks rfl ks.length J9.out.o ⟨x, pb, cb⟩ wB.heap.size rfl N9.out (by have := HKL.out; omega) (Nat.le_trans HBW.out (Nat.le_trans A8.out.w.size B9.out.size)) (fun vC wC hoC hgC hatC => ?_); obtain ⟨qc, dc, rfl⟩ := own_slice hoC; have OC := hide hoC; have GC := hide hgC; have TC := hide hatC; clear hoC hgC hatC
              refine hK.out _ _ ?_ (fun hHeld => ?_)
              · exact hide ((QS.out.kept B9.out).keptR GC.out (row_ne J9.out.o J9.out.j (by decide)) (own_at_ne HQN.out))
              clear hK K
              have CJ := hide (J9.out.j.keptR GC.out (row_ne J9.out.o J9.out.j (by decide))); have c4 := CJ.out.cell 4; have f4 := CJ.out.frozen 4; simp only [List.getElem?_cons_zero, List.getElem?_cons_succ] at c4
              try simp only [Act.put, List.setIfInBounds_toArray, List.set_cons_zero, List.set_cons_succ]
              refine wpAnyT_ready (rs := [18]) (by kernel_rfl) (by simp) ?_
              refine (AllReadyT.cons rfl (fun K hK => ?_) AllReadyT.nil)
              go_simp
              refine hK.out _ _ ?_ (fun hHeld => ?_)
              · exact hHeld
              clear hK K
              try simp only [Act.put, List.setIfInBounds_toArray, List.set_cons_zero, List.set_cons_succ]
              refine take_dstT (i := 19) (d := 102) (v := ?_) rfl rfl (by kernel_rfl) (by kernel_rfl) (by kernel_rfl) (by kernel_rfl) (fun _ _ _ h => h) (by rfl) hHeld ?_ ?_
              rotate_left
              · intro wZ hSw; clear hSw; go_simp; first | (with_reducible rfl) | (rw [if_pos (by omega)]; with_reducible rfl) | skip
              try simp only [Act.put, List.setIfInBounds_toArray, List.set_cons_zero, List.set_cons_succ]
              refine wpAnyT_ready (rs := [20]) (by kernel_rfl) (by simp) ?_
              refine (AllReadyT.last rfl (by decide) (fun K hK => ?_) AllReadyT.nil)
              go_simp
              refine hK.out _ _ ?_
              clear hK K
              try simp only [Act.put, List.setIfInBounds_toArray, List.set_cons_zero, List.set_cons_succ]
              refine wpAnyT_done (by kernel_rfl) ?_ _
              go_wp2_with fail
              go_meet
              case rel => exact held_stq A8.out.w A8.out.b (Nat.le_trans HBW.out A8.out.w.size) HGW.out (by rw [HMAP.out]) B9.out J9.out HQN.out OB9.out CB8.out OC.out GC.out TC.out
            case rest =>
              have A9 := hide hcut.out
              clear hcut QS HJ HMAP HQN HKL HST HHAS
              have b2 := A9.out.box.2.2.1
              have c3 := A9.out.j.cells.2.2.2
              obtain ⟨rb, hrb⟩ : ∃ rb, (x.l && decide (s1.must = 0)) = rb := ⟨_, rfl⟩
              have HRB := hide hrb
              clear hrb
              go_upto_region 12 with fail
              go_cut [111] (fun s111 wd => s111 = .bool rb ∧ wd = wc)
              case first => as_aux_lemma =>
                clear K1 K2 K3 K4 HS1 HS3 HAP HLN HSS HE A8 A9 q d ks
                cases hl : x.l
                · rw [hl] at b2
                  obtain rfl : rb = false := by rw [← HRB.out, hl]; rfl
                  go_wp2
                  go_meet
                  case rel => exact ⟨rfl, rfl⟩
                · rw [hl] at b2
                  by_cases hm : s1.must = 0
                  · have hm' : ((s1.must : Int) == 0) = true := by rw [hm]; rfl
                    obtain rfl : rb = true := by rw [← HRB.out, hl, hm]; rfl
                    have c3' : wc.cell? ⟨g, 3, none⟩ = some (.int .i64 (s1.must : Int)) := c3
                    generalize (s1.must : Int) = sm at *
                    clear hm c3
                    go_wp2
                    go_meet
                    case rel => exact ⟨rfl, rfl⟩
                  · have hm' : ((s1.must : Int) == 0) = false := by simpa using hm
                    obtain rfl : rb = false := by rw [← HRB.out, hl, decide_eq_false hm]; rfl
                    have c3' : wc.cell? ⟨g, 3, none⟩ = some (.int .i64 (s1.must : Int)) := c3
                    generalize (s1.must : Int) = sm at *
                    clear hm c3
                    go_wp2
                    go_meet
                    case rel => exact ⟨rfl, rfl⟩
              case rest =>
                obtain ⟨rfl, rfl⟩ := hcut
                clear A8 b2 c3 q d ks
                go_upto_if 111 with fail
                go_cut [112] (fun _ we => Hid (StQ w we B g s3 x p c))
                case first => as_aux_lemma =>
                  clear K1 K2 K3 K4 HS1 HAP HSS
                  cases rb
                  · have e : s3 = s1.hold x := by
                      rw [← HS3.out, Js.bound, if_neg]
                      intro h
                      have h1 := HRB.out
                      rw [h.1, decide_eq_true (show s1.must = 0 from h.2)] at h1
                      cases h1
                    have HEE := hide e
                    clear e
                    go_wp2
                    go_meet
                    case rel => rw [HEE.out]; exact A9.out
                  · obtain ⟨x0, x1, _⟩ := Pc.e_zero HE.out
                    have hxm : x.l = true ∧ s1.must = 0 := by
                      have h1 := HRB.out
                      simpa using h1
                    have HEE : Hid (s3 = ⟨s1.met, s1.done, s1.i, x.a.toNat + 1, (s1.hold x).l.filter fun y => decide (y.a < x.a + 1)⟩) := by
                      show _ = _
                      rw [← HS3.out, Js.bound, if_pos (show x.l = true ∧ (s1.hold x).must = 0 from hxm)]
                      rfl
                    obtain ⟨q, d, ks, hj, hmap, hqn⟩ := A9.out.j
                    have HKL : Hid (ks.length ≤ 1001) := by
                      show _ ≤ _
                      have h1 := congrArg List.length hmap
                      have h2 := HLN.out
                      simp [Js.hold] at h1
                      omega
                    have HMAP := hide hmap
                    have HJ := hide hj
                    have j3 := hj.j.cell 3
                    have f3 := hj.j.frozen 3
                    have b1 := A9.out.b.cell 1
                    simp only [List.getElem?_cons_zero, List.getElem?_cons_succ] at j3 b1
                    clear hj hmap hqn hxm HRB
                    go_upto_region 14 with fail
                    have GS := grown_cell wc g 3 (.int .i64 (x.a + 1))
                    have R6 : Hid (RJ (wc.setCell ⟨g, 3, none⟩ (.int .i64 (x.a + 1))) B g s1.met s1.done s1.i (x.a + 1) q d ks) := ⟨HJ.out.j.set 3 _, HJ.out.o.kept GS (Or.inr (row_ne HJ.out.o HJ.out.j (by decide))), fun k hk => ⟨(HJ.out.e k hk).1.keptR GS HJ.out.j (by decide), (HJ.out.e k hk).2⟩⟩
                    have B6 : Hid (Arr (wc.setCell ⟨g, 3, none⟩ (.int .i64 (x.a + 1))) w.heap.size 25 (pcC x p c)) := A9.out.b.other _ _ (by have := HGW.out; show w.heap.size ≠ g; omega)
                    have W6 : Hid (Grow w (wc.setCell ⟨g, 3, none⟩ (.int .i64 (x.a + 1))) (SP w B g)) := A9.out.w.grown GS (fun k hk _ => by cases hk; exact Or.inl rfl)
                    clear j3 f3 b1 GS HJ A9
                    obtain ⟨n, hn⟩ : ∃ n, ks.length = n := ⟨_, rfl⟩
                    have HN := hide hn
                    have hn1 : n ≤ 1001 := by have := HKL.out; omega
                    clear hn HKL
                    generalize wc.setCell ⟨g, 3, none⟩ (.int .i64 (x.a + 1)) = w6 at *
                    obtain ⟨F, hF⟩ : ∃ F : Pk → Bool, (fun k => decide (k.x.a < x.a + 1)) = F := ⟨_, rfl⟩
                    have HF := hide hF
                    clear hF
                    go_wp2_with fail
                    go_loopg [10, 11] (n + 1) (fun f s10 s11 wr => ∃ (j m : Nat), s11 = .int .i64 (j : Int) ∧ j ≤ n ∧ n - j < f ∧ Hid (((ks.take j).filter F).length = m) ∧ Hid (wr.ownsRow w6.heap.size 25 4 s10 m (pkC ((ks.take j).filter F))) ∧ Hid (Below w6.heap.size w6 wr))
                    case atStart => exact ⟨0, 0, rfl, by omega, by omega, by rfl, World.ownsRow_nil _ _ _ _, Below.refl _ _⟩
                    case round => as_aux_lemma =>
                      obtain ⟨j, m, rfl, hj, hf, HL, HO, HB⟩ := hrel
                      obtain ⟨q10, d10, rfl⟩ := own_slice HO.out
                      have RW := hide (R6.out.kept HB.out)
                      have j3 := RW.out.j.cell 3
                      have j4 := RW.out.j.cell 4
                      simp only [List.getElem?_cons_zero, List.getElem?_cons_succ] at j3 j4
                      rw [HN.out] at j4
                      by_cases hjn : j < n
                      · obtain ⟨k, hk⟩ : ∃ k, ks[j]? = some k := ⟨ks[j]'(by rw [HN.out]; exact hjn), List.getElem?_eq_getElem _⟩
                        obtain ⟨b, rfl, hc⟩ := RW.out.cell (by rw [HN.out]; omega)
                        have HRA : Hid (wr.rangeAt b (j * 4) k.C) := fun t v hv => by
                          have ht : t < 4 := by
                            have := (List.getElem?_eq_some_iff.1 hv).1
                            simpa [Pk.C] using this
                          rw [hc j k hk t ht]; exact hv
                        have c1 := HRA.out 1 _ rfl
                        have HTK : Hid ((ks.take (j + 1)).filter F = (ks.take j).filter F ++ (if F k then [k] else [])) := by
                          show _ = _
                          rw [List.take_add_one, hk, List.filter_append]
                          congr 1
                          simp [List.filter_cons]
                        have HFK : Hid (F k = decide (k.x.a < x.a + 1)) := by show _ = _; rw [← HF.out]
                        have hmj : m ≤ j := by
                          have h1 := HL.out
                          have h2 := List.length_filter_le F (ks.take j)
                          have h3 := List.length_take_le j ks
                          omega
                        clear hc hk
                        have jn : j < n := hjn
                        go_upto_region 18 with fail
                        refine wp_region_held_drew (S := fun v => Hid (v = wr.drew)) (by kernel_rfl) (hide rfl) (fun hHeld => ?_)
                        refine take_dstH (i := 0) (d := 127) (v := ?_) rfl rfl (by kernel_rfl) (by kernel_rfl) (by kernel_rfl) (fun _ _ _ h => h) (by rfl) hHeld ?_ ?_
                        rotate_left
                        · intro wZ hSw; clear hSw; go_simp; first | (with_reducible rfl) | (rw [if_pos (by omega)]; with_reducible rfl) | skip
                        try simp only [Act.put, List.setIfInBounds_toArray, List.set_cons_zero, List.set_cons_succ]
                        refine take_dstH (i := 1) (d := 128) (v := ?_) rfl rfl (by kernel_rfl) (by kernel_rfl) (by kernel_rfl) (fun _ _ _ h => h) (by rfl) hHeld ?_ ?_
                        rotate_left
                        · intro wZ hSw; clear hSw; go_simp; first | (with_reducible rfl) | (rw [if_pos (by omega)]; with_reducible rfl) | skip
                        try simp only [Act.put, List.setIfInBounds_toArray, List.set_cons_zero, List.set_cons_succ]
                        refine take_dstH (i := 2) (d := 129) (v := ?_) rfl rfl (by kernel_rfl) (by kernel_rfl) (by kernel_rfl) (fun _ _ _ h => h) (by rfl) hHeld ?_ ?_
                        rotate_left
                        · intro wZ hSw; clear hSw; go_simp; first | (with_reducible rfl) | (rw [if_pos (by omega)]; with_reducible rfl) | skip
                        try simp only [Act.put, List.setIfInBounds_toArray, List.set_cons_zero, List.set_cons_succ]
                        refine take_dstH (i := 3) (d := 130) (v := ?_) rfl rfl (by kernel_rfl) (by kernel_rfl) (by kernel_rfl) (fun _ _ _ h => h) (by rfl) hHeld ?_ ?_
                        rotate_left
                        · intro wZ hSw; have hfS := (fun (v : World) (hv : Hid (v = wr.drew)) => show v.cell? ⟨g, 4, none⟩ = some (.slice (some ⟨b, 0, none⟩) n d) from by rw [hv.out]; exact j4) wZ hSw; clear hSw; go_simp; first | (with_reducible rfl) | (rw [if_pos (by omega)]; with_reducible rfl) | skip
                        try simp only [Act.put, List.setIfInBounds_toArray, List.set_cons_zero, List.set_cons_succ]
                        refine take_dstH (i := 4) (d := 131) (v := ?_) rfl rfl (by kernel_rfl) (by kernel_rfl) (by kernel_rfl) (fun _ _ _ h => h) (by rfl) hHeld ?_ ?_
                        rotate_left
                        · intro wZ hSw; clear hSw; go_simp; first | (with_reducible rfl) | (rw [if_pos (by omega)]; with_reducible rfl) | skip
                        try simp only [Act.put, List.setIfInBounds_toArray, List.set_cons_zero, List.set_cons_succ]
                        refine take_dstH (i := 5) (d := 132) (v := ?_) rfl rfl (by kernel_rfl) (by kernel_rfl) (by kernel_rfl) (fun _ _ _ h => h) (by rfl) hHeld ?_ ?_
                        rotate_left
                        · intro wZ hSw; clear hSw; go_simp; first | (with_reducible rfl) | (rw [if_pos (by omega)]; with_reducible rfl) | skip
                        try simp only [Act.put, List.setIfInBounds_toArray, List.set_cons_zero, List.set_cons_succ]
                        refine take_dstH (i := 6) (d := 133) (v := ?_) rfl rfl (by kernel_rfl) (by kernel_rfl) (by kernel_rfl) (fun _ _ _ h => h) (by rfl) hHeld ?_ ?_
                        rotate_left
                        · intro wZ hSw; clear hSw; go_simp; first | (with_reducible rfl) | (rw [if_pos (by omega)]; with_reducible rfl) | skip
                        try simp only [Act.put, List.setIfInBounds_toArray, List.set_cons_zero, List.set_cons_succ]
                        refine take_dstH (i := 7) (d := 134) (v := ?_) rfl rfl (by kernel_rfl) (by kernel_rfl) (by kernel_rfl) (fun _ _ _ h => h) (by rfl) hHeld ?_ ?_
                        rotate_left
                        · intro wZ hSw; have hfS := (fun (v : World) (hv : Hid (v = wr.drew)) => show v.cell? ⟨b, j * 4 + 1, none⟩ = some (.int .i64 k.x.a) from by rw [hv.out]; exact c1) wZ hSw; clear hSw; go_simp; first | (with_reducible rfl) | (rw [if_pos (by omega)]; with_reducible rfl) | skip
                        try simp only [Act.put, List.setIfInBounds_toArray, List.set_cons_zero, List.set_cons_succ]
                        refine take_dstH (i := 8) (d := 135) (v := ?_) rfl rfl (by kernel_rfl) (by kernel_rfl) (by kernel_rfl) (fun _ _ _ h => h) (by rfl) hHeld ?_ ?_
                        rotate_left
                        · intro wZ hSw; clear hSw; go_simp; first | (with_reducible rfl) | (rw [if_pos (by omega)]; with_reducible rfl) | skip
                        try simp only [Act.put, List.setIfInBounds_toArray, List.set_cons_zero, List.set_cons_succ]
                        refine take_dstH (i := 9) (d := 136) (v := ?_) rfl rfl (by kernel_rfl) (by kernel_rfl) (by kernel_rfl) (fun _ _ _ h => h) (by rfl) hHeld ?_ ?_
                        rotate_left
                        · intro wZ hSw; clear hSw; go_simp; first | (with_reducible rfl) | (rw [if_pos (by omega)]; with_reducible rfl) | skip
                        try simp only [Act.put, List.setIfInBounds_toArray, List.set_cons_zero, List.set_cons_succ]
                        refine take_dstH (i := 10) (d := 137) (v := ?_) rfl rfl (by kernel_rfl) (by kernel_rfl) (by kernel_rfl) (fun _ _ _ h => h) (by rfl) hHeld ?_ ?_
                        rotate_left
                        · intro wZ hSw; clear hSw; go_simp; first | (with_reducible rfl) | (rw [if_pos (by omega)]; with_reducible rfl) | skip
                        try simp only [Act.put, List.setIfInBounds_toArray, List.set_cons_zero, List.set_cons_succ]
                        refine take_dstH (i := 11) (d := 138) (v := ?_) rfl rfl (by kernel_rfl) (by kernel_rfl) (by kernel_rfl) (fun _ _ _ h => h) (by rfl) hHeld ?_ ?_
                        rotate_left
                        · intro wZ hSw; have hfS := (fun (v : World) (hv : Hid (v = wr.drew)) => show v.cell? ⟨g, 3, none⟩ = some (.int .i64 (x.a + 1)) from by rw [hv.out]; exact j3) wZ hSw; clear hSw; go_simp; first | (with_reducible rfl) | (rw [if_pos (by omega)]; with_reducible rfl) | skip
                        try simp only [Act.put, List.setIfInBounds_toArray, List.set_cons_zero, List.set_cons_succ]
                        refine take_dstH (i := 12) (d := 139) (v := ?_) rfl rfl (by kernel_rfl) (by kernel_rfl) (by kernel_rfl) (fun _ _ _ h => h) (by rfl) hHeld ?_ ?_
                        rotate_left
                        · intro wZ hSw; clear hSw; go_simp; first | (with_reducible rfl) | (rw [if_pos (by omega)]; with_reducible rfl) | skip
                        try simp only [Act.put, List.setIfInBounds_toArray, List.set_cons_zero, List.set_cons_succ]
                        refine wpAnyH_done (by kernel_rfl) ?_ _
                        have j4' : wr.drew.cell? ⟨g, 4, none⟩ = some (.slice (some ⟨b, 0, none⟩) n d) := j4
                        by_cases hF : k.x.a < x.a + 1
                        · obtain ⟨⟨ki, ka, kl, kb⟩, kp, kc⟩ := k
                          simp only at hF c1
                          rw [HFK.out, decide_eq_true (show ka < x.a + 1 from hF)] at HTK
                          simp only [if_true] at HTK
                          have ODW : Hid (wr.drew.ownsRow w6.heap.size 25 4 (.slice q10 m d10) m (pkC ((ks.take j).filter F))) := HO.out
                          have HBD : Hid (Below w6.heap.size w6 wr.drew) := HB.out.drew
                          clear HFK j3 j4 c1
                          go_wp2_with (first
                            | (refine wpList_exec (by rfl) _ (exec_load_mid 25 (.tmp 146) rfl b (j * 4) rfl (pcC ⟨ki, ka, kl, kb⟩ kp kc) _ HRA.out Try.underlying25 rfl infoPc) ?_)
                            | (at_builtin; refine wpList_append_pk rfl (.tmp 140) (.tmp 148) rfl w6.heap.size _ ((ks.take j).filter F) rfl m (ODW.out.alloc _) ⟨⟨ki, ka, kl, kb⟩, kp, kc⟩ wr.drew.heap.size rfl (Arr.new wr.drew _ _) (by omega) ?g2 ?_))
                          case g2 => have := HBD.out.size; simp at this ⊢; omega
                          intro v' w' ho hg _
                          have O2 := hide ho
                          have B2 : Hid (Below w6.heap.size w6 w') := (HBD.out.alloc HBD.out.size _).grown hg (by have := HBD.out.size; simp at this ⊢; omega) (fun k hk => (ODW.out.lt k hk).1)
                          have L2 : Hid (((ks.take (j + 1)).filter F).length = m + 1) := by show _ = _; rw [HTK.out, List.length_append, HL.out]; rfl
                          clear ho hg ODW HBD
                          go_wp2_with fail
                          go_roundg (n - j)
                          case measure => omega
                          case rel => exact ⟨j + 1, m + 1, by simp, by omega, by omega, L2, by rw [HTK.out]; exact O2, B2⟩
                        · have HT2 : Hid ((ks.take (j + 1)).filter F = (ks.take j).filter F) := by
                            have h1 := HTK.out
                            rw [HFK.out, decide_eq_false hF] at h1
                            show _ = _
                            simpa using h1
                          clear HTK HFK j3 j4 c1
                          go_wp2
                          go_roundg (n - j)
                          case measure => omega
                          case rel => exact ⟨j + 1, m, by simp, by omega, by omega, by rw [HT2.out]; exact HL, by rw [HT2.out]; exact HO, HB.out.drew⟩
                      · have hjn' : j = n := by omega
                        subst hjn'
                        rw [List.take_of_length_le (by rw [HN.out]; exact Nat.le_refl _)] at HL HO
                        have f4 := RW.out.j.frozen 4
                        go_wp2_with fail
                        go_meet
                        case rel =>
                          rw [HEE.out]
                          refine bound_stq R6.out.j B6.out R6.out.e W6.out (Nat.le_trans HBW.out W6.out.size) HGW.out HB.out HO.out (fun k hk => (List.mem_filter.1 hk).1) HL.out ⟨rfl, rfl, rfl, by show ((x.a.toNat + 1 : Nat) : Int) = _; omega, ?_⟩
                          show _ = List.filter _ (s1.hold x).l
                          rw [← HMAP.out, List.filter_map, ← HF.out]
                          rfl
                case rest =>
                  have A10 := hide hcut.out
                  clear hcut A9 HRB HS1 HS3 K1 HAP HLN
                  have K2' := hide (K2.out HSS.out)
                  have K3' := hide (K3.out HSS.out)
                  have K4' := hide (K4.out HSS.out)
                  clear K2 K3 K4 HSS
                  obtain ⟨q, d, ks, hj, hmap, hqn⟩ := A10.out.j
                  have HJ := hide hj
                  have HMAP := hide hmap
                  obtain ⟨S, hS⟩ : ∃ S, sizeL s3.l = S := ⟨_, rfl⟩
                  obtain ⟨n, hn⟩ : ∃ n, s3.l.length = n := ⟨_, rfl⟩
                  obtain ⟨M, hM⟩ : ∃ M, s3.must = M := ⟨_, rfl⟩
                  have HKN : Hid (ks.length = n) := by show _ = _; rw [← hn, ← hmap, List.length_map]
                  have HSB : Hid (sumB ks = S) := by show _ = _; rw [sum_map, hmap, hS]
                  have HMM := hide hM
                  rw [hS] at K2' K3' K4'
                  rw [hn, hM] at K3' K4'
                  rw [hS, hn, hM] at HF3
                  rw [hM] at HJ
                  have hn6 : n ≤ 1000000 := Nat.le_trans HF3.out.2.2 (Nat.le_trans (Nat.succ_le_succ hN0) (by decide))
                  have hS6 : S ≤ 66636 := HF3.out.1
                  have HSZ := hide (size_any wc B g s3.i d n S s3.met s3.done _ q ks hj HKN.out hn6 HSB.out (Nat.le_trans hS6 (by decide)))
                  have hs6 : (S : Int) ≤ 66636 := by clear HSZ; omega
                  clear hj hmap hqn hS hn hM
                  go_wp2_with fail
                  refine HSZ.out.mono ?_
                  rintro e wf ⟨rfl, rfl⟩
                  have b0 := A10.out.b.cell 0
                  simp only [List.getElem?_cons_zero] at b0
                  have j3 := HJ.out.j.cell 3
                  have j4 := HJ.out.j.cell 4
                  simp only [List.getElem?_cons_zero, List.getElem?_cons_succ] at j3 j4
                  rw [HKN.out] at j4
                  by_cases hS : 65536 < S
                  · have hS' : (65536 : Int) < (S : Int) := by omega
                    have HK := hide (K2'.out hS)
                    clear K2' K3' K4' hS HSZ j3 j4
                    go_wp2_with (refine wpList_store_row rfl 45 _ _ rfl g #[.bool true, .bool true, .int .u64 (x.i : Int), .int .i64 0, .slice none 0 0] rfl rfl 45 _ HJ.out.j infoJ (by simp) (by simp [Value.oneCell']) ?_)
                    go_ret3
                    obtain ⟨rfl, rfl, rfl, rfl⟩ := HK.out
                    exact ⟨none, ⟨0, rfl⟩, ⟨Or.inl rfl, fun y hy => by cases hy⟩, (A10.out.set HGW.out true x.i).j.rp, (A10.out.set HGW.out true x.i).w⟩
                  · have hS' : ¬ (65536 : Int) < (S : Int) := by omega
                    have HK3 := hide (K3'.out hS)
                    have HK4 := hide (K4'.out hS)
                    clear K2' K3' K4' hS HSZ
                    go_upto_region 24 with fail
                    by_cases hm : M = 0
                    · obtain ⟨hT, hok, her, hs'⟩ := HK3.out (Or.inl hm)
                      have HR := hide (And.intro hT (And.intro hok (And.intro her hs')))
                      have hm' : ((M : Int) == 0) = true := by rw [hm]; rfl
                      clear HK3 HK4 hT hok her hs' hm
                      refine wp_region_held_drew (S := fun v => Hid (v = wf.drew)) (by kernel_rfl) (hide rfl) (fun hHeld => ?_)
                      refine take_dstH (i := 0) (d := 162) (v := ?_) rfl rfl (by kernel_rfl) (by kernel_rfl) (by kernel_rfl) (fun _ _ _ h => h) (by rfl) hHeld ?_ ?_
                      rotate_left
                      · intro wZ hSw; clear hSw; go_simp; first | (with_reducible rfl) | (rw [if_pos (by omega)]; with_reducible rfl) | skip
                      try simp only [Act.put, List.setIfInBounds_toArray, List.set_cons_zero, List.set_cons_succ]
                      refine take_dstH (i := 1) (d := 163) (v := ?_) rfl rfl (by kernel_rfl) (by kernel_rfl) (by kernel_rfl) (fun _ _ _ h => h) (by rfl) hHeld ?_ ?_
                      rotate_left
                      · intro wZ hSw; clear hSw; go_simp; first | (with_reducible rfl) | (rw [if_pos (by omega)]; with_reducible rfl) | skip
                      try simp only [Act.put, List.setIfInBounds_toArray, List.set_cons_zero, List.set_cons_succ]
                      refine take_dstH (i := 2) (d := 164) (v := ?_) rfl rfl (by kernel_rfl) (by kernel_rfl) (by kernel_rfl) (fun _ _ _ h => h) (by rfl) hHeld ?_ ?_
                      rotate_left
                      · intro wZ hSw; clear hSw; go_simp; first | (with_reducible rfl) | (rw [if_pos (by omega)]; with_reducible rfl) | skip
                      try simp only [Act.put, List.setIfInBounds_toArray, List.set_cons_zero, List.set_cons_succ]
                      refine take_dstH (i := 3) (d := 165) (v := ?_) rfl rfl (by kernel_rfl) (by kernel_rfl) (by kernel_rfl) (fun _ _ _ h => h) (by rfl) hHeld ?_ ?_
                      rotate_left
                      · intro wZ hSw; have hfS := (fun (v : World) (hv : Hid (v = wf.drew)) => show v.cell? ⟨g, 3, none⟩ = some (.int .i64 (M : Int)) from by rw [hv.out]; exact j3) wZ hSw; clear hSw; go_simp; first | (with_reducible rfl) | (rw [if_pos (by omega)]; with_reducible rfl) | skip
                      try simp only [Act.put, List.setIfInBounds_toArray, List.set_cons_zero, List.set_cons_succ]
                      refine take_dstH (i := 4) (d := 166) (v := ?_) rfl rfl (by kernel_rfl) (by kernel_rfl) (by kernel_rfl) (fun _ _ _ h => h) (by rfl) hHeld ?_ ?_
                      rotate_left
                      · intro wZ hSw; clear hSw; go_simp; first | (with_reducible rfl) | (rw [if_pos (by omega)]; with_reducible rfl) | skip
                      try simp only [Act.put, List.setIfInBounds_toArray, List.set_cons_zero, List.set_cons_succ]
                      refine take_dstH (i := 5) (d := 167) (v := ?_) rfl rfl (by kernel_rfl) (by kernel_rfl) (by kernel_rfl) (fun _ _ _ h => h) (by rfl) hHeld ?_ ?_
                      rotate_left
                      · intro wZ hSw; clear hSw; go_simp; first | (with_reducible rfl) | (rw [if_pos (by omega)]; with_reducible rfl) | skip
                      try simp only [Act.put, List.setIfInBounds_toArray, List.set_cons_zero, List.set_cons_succ]
                      refine skip_dstH (i := 6) (d := 168) rfl rfl (by kernel_rfl) (by kernel_rfl) (by kernel_rfl) (fun _ _ _ h => h) (by rfl) hHeld ?_
                      try simp only [Act.put, List.setIfInBounds_toArray, List.set_cons_zero, List.set_cons_succ]
                      refine skip_dstH (i := 7) (d := 169) rfl rfl (by kernel_rfl) (by kernel_rfl) (by kernel_rfl) (fun _ _ _ h => h) (by rfl) hHeld ?_
                      try simp only [Act.put, List.setIfInBounds_toArray, List.set_cons_zero, List.set_cons_succ]
                      refine skip_dstH (i := 8) (d := 170) rfl rfl (by kernel_rfl) (by kernel_rfl) (by kernel_rfl) (fun _ _ _ h => h) (by rfl) hHeld ?_
                      try simp only [Act.put, List.setIfInBounds_toArray, List.set_cons_zero, List.set_cons_succ]
                      refine skip_dstH (i := 9) (d := 171) rfl rfl (by kernel_rfl) (by kernel_rfl) (by kernel_rfl) (fun _ _ _ h => h) (by rfl) hHeld ?_
                      try simp only [Act.put, List.setIfInBounds_toArray, List.set_cons_zero, List.set_cons_succ]
                      refine skip_dstH (i := 10) (d := 172) rfl rfl (by kernel_rfl) (by kernel_rfl) (by kernel_rfl) (fun _ _ _ h => h) (by rfl) hHeld ?_
                      try simp only [Act.put, List.setIfInBounds_toArray, List.set_cons_zero, List.set_cons_succ]
                      refine skip_dstH (i := 11) (d := 173) rfl rfl (by kernel_rfl) (by kernel_rfl) (by kernel_rfl) (fun _ _ _ h => h) (by rfl) hHeld ?_
                      try simp only [Act.put, List.setIfInBounds_toArray, List.set_cons_zero, List.set_cons_succ]
                      refine skip_dstH (i := 12) (d := 174) rfl rfl (by kernel_rfl) (by kernel_rfl) (by kernel_rfl) (fun _ _ _ h => h) (by rfl) hHeld ?_
                      try simp only [Act.put, List.setIfInBounds_toArray, List.set_cons_zero, List.set_cons_succ]
                      refine skip_dstH (i := 13) (d := 175) rfl rfl (by kernel_rfl) (by kernel_rfl) (by kernel_rfl) (fun _ _ _ h => h) (by rfl) hHeld ?_
                      try simp only [Act.put, List.setIfInBounds_toArray, List.set_cons_zero, List.set_cons_succ]
                      refine skip_dstH (i := 14) (d := 176) rfl rfl (by kernel_rfl) (by kernel_rfl) (by kernel_rfl) (fun _ _ _ h => h) (by rfl) hHeld ?_
                      try simp only [Act.put, List.setIfInBounds_toArray, List.set_cons_zero, List.set_cons_succ]
                      refine skip_dstH (i := 15) (d := 177) rfl rfl (by kernel_rfl) (by kernel_rfl) (by kernel_rfl) (fun _ _ _ h => h) (by rfl) hHeld ?_
                      try simp only [Act.put, List.setIfInBounds_toArray, List.set_cons_zero, List.set_cons_succ]
                      refine take_dstH (i := 16) (d := 178) (v := ?_) rfl rfl (by kernel_rfl) (by kernel_rfl) (by kernel_rfl) (fun _ _ _ h => h) (by rfl) hHeld ?_ ?_
                      rotate_left
                      · intro wZ hSw; clear hSw; go_simp; first | (with_reducible rfl) | (rw [if_pos (by omega)]; with_reducible rfl) | skip
                      try simp only [Act.put, List.setIfInBounds_toArray, List.set_cons_zero, List.set_cons_succ]
                      refine wpAnyH_done (by kernel_rfl) ?_ _
                      go_wp2
                      go_ret3
                      obtain ⟨rfl, rfl, rfl, rfl⟩ := HR.out
                      exact ⟨none, ⟨0, rfl⟩, ⟨Or.inl rfl, fun y hy => by cases hy⟩, A10.out.drew.j.rp, A10.out.drew.w⟩
                    · have hm' : ((M : Int) == 0) = false := by simpa using hm
                      by_cases hq : n < M
                      · obtain ⟨hT, hok, her, hs'⟩ := HK3.out (Or.inr hq)
                        have HR := hide (And.intro hT (And.intro hok (And.intro her hs')))
                        have hq' : (n : Int) < (M : Int) := by omega
                        clear HK3 HK4 hT hok her hs' hm hq
                        refine wp_region_held_drew (S := fun v => Hid (v = wf.drew)) (by kernel_rfl) (hide rfl) (fun hHeld => ?_)
                        refine take_dstH (i := 0) (d := 162) (v := ?_) rfl rfl (by kernel_rfl) (by kernel_rfl) (by kernel_rfl) (fun _ _ _ h => h) (by rfl) hHeld ?_ ?_
                        rotate_left
                        · intro wZ hSw; clear hSw; go_simp; first | (with_reducible rfl) | (rw [if_pos (by omega)]; with_reducible rfl) | skip
                        try simp only [Act.put, List.setIfInBounds_toArray, List.set_cons_zero, List.set_cons_succ]
                        refine take_dstH (i := 1) (d := 163) (v := ?_) rfl rfl (by kernel_rfl) (by kernel_rfl) (by kernel_rfl) (fun _ _ _ h => h) (by rfl) hHeld ?_ ?_
                        rotate_left
                        · intro wZ hSw; clear hSw; go_simp; first | (with_reducible rfl) | (rw [if_pos (by omega)]; with_reducible rfl) | skip
                        try simp only [Act.put, List.setIfInBounds_toArray, List.set_cons_zero, List.set_cons_succ]
                        refine take_dstH (i := 2) (d := 164) (v := ?_) rfl rfl (by kernel_rfl) (by kernel_rfl) (by kernel_rfl) (fun _ _ _ h => h) (by rfl) hHeld ?_ ?_
                        rotate_left
                        · intro wZ hSw; clear hSw; go_simp; first | (with_reducible rfl) | (rw [if_pos (by omega)]; with_reducible rfl) | skip
                        try simp only [Act.put, List.setIfInBounds_toArray, List.set_cons_zero, List.set_cons_succ]
                        refine take_dstH (i := 3) (d := 165) (v := ?_) rfl rfl (by kernel_rfl) (by kernel_rfl) (by kernel_rfl) (fun _ _ _ h => h) (by rfl) hHeld ?_ ?_
                        rotate_left
                        · intro wZ hSw; have hfS := (fun (v : World) (hv : Hid (v = wf.drew)) => show v.cell? ⟨g, 3, none⟩ = some (.int .i64 (M : Int)) from by rw [hv.out]; exact j3) wZ hSw; clear hSw; go_simp; first | (with_reducible rfl) | (rw [if_pos (by omega)]; with_reducible rfl) | skip
                        try simp only [Act.put, List.setIfInBounds_toArray, List.set_cons_zero, List.set_cons_succ]
                        refine take_dstH (i := 4) (d := 166) (v := ?_) rfl rfl (by kernel_rfl) (by kernel_rfl) (by kernel_rfl) (fun _ _ _ h => h) (by rfl) hHeld ?_ ?_
                        rotate_left
                        · intro wZ hSw; clear hSw; go_simp; first | (with_reducible rfl) | (rw [if_pos (by omega)]; with_reducible rfl) | skip
                        try simp only [Act.put, List.setIfInBounds_toArray, List.set_cons_zero, List.set_cons_succ]
                        refine take_dstH (i := 5) (d := 167) (v := ?_) rfl rfl (by kernel_rfl) (by kernel_rfl) (by kernel_rfl) (fun _ _ _ h => h) (by rfl) hHeld ?_ ?_
                        rotate_left
                        · intro wZ hSw; clear hSw; go_simp; first | (with_reducible rfl) | (rw [if_pos (by omega)]; with_reducible rfl) | skip
                        try simp only [Act.put, List.setIfInBounds_toArray, List.set_cons_zero, List.set_cons_succ]
                        refine take_dstH (i := 6) (d := 168) (v := ?_) rfl rfl (by kernel_rfl) (by kernel_rfl) (by kernel_rfl) (fun _ _ _ h => h) (by rfl) hHeld ?_ ?_
                        rotate_left
                        · intro wZ hSw; clear hSw; go_simp; first | (with_reducible rfl) | (rw [if_pos (by omega)]; with_reducible rfl) | skip
                        try simp only [Act.put, List.setIfInBounds_toArray, List.set_cons_zero, List.set_cons_succ]
                        refine take_dstH (i := 7) (d := 169) (v := ?_) rfl rfl (by kernel_rfl) (by kernel_rfl) (by kernel_rfl) (fun _ _ _ h => h) (by rfl) hHeld ?_ ?_
                        rotate_left
                        · intro wZ hSw; clear hSw; go_simp; first | (with_reducible rfl) | (rw [if_pos (by omega)]; with_reducible rfl) | skip
                        try simp only [Act.put, List.setIfInBounds_toArray, List.set_cons_zero, List.set_cons_succ]
                        refine take_dstH (i := 8) (d := 170) (v := ?_) rfl rfl (by kernel_rfl) (by kernel_rfl) (by kernel_rfl) (fun _ _ _ h => h) (by rfl) hHeld ?_ ?_
                        rotate_left
                        · intro wZ hSw; clear hSw; go_simp; first | (with_reducible rfl) | (rw [if_pos (by omega)]; with_reducible rfl) | skip
                        try simp only [Act.put, List.setIfInBounds_toArray, List.set_cons_zero, List.set_cons_succ]
                        refine take_dstH (i := 9) (d := 171) (v := ?_) rfl rfl (by kernel_rfl) (by kernel_rfl) (by kernel_rfl) (fun _ _ _ h => h) (by rfl) hHeld ?_ ?_
                        rotate_left
                        · intro wZ hSw; have hfS := (fun (v : World) (hv : Hid (v = wf.drew)) => show v.cell? ⟨g, 4, none⟩ = some (.slice q n d) from by rw [hv.out]; exact j4) wZ hSw; clear hSw; go_simp; first | (with_reducible rfl) | (rw [if_pos (by omega)]; with_reducible rfl) | skip
                        try simp only [Act.put, List.setIfInBounds_toArray, List.set_cons_zero, List.set_cons_succ]
                        refine take_dstH (i := 10) (d := 172) (v := ?_) rfl rfl (by kernel_rfl) (by kernel_rfl) (by kernel_rfl) (fun _ _ _ h => h) (by rfl) hHeld ?_ ?_
                        rotate_left
                        · intro wZ hSw; clear hSw; go_simp; first | (with_reducible rfl) | (rw [if_pos (by omega)]; with_reducible rfl) | skip
                        try simp only [Act.put, List.setIfInBounds_toArray, List.set_cons_zero, List.set_cons_succ]
                        refine take_dstH (i := 11) (d := 173) (v := ?_) rfl rfl (by kernel_rfl) (by kernel_rfl) (by kernel_rfl) (fun _ _ _ h => h) (by rfl) hHeld ?_ ?_
                        rotate_left
                        · intro wZ hSw; clear hSw; go_simp; first | (with_reducible rfl) | (rw [if_pos (by omega)]; with_reducible rfl) | skip
                        try simp only [Act.put, List.setIfInBounds_toArray, List.set_cons_zero, List.set_cons_succ]
                        refine take_dstH (i := 12) (d := 174) (v := ?_) rfl rfl (by kernel_rfl) (by kernel_rfl) (by kernel_rfl) (fun _ _ _ h => h) (by rfl) hHeld ?_ ?_
                        rotate_left
                        · intro wZ hSw; clear hSw; go_simp; first | (with_reducible rfl) | (rw [if_pos (by omega)]; with_reducible rfl) | skip
                        try simp only [Act.put, List.setIfInBounds_toArray, List.set_cons_zero, List.set_cons_succ]
                        refine take_dstH (i := 13) (d := 175) (v := ?_) rfl rfl (by kernel_rfl) (by kernel_rfl) (by kernel_rfl) (fun _ _ _ h => h) (by rfl) hHeld ?_ ?_
                        rotate_left
                        · intro wZ hSw; clear hSw; go_simp; first | (with_reducible rfl) | (rw [if_pos (by omega)]; with_reducible rfl) | skip
                        try simp only [Act.put, List.setIfInBounds_toArray, List.set_cons_zero, List.set_cons_succ]
                        refine take_dstH (i := 14) (d := 176) (v := ?_) rfl rfl (by kernel_rfl) (by kernel_rfl) (by kernel_rfl) (fun _ _ _ h => h) (by rfl) hHeld ?_ ?_
                        rotate_left
                        · intro wZ hSw; have hfS := (fun (v : World) (hv : Hid (v = wf.drew)) => show v.cell? ⟨g, 3, none⟩ = some (.int .i64 (M : Int)) from by rw [hv.out]; exact j3) wZ hSw; clear hSw; go_simp; first | (with_reducible rfl) | (rw [if_pos (by omega)]; with_reducible rfl) | skip
                        try simp only [Act.put, List.setIfInBounds_toArray, List.set_cons_zero, List.set_cons_succ]
                        refine take_dstH (i := 15) (d := 177) (v := ?_) rfl rfl (by kernel_rfl) (by kernel_rfl) (by kernel_rfl) (fun _ _ _ h => h) (by rfl) hHeld ?_ ?_
                        rotate_left
                        · intro wZ hSw; clear hSw; go_simp; first | (with_reducible rfl) | (rw [if_pos (by omega)]; with_reducible rfl) | skip
                        try simp only [Act.put, List.setIfInBounds_toArray, List.set_cons_zero, List.set_cons_succ]
                        refine take_dstH (i := 16) (d := 178) (v := ?_) rfl rfl (by kernel_rfl) (by kernel_rfl) (by kernel_rfl) (fun _ _ _ h => h) (by rfl) hHeld ?_ ?_
                        rotate_left
                        · intro wZ hSw; clear hSw; go_simp; first | (with_reducible rfl) | (rw [if_pos (by omega)]; with_reducible rfl) | skip
                        try simp only [Act.put, List.setIfInBounds_toArray, List.set_cons_zero, List.set_cons_succ]
                        refine wpAnyH_done (by kernel_rfl) ?_ _
                        go_wp2
                        go_ret3
                        obtain ⟨rfl, rfl, rfl, rfl⟩ := HR.out
                        exact ⟨none, ⟨0, rfl⟩, ⟨Or.inl rfl, fun y hy => by cases hy⟩, A10.out.drew.j.rp, A10.out.drew.w⟩
                      · obtain ⟨hT, hok, her, hs'⟩ := HK4.out (by omega)
                        have HR := hide (And.intro hT (And.intro hok (And.intro her hs')))
                        have hq' : ¬ (n : Int) < (M : Int) := by omega
                        clear HK3 HK4 hT hok her hs' hm hq
                        refine wp_region_held_drew (S := fun v => Hid (v = wf.drew)) (by kernel_rfl) (hide rfl) (fun hHeld => ?_)
                        refine take_dstH (i := 0) (d := 162) (v := ?_) rfl rfl (by kernel_rfl) (by kernel_rfl) (by kernel_rfl) (fun _ _ _ h => h) (by rfl) hHeld ?_ ?_
                        rotate_left
                        · intro wZ hSw; clear hSw; go_simp; first | (with_reducible rfl) | (rw [if_pos (by omega)]; with_reducible rfl) | skip
                        try simp only [Act.put, List.setIfInBounds_toArray, List.set_cons_zero, List.set_cons_succ]
                        refine take_dstH (i := 1) (d := 163) (v := ?_) rfl rfl (by kernel_rfl) (by kernel_rfl) (by kernel_rfl) (fun _ _ _ h => h) (by rfl) hHeld ?_ ?_
                        rotate_left
                        · intro wZ hSw; clear hSw; go_simp; first | (with_reducible rfl) | (rw [if_pos (by omega)]; with_reducible rfl) | skip
                        try simp only [Act.put, List.setIfInBounds_toArray, List.set_cons_zero, List.set_cons_succ]
                        refine take_dstH (i := 2) (d := 164) (v := ?_) rfl rfl (by kernel_rfl) (by kernel_rfl) (by kernel_rfl) (fun _ _ _ h => h) (by rfl) hHeld ?_ ?_
                        rotate_left
                        · intro wZ hSw; clear hSw; go_simp; first | (with_reducible rfl) | (rw [if_pos (by omega)]; with_reducible rfl) | skip
                        try simp only [Act.put, List.setIfInBounds_toArray, List.set_cons_zero, List.set_cons_succ]
                        refine take_dstH (i := 3) (d := 165) (v := ?_) rfl rfl (by kernel_rfl) (by kernel_rfl) (by kernel_rfl) (fun _ _ _ h => h) (by rfl) hHeld ?_ ?_
                        rotate_left
                        · intro wZ hSw; have hfS := (fun (v : World) (hv : Hid (v = wf.drew)) => show v.cell? ⟨g, 3, none⟩ = some (.int .i64 (M : Int)) from by rw [hv.out]; exact j3) wZ hSw; clear hSw; go_simp; first | (with_reducible rfl) | (rw [if_pos (by omega)]; with_reducible rfl) | skip
                        try simp only [Act.put, List.setIfInBounds_toArray, List.set_cons_zero, List.set_cons_succ]
                        refine take_dstH (i := 4) (d := 166) (v := ?_) rfl rfl (by kernel_rfl) (by kernel_rfl) (by kernel_rfl) (fun _ _ _ h => h) (by rfl) hHeld ?_ ?_
                        rotate_left
                        · intro wZ hSw; clear hSw; go_simp; first | (with_reducible rfl) | (rw [if_pos (by omega)]; with_reducible rfl) | skip
                        try simp only [Act.put, List.setIfInBounds_toArray, List.set_cons_zero, List.set_cons_succ]
                        refine take_dstH (i := 5) (d := 167) (v := ?_) rfl rfl (by kernel_rfl) (by kernel_rfl) (by kernel_rfl) (fun _ _ _ h => h) (by rfl) hHeld ?_ ?_
                        rotate_left
                        · intro wZ hSw; clear hSw; go_simp; first | (with_reducible rfl) | (rw [if_pos (by omega)]; with_reducible rfl) | skip
                        try simp only [Act.put, List.setIfInBounds_toArray, List.set_cons_zero, List.set_cons_succ]
                        refine take_dstH (i := 6) (d := 168) (v := ?_) rfl rfl (by kernel_rfl) (by kernel_rfl) (by kernel_rfl) (fun _ _ _ h => h) (by rfl) hHeld ?_ ?_
                        rotate_left
                        · intro wZ hSw; clear hSw; go_simp; first | (with_reducible rfl) | (rw [if_pos (by omega)]; with_reducible rfl) | skip
                        try simp only [Act.put, List.setIfInBounds_toArray, List.set_cons_zero, List.set_cons_succ]
                        refine take_dstH (i := 7) (d := 169) (v := ?_) rfl rfl (by kernel_rfl) (by kernel_rfl) (by kernel_rfl) (fun _ _ _ h => h) (by rfl) hHeld ?_ ?_
                        rotate_left
                        · intro wZ hSw; clear hSw; go_simp; first | (with_reducible rfl) | (rw [if_pos (by omega)]; with_reducible rfl) | skip
                        try simp only [Act.put, List.setIfInBounds_toArray, List.set_cons_zero, List.set_cons_succ]
                        refine take_dstH (i := 8) (d := 170) (v := ?_) rfl rfl (by kernel_rfl) (by kernel_rfl) (by kernel_rfl) (fun _ _ _ h => h) (by rfl) hHeld ?_ ?_
                        rotate_left
                        · intro wZ hSw; clear hSw; go_simp; first | (with_reducible rfl) | (rw [if_pos (by omega)]; with_reducible rfl) | skip
                        try simp only [Act.put, List.setIfInBounds_toArray, List.set_cons_zero, List.set_cons_succ]
                        refine take_dstH (i := 9) (d := 171) (v := ?_) rfl rfl (by kernel_rfl) (by kernel_rfl) (by kernel_rfl) (fun _ _ _ h => h) (by rfl) hHeld ?_ ?_
                        rotate_left
                        · intro wZ hSw; have hfS := (fun (v : World) (hv : Hid (v = wf.drew)) => show v.cell? ⟨g, 4, none⟩ = some (.slice q n d) from by rw [hv.out]; exact j4) wZ hSw; clear hSw; go_simp; first | (with_reducible rfl) | (rw [if_pos (by omega)]; with_reducible rfl) | skip
                        try simp only [Act.put, List.setIfInBounds_toArray, List.set_cons_zero, List.set_cons_succ]
                        refine take_dstH (i := 10) (d := 172) (v := ?_) rfl rfl (by kernel_rfl) (by kernel_rfl) (by kernel_rfl) (fun _ _ _ h => h) (by rfl) hHeld ?_ ?_
                        rotate_left
                        · intro wZ hSw; clear hSw; go_simp; first | (with_reducible rfl) | (rw [if_pos (by omega)]; with_reducible rfl) | skip
                        try simp only [Act.put, List.setIfInBounds_toArray, List.set_cons_zero, List.set_cons_succ]
                        refine take_dstH (i := 11) (d := 173) (v := ?_) rfl rfl (by kernel_rfl) (by kernel_rfl) (by kernel_rfl) (fun _ _ _ h => h) (by rfl) hHeld ?_ ?_
                        rotate_left
                        · intro wZ hSw; clear hSw; go_simp; first | (with_reducible rfl) | (rw [if_pos (by omega)]; with_reducible rfl) | skip
                        try simp only [Act.put, List.setIfInBounds_toArray, List.set_cons_zero, List.set_cons_succ]
                        refine take_dstH (i := 12) (d := 174) (v := ?_) rfl rfl (by kernel_rfl) (by kernel_rfl) (by kernel_rfl) (fun _ _ _ h => h) (by rfl) hHeld ?_ ?_
                        rotate_left
                        · intro wZ hSw; clear hSw; go_simp; first | (with_reducible rfl) | (rw [if_pos (by omega)]; with_reducible rfl) | skip
                        try simp only [Act.put, List.setIfInBounds_toArray, List.set_cons_zero, List.set_cons_succ]
                        refine take_dstH (i := 13) (d := 175) (v := ?_) rfl rfl (by kernel_rfl) (by kernel_rfl) (by kernel_rfl) (fun _ _ _ h => h) (by rfl) hHeld ?_ ?_
                        rotate_left
                        · intro wZ hSw; clear hSw; go_simp; first | (with_reducible rfl) | (rw [if_pos (by omega)]; with_reducible rfl) | skip
                        try simp only [Act.put, List.setIfInBounds_toArray, List.set_cons_zero, List.set_cons_succ]
                        refine take_dstH (i := 14) (d := 176) (v := ?_) rfl rfl (by kernel_rfl) (by kernel_rfl) (by kernel_rfl) (fun _ _ _ h => h) (by rfl) hHeld ?_ ?_
                        rotate_left
                        · intro wZ hSw; have hfS := (fun (v : World) (hv : Hid (v = wf.drew)) => show v.cell? ⟨g, 3, none⟩ = some (.int .i64 (M : Int)) from by rw [hv.out]; exact j3) wZ hSw; clear hSw; go_simp; first | (with_reducible rfl) | (rw [if_pos (by omega)]; with_reducible rfl) | skip
                        try simp only [Act.put, List.setIfInBounds_toArray, List.set_cons_zero, List.set_cons_succ]
                        refine take_dstH (i := 15) (d := 177) (v := ?_) rfl rfl (by kernel_rfl) (by kernel_rfl) (by kernel_rfl) (fun _ _ _ h => h) (by rfl) hHeld ?_ ?_
                        rotate_left
                        · intro wZ hSw; clear hSw; go_simp; first | (with_reducible rfl) | (rw [if_pos (by omega)]; with_reducible rfl) | skip
                        try simp only [Act.put, List.setIfInBounds_toArray, List.set_cons_zero, List.set_cons_succ]
                        refine take_dstH (i := 16) (d := 178) (v := ?_) rfl rfl (by kernel_rfl) (by kernel_rfl) (by kernel_rfl) (fun _ _ _ h => h) (by rfl) hHeld ?_ ?_
                        rotate_left
                        · intro wZ hSw; clear hSw; go_simp; first | (with_reducible rfl) | (rw [if_pos (by omega)]; with_reducible rfl) | skip
                        try simp only [Act.put, List.setIfInBounds_toArray, List.set_cons_zero, List.set_cons_succ]
                        refine wpAnyH_done (by kernel_rfl) ?_ _
                        have A11 := hide A10.out.drew
                        have HJ1 := hide (HJ.out.kept (Below.refl _ wf).drew)
                        have HWH := hide (whole_map HMAP.out M)
                        have HWB : Hid ((whP ks M).length ≤ 100000000) := by
                          show _ ≤ _
                          have h1 := whP_bound ks M
                          rw [HSB.out] at h1
                          have h2 : M * S ≤ 256 * 66636 := Nat.mul_le_mul HF3.out.2.1 hS6
                          exact Nat.le_trans h1 (Nat.le_trans h2 (by decide))
                        have hM2 : M ≤ 256 := HF3.out.2.1
                        clear HJ A10 j3 j4 b0 HSB HF3 hHeld HMAP
                        generalize wf.drew = wd at *
                        have O1 : Hid ((wd.alloc (.cells #[] 5)).ownsRow wd.heap.size 5 1 (.slice (some ⟨wd.heap.size, 0, none⟩) 0 0) 0 (u8s []) ∧ Below wd.heap.size wd (wd.alloc (.cells #[] 5))) := ⟨World.ownsRow_made wd #[] 0 (Nat.le_refl _) (Nat.zero_le _) rfl, (Below.refl _ _).alloc (Nat.le_refl _) _⟩
                        go_wp2_with fail
                        go_loopg [12, 13] (M + 1) (fun f s12 s13 wr => ∃ (i l : Nat), s13 = .int .i64 (i : Int) ∧ i ≤ M ∧ M - i < f ∧ Hid ((whP ks i).length = l) ∧ Hid (wr.ownsRow wd.heap.size 5 1 s12 l (u8s (whP ks i))) ∧ Hid (Below wd.heap.size wd wr))
                        case atStart => exact ⟨0, 0, rfl, by omega, by omega, by rfl, O1.out.1, O1.out.2⟩
                        case round => as_aux_lemma =>
                          obtain ⟨i, l, rfl, hi, hf, HLL, HO, HB⟩ := hrel
                          have RW := hide (HJ1.out.kept HB.out)
                          have j3 := RW.out.j.cell 3
                          simp only [List.getElem?_cons_zero, List.getElem?_cons_succ] at j3
                          by_cases hiM : i < M
                          · have HAT := hide (at_any wr B g _ d n _ _ _ (i : Int) q ks RW.out HKN.out hn6)
                            have HRA := hide (fun (v : World) (hb : Below wr.heap.size wr v) => rj_at (RW.out.kept hb).e (i : Int))
                            have HX : Hid (whP ks (i + 1) = whP ks i ++ (atX ks (i : Int)).b) := rfl
                            have HLE := hide (whP_le ks (show i + 1 ≤ M by omega))
                            generalize atP ks (i : Int) = ep at *
                            generalize atC ks (i : Int) = ec at *
                            generalize atX ks (i : Int) = ex at *
                            generalize (findP ks (i : Int)).isSome = eo at *
                            have hle : l + ex.b.length ≤ 100000000 := by
                              have h1 := HLE.out
                              rw [HX.out, List.length_append, HLL.out] at h1
                              exact Nat.le_trans h1 HWB.out
                            go_wp2_with fail
                            refine HAT.out.mono ?_
                            rintro e wg ⟨rfl, hb⟩
                            have PG := hide (put_cell wg ex ep ec)
                            have HB2 := hide (hb.trans (PG.out.2.mono hb.size))
                            clear hb HAT
                            go_upto_region 31 with (refine wpList_store_row rfl 25 _ _ rfl wg.heap.size (pcC ex ep ec).toArray rfl rfl 25 _ (zero_cell wg) infoPc rfl (one_pcC _ _ _) ?_)
                            generalize (wg.alloc (Obj.cells #[.int .u64 0, .int .i64 0, .bool false, .slice none 0 0] 25)).setRow wg.heap.size (pcC ex ep ec).toArray = wh at *
                            have p3 := PG.out.1.cell 3
                            simp only [List.getElem?_cons_zero, List.getElem?_cons_succ] at p3
                            have HBI := hide (HRA.out wh HB2.out)
                            have OW := hide (own_below HO.out HB2.out)
                            have BW := hide (HB.out.trans (HB2.out.mono HB.out.size))
                            clear HRA HO HB HB2 PG
                            go_wp2_with (first | (at_builtin; refine wpList_append_bytes rfl (.tmp 194) (.tmp 196) rfl wd.heap.size _ (whP ks i) rfl l HLL.out OW.out ep ex.b.length ec ex.b rfl rfl HBI.out.1 HBI.out.2.1 (Nat.le_trans hle (by decide)) BW.out.size ?_))
                            intro v' w' ho hg
                            have O2 := hide ho
                            have B2 := hide (BW.out.grown hg BW.out.size (fun k hk => (OW.out.lt k hk).1))
                            clear ho hg
                            go_wp2_with fail
                            go_roundg (M - i)
                            case measure => omega
                            case rel => exact ⟨i + 1, l + ex.b.length, by simp, by omega, by omega, by show _ = _; rw [HX.out, List.length_append, HLL.out], by rw [HX.out]; exact O2, B2⟩
                          · have e : i = M := by omega
                            subst e
                            obtain ⟨q12, d12, rfl, hpc, hob⟩ := own_both HO.out HLL.out (rj_bytes RW.out.e i)
                            have HOB := hide hob
                            have AK := hide (A11.out.kept HB.out)
                            have b0 := AK.out.b.cell 0
                            simp only [List.getElem?_cons_zero] at b0
                            clear hpc hob
                            go_wp2_with (refine wpList_store_row rfl 45 _ _ rfl g #[.bool true, .bool true, .int .u64 (x.i : Int), .int .i64 0, .slice none 0 0] rfl rfl 45 _ RW.out.j infoJ (by simp) (by simp [Value.oneCell']) ?_)
                            go_ret3
                            obtain ⟨hT, rfl, rfl, rfl⟩ := HR.out
                            have hTw : T = whP ks i := hT.trans HWH.out.symm
                            refine ⟨q12, ⟨d12, by rw [hTw, HLL.out]; rfl⟩, ?_, (AK.out.set HGW.out true x.i).j.rp, (AK.out.set HGW.out true x.i).w⟩
                            rw [hTw]
                            exact (HOB.out.keptR (grown_setRow _ _ _) RW.out.j (by decide)).1
          · obtain ⟨rfl, rfl, rfl, rfl⟩ := K1.out HSS.out
            go_wp2
            go_ret3
            exact ⟨none, ⟨0, rfl⟩, ⟨Or.inl rfl, fun y hy => by cases hy⟩, A7.out.j.rp, A7.out.w⟩

end Go.Proofs.Ytecpnnnkkofejaa
