/-
  Several texts, joined: CH.
-/
import Derived.Test.YtjiipiolckddnaaDoorJM
import Derived.Test.YtjiipiolckddnaaDoorJL

/- Walks: the reference's block of a stream, a text with a stream's bytes added. -/
namespace Go.Proofs.YtjiipiolckddnaaDoor
open Go.RowKit

/-- what lies in memory while the reference's block is made -/
structure StQ (w wr : World) (L s c : List Nat) : Prop where
  r : Arr wr w.heap.size 68 (u8s L)
  t : Arr wr (w.heap.size + 1) 66 (u8s s)
  o : Arr wr (w.heap.size + 1 + 1) 31 (u8s z16)
  b : Arr wr (w.heap.size + 1 + 1 + 1) 31 (u8s c)
  bl : Below w.heap.size w wr
theorem StQ.set {w wr : World} {L s c : List Nat} (r : StQ w wr L s c) (i x : Nat) : StQ w (wr.setCell ⟨w.heap.size + 1 + 1 + 1, i, none⟩ (.int .u8 ((x : Nat) : Int))) L s (c.set i x) := by
  refine ⟨r.r.other _ _ (show w.heap.size ≠ w.heap.size + 1 + 1 + 1 by omega), r.t.other _ _ (show w.heap.size + 1 ≠ w.heap.size + 1 + 1 + 1 by omega), r.o.other _ _ (show w.heap.size + 1 + 1 ≠ w.heap.size + 1 + 1 + 1 by omega), ?_, r.bl.setCell (show w.heap.size ≤ w.heap.size + 1 + 1 + 1 by omega) _⟩
  have := r.b.set i (.int .u8 ((x : Nat) : Int))
  rw [u8s_set] at this
  exact this

set_option maxHeartbeats 4000000 in
set_option maxRecDepth 100000 in
theorem rblock_of (L s T : List Nat) (nn i : Nat) (C : Nat → List Nat) (w : World) (hi : i < 9223372036854775808) (hLl : L.length = 176) (hsl : s.length = 256)
    (hC0 : C 0 = z16) (hCB : ∀ k, Blk (C k)) (hCS : ∀ k, k < 8 → ((C k).set k (nn / 2 ^ (8 * (7 - k)) % 256)).set (8 + k) (i / 2 ^ (8 * (7 - k)) % 256) = C (k + 1))
    (hT : Blk T) (hH : ∀ v, Calls Tryd.prog 50 #[.agg (u8s L).toArray, .agg (u8s s).toArray, .agg (u8s (C 8)).toArray] v fun e w' => e = .returned (.agg (u8s T).toArray) ∧ Below v.heap.size v w') :
    Calls Tryd.prog 36 #[.agg (u8s L).toArray, .agg (u8s s).toArray, .int .u64 (nn : Int), .int .i64 (i : Int)] w fun e w' => e = .returned (.agg (u8s T).toArray) ∧ Below w.heap.size w w' := by
  have HT := hide hT
  have HC0 := hide hC0
  have HCB := hide hCB
  have HCS := hide hCS
  have HH := hide hH
  have IL : Hid ((Tryd.prog.info? 68).map (·.size) = some (u8s L).toArray.size) := by show _ = _; rw [info176]; simp [u8s, hLl]
  have IS : Hid ((Tryd.prog.info? 66).map (·.size) = some (u8s s).toArray.size) := by show _ = _; rw [info256]; simp [u8s, hsl]
  have H0 : Hid (StQ w ((((w.alloc (Obj.cells (u8s L).toArray 68)).alloc (Obj.cells (u8s s).toArray 66)).alloc (Obj.cells (u8s z16).toArray 31)).alloc (Obj.cells (u8s z16).toArray 31)) L s z16) :=
    ⟨(((Arr.new w _ (u8s L)).alloc _).alloc _).alloc _, ((Arr.newAt (w.alloc _) _ (u8s s) _ (by simp)).alloc _).alloc _, (Arr.newAt ((w.alloc _).alloc _) _ (u8s z16) _ (by simp)).alloc _, Arr.newAt (((w.alloc _).alloc _).alloc _) _ (u8s z16) _ (by simp),
      ((((Below.refl _ _).alloc (Nat.le_refl _) _).alloc (by simp) _).alloc (by simp; omega) _).alloc (by simp; omega) _⟩
  clear hT hC0 hCB hCS hH hLl hsl
  go_enter Tryd.func36, Tryd.ntmps36
  go_wp2
  go_loopg [10] 9 (fun f s10 wr => ∃ (k : Nat), s10 = .int .i64 k ∧ k ≤ 8 ∧ 8 - k < f ∧ Hid (StQ w wr L s (C k)))
  case atStart => exact ⟨0, rfl, by omega, by omega, by rw [HC0.out]; exact H0⟩
  case round =>
    clear H0
    obtain ⟨k, rfl, hk, hf, HR⟩ := hrel
    by_cases hlt : k < 8
    · have hk8 : (k : Int) < 8 := by omega
      have ca := (HR.out.b.cell k).trans (u8s_at (by rw [(HCB.out k).len]; omega))
      have cb := (HR.out.b.cell (8 + k)).trans (u8s_at (by rw [(HCB.out k).len]; omega))
      have fa := HR.out.b.frozen k
      have fb := HR.out.b.frozen (8 + k)
      generalize (C k).getD k 0 = x0 at *
      generalize (C k).getD (8 + k) 0 = y0 at *
      go_wp2
      go_roundg (8 - k)
      case measure => omega
      case rel =>
        refine ⟨k + 1, by go_num, by omega, by omega, ?_⟩
        have h := (HR.out.set k (nn / 2 ^ (8 * (7 - k)) % 256)).set (8 + k) (i / 2 ^ (8 * (7 - k)) % 256)
        rw [HCS.out k hlt, ← byte_at, ← byte_at] at h
        exact h
    · have e : k = 8 := by omega
      subst e
      have B8 := hide (HCB.out 8)
      clear HC0 HCB HCS
      generalize C 8 = D at *
      go_wp2_with (first
        | (refine wpList_load_row rfl 68 _ rfl w.heap.size rfl 68 _ (0, 0) _ HR.out.r Tryd.underlying68 rfl IL.out ?_)
        | (refine wpList_load_row rfl 66 _ rfl (w.heap.size + 1) rfl 66 _ (0, 0) _ HR.out.t Tryd.underlying66 rfl IS.out ?_)
        | (refine wpList_load_row rfl 31 _ rfl (w.heap.size + 1 + 1 + 1) rfl 31 _ (0, 0) _ HR.out.b Tryd.underlying31 rfl (szb B8.out) ?_))
      refine (HH.out _).mono ?_
      rintro e w1 ⟨rfl, hb1⟩
      have H1 := hide (HR.out.o.kept hb1)
      have Z1 := hide (HR.out.bl.trans (hb1.mono HR.out.bl.size))
      clear hb1 HR
      go_wp2_with (refine wpList_store_row rfl 31 _ _ rfl (w.heap.size + 1 + 1) (u8s T).toArray rfl rfl 31 _ H1.out (szb HT.out) (old16 HT.out.len) (one_u8s _) ?_)
      exact bodyPost_ret (v := .agg (u8s T).toArray) (results_cell_row Tryd.results36 _ _ (w.heap.size + 1 + 1) 31 _ (0, 0) _ rfl (H1.out.row _) Tryd.underlying31 rfl (szb HT.out)) rfl ⟨rfl, below_setRow Z1.out (by omega) H1.out.lt _⟩

theorem rblock_any (key : List Nat) (nn i : Nat) (w : World) (hk : Blk key) (hi : i < 9223372036854775808) :
    Calls Tryd.prog 36 #[.agg (u8s (flF (rdF swT key) 11)).toArray, .agg (u8s swT).toArray, .int .u64 (nn : Int), .int .i64 (i : Int)] w fun e w' => e = .returned (.agg (u8s (hbF key nn i)).toArray) ∧ Below w.heap.size w w' :=
  rblock_of _ _ (hbF key nn i) nn i (cbP nn i) w hi (flF_length (rdF_length hk.len) 11) swT_length (cbP_zero nn i) (cbP_blk nn i) (cbP_step nn i) (hbF_blk hk nn i)
    (fun v => (rhide_any key (cbP nn i 8) v hk (cbP_blk nn i 8)).mono fun e w' h => by rw [cbP_full] at h; exact h)

/-- what lies in memory while the reference turns a text -/
structure StU (w wr : World) (g1 g2 g3 : Nat) (L s : List Nat) (p : Option Addr) (c : Nat) (xs bb : List Nat) : Prop where
  t : Arr wr g1 66 (u8s s)
  r : Arr wr g2 68 (u8s L)
  b : Arr wr g3 31 (u8s bb)
  x : Piece wr p c xs
  bl : Below w.heap.size w wr
  h1 : w.heap.size ≤ g1
  h2 : g1 < g2
  h3 : g2 < g3
theorem StU.kept {w wr w' : World} {g1 g2 g3 : Nat} {L s : List Nat} {p : Option Addr} {c : Nat} {xs bb : List Nat} (r : StU w wr g1 g2 g3 L s p c xs bb) (h : Below wr.heap.size wr w') : StU w w' g1 g2 g3 L s p c xs bb :=
  ⟨r.t.kept h, r.r.kept h, r.b.kept h, r.x.kept h, r.bl.trans (h.mono r.bl.size), r.h1, r.h2, r.h3⟩
theorem StU.put {w wr : World} {g1 g2 g3 : Nat} {L s : List Nat} {p : Option Addr} {c : Nat} {xs bb : List Nat} (r : StU w wr g1 g2 g3 L s p c xs bb) (hp : ∀ a, p = some a → xs ≠ [] → a.block < w.heap.size) (c2 : List Nat) : StU w (wr.setRow g3 (u8s c2).toArray) g1 g2 g3 L s p c xs c2 := by
  have e1 := r.h1
  have e2 := r.h2
  have e3 := r.h3
  refine ⟨r.t.rowOther _ _ (by omega), r.r.rowOther _ _ (by omega), r.b.row _, ?_, below_setRow r.bl (by omega) r.b.lt _, e1, e2, e3⟩
  refine ⟨?_, r.x.2⟩
  rcases r.x.1 with h0 | ⟨b, o, hb, hc⟩
  · exact Or.inl h0
  · by_cases hx : xs = []
    · exact Or.inl hx
    · refine Or.inr ⟨b, o, hb, fun i hi => ?_⟩
      have hlt := hp _ hb hx
      rw [World.cell?_of_block (w := wr) (setRow_other _ _ _ _ (show b ≠ g3 by have : b < w.heap.size := hlt; omega))]
      exact hc i hi

theorem StU.more {w wr : World} {g1 g2 g3 : Nat} {L s : List Nat} {p : Option Addr} {c : Nat} {xs bb : List Nat} (r : StU w wr g1 g2 g3 L s p c xs bb) (o : Obj) : StU w (wr.drew.alloc o) g1 g2 g3 L s p c xs bb :=
  r.kept (((Below.refl _ wr).drew).alloc (Nat.le_refl _) o)
theorem cell_grown {w w' : World} {r : Option Nat} {a : Addr} {v : Value} (hg : w.grownBy w' r) (hne : r ≠ some a.block) (h : w.cell? a = some v) : w'.cell? a = some v := by
  rw [World.cell?_of_block (hg.block a.block (block_lt_of_cell h) (fun e => hne e.symm))]
  exact h
theorem cell_more {w : World} {a : Addr} {v : Value} (o : Obj) (h : w.cell? a = some v) : (w.alloc o).cell? a = some v := cell_grown (World.grownBy_alloc w o none) (by simp) h
theorem StU.grow {w wr w' : World} {g1 g2 g3 : Nat} {L s : List Nat} {p : Option Addr} {c : Nat} {xs bb : List Nat} {v : Value} {k : Nat} {ys : List Value} (r : StU w wr g1 g2 g3 L s p c xs bb) (ho : wr.ownsRow w.heap.size 5 1 v k ys) (hg : wr.grownBy w' v.ownBlock) (hp : ∀ a, p = some a → xs ≠ [] → a.block < w.heap.size) : StU w w' g1 g2 g3 L s p c xs bb := by
  refine ⟨r.t.keptR hg (own_ne_arr ho r.t (by decide)), r.r.keptR hg (own_ne_arr ho r.r (by decide)), r.b.keptR hg (own_ne_arr ho r.b (by decide)), ⟨?_, r.x.2⟩, r.bl.grown hg r.bl.size (fun k e => (ho.lt k e).1), r.h1, r.h2, r.h3⟩
  rcases r.x.1 with h0 | ⟨b, o, hb, hc⟩
  · exact Or.inl h0
  · by_cases hx : xs = []
    · exact Or.inl hx
    · exact Or.inr ⟨b, o, hb, fun i hi => cell_grown hg (fun e => by have h1 := (ho.lt _ e).1; have h2 : b < w.heap.size := hp _ hb hx; simp only at h1; omega) (hc i hi)⟩
theorem bi_one (w : World) (z : Nat) : BI (w.alloc (Obj.cells #[.int .u8 (z : Int)] 5)) (some ⟨w.heap.size, 0, none⟩) [z] :=
  Or.inr ⟨w.heap.size, 0, rfl, fun i hi => by
    have h0 : i = 0 := by simp at hi; exact hi
    subst h0
    exact (Arr.new w 5 (u8s [z])).cell 0⟩

theorem take_snoc (T : List Nat) {n i : Nat} (h : T.length = n) (hi : i < n) : T.take i ++ [T.getD i 0] = T.take (i + 1) := by
  rw [List.take_add_one, List.getD]
  congr 1
  simp [h, hi]

/-- a place, its block and where it stands therein -/
structure IdxT (f i a q r : Nat) : Prop where
  ha : a = f + i
  hq : q = (f + i) / 16
  hr : r = (f + i) % 16
  w1 : wrap64 (a : Int) = (a : Int)
  w1' : IntKind.i64.wrap (a : Int) = (a : Int)
  e2 : Int.tdiv ((f : Int) + (i : Int)) 16 = (q : Int)
  w2 : wrap64 (q : Int) = (q : Int)
  e3 : Int.tmod ((f : Int) + (i : Int)) 16 = (r : Int)
  w3 : IntKind.i64.wrap (r : Int) = (r : Int)
  r16 : (r : Int) < 16
  r16n : r < 16
  q62 : q < 9223372036854775808
theorem idx_rt (f i : Nat) (hf : f ≤ 1099511627776) (hi : i ≤ 1048576) : ∃ a q r, IdxT f i a q r :=
  ⟨f + i, (f + i) / 16, (f + i) % 16, rfl, rfl, rfl, by unfold wrap64; omega, by rw [IntKind.wrap_i64]; omega, by rw [Int.tdiv_eq_ediv_of_nonneg (by omega)]; omega, by unfold wrap64; omega, by rw [Int.tmod_eq_emod_of_nonneg (by omega)]; omega, by rw [IntKind.wrap_i64]; omega, by omega, by omega, by omega⟩

theorem hv_is {hv : Int} {q : Nat} {bb : List Nat} {B : Nat → List Nat} (h : hv = -1 ∨ ∃ h : Nat, hv = (h : Int) ∧ bb = B h) (hq : (q : Int) = hv) : bb = B q := by
  rcases h with h | ⟨h, h', h''⟩
  · omega
  · have : h = q := by omega
    rw [h'', this]

set_option maxHeartbeats 8000000 in
set_option maxRecDepth 100000 in
theorem rturn_of (key L s T : List Nat) (nn f n : Nat) (B : Nat → List Nat) (p : Option Addr) (c : Nat) (xs : List Nat) (w : World) (hk : Blk key) (hLl : L.length = 176) (hsl : s.length = 256) (hB : ∀ i, Blk (B i)) (hx : Piece w p c xs) (hn : xs.length = n) (hf : f ≤ 1099511627776) (hn2 : n ≤ 1048576)
    (hTl : T.length = n) (hT : ∀ i, i < n → xs.getD i 0 ^^^ (B ((f + i) / 16)).getD ((f + i) % 16) 0 = T.getD i 0)
    (h1 : ∀ v, Calls Tryd.prog 34 #[] v fun e w' => e = .returned (.agg (u8s s).toArray) ∧ Below v.heap.size v w')
    (h2 : ∀ v, Calls Tryd.prog 35 #[.agg (u8s key).toArray, .agg (u8s s).toArray] v fun e w' => e = .returned (.agg (u8s L).toArray) ∧ Below v.heap.size v w')
    (h3 : ∀ (i : Nat) (v : World), i < 9223372036854775808 → Calls Tryd.prog 36 #[.agg (u8s L).toArray, .agg (u8s s).toArray, .int .u64 (nn : Int), .int .i64 (i : Int)] v fun e w' => e = .returned (.agg (u8s (B i)).toArray) ∧ Below v.heap.size v w') :
    Calls Tryd.prog 25 #[.agg (u8s key).toArray, .int .u64 (nn : Int), .int .i64 (f : Int), .slice p n c] w fun r w' => ∃ v, r = .returned v ∧ w'.ownsRow w.heap.size 5 1 v n (u8s T) ∧ Below w.heap.size w w' := by
  have H1 := hide h1
  have H2 := hide h2
  have H3 := hide h3
  have HB := hide hB
  have HT := hide hT
  have HTL := hide hTl
  have HN := hide hn
  have IK := hide (szb hk)
  have IL : Hid ((Tryd.prog.info? 68).map (·.size) = some (u8s L).toArray.size) := by show _ = _; rw [info176]; simp [u8s, hLl]
  have IL2 : Hid ((u8s z176).toArray.size = (u8s L).toArray.size) := by show _ = _; simp [u8s, hLl, z176]
  have IS : Hid ((Tryd.prog.info? 66).map (·.size) = some (u8s s).toArray.size) := by show _ = _; rw [info256]; simp [u8s, hsl]
  have IS2 : Hid ((u8s z256).toArray.size = (u8s s).toArray.size) := by show _ = _; simp [u8s, hsl, z256]
  have OL := hide (one_u8s L)
  have OS := hide (one_u8s s)
  have Z1 := zero256
  have Z2 := zero176
  have HX := hide hx
  have HPL := hide (piece_lt hx)
  have ZB : Hid (Blk z16) := ⟨rfl, fun i => getD_lt (by decide) (by omega) i⟩
  have A0 : Hid (Arr (w.alloc (Obj.cells (u8s key).toArray 31)) w.heap.size 31 (u8s key) ∧ Below w.heap.size w (w.alloc (Obj.cells (u8s key).toArray 31))) := ⟨Arr.new w _ _, (Below.refl _ _).alloc (Nat.le_refl _) _⟩
  clear h1 h2 h3 hB hT hTl hn hk hLl hsl hx
  go_enter Tryd.func25, Tryd.ntmps25
  go_wp2_with fail
  generalize w.alloc (Obj.cells (u8s key).toArray 31) = w1 at *
  refine (H1.out _).mono ?_
  rintro e wt ⟨rfl, hbt⟩
  have At : Hid (Arr wt w.heap.size 31 (u8s key) ∧ Below w.heap.size w wt) := ⟨A0.out.1.kept hbt, A0.out.2.trans (hbt.mono A0.out.2.size)⟩
  clear hbt A0
  go_upto_region 2 with (refine wpList_store_row rfl 66 _ _ rfl wt.heap.size (u8s s).toArray rfl rfl 66 _ (Arr.new wt _ (u8s z256)) IS.out IS2.out OS.out ?_)
  have hlt1 : w.heap.size < wt.heap.size := At.out.1.lt
  have A2 : Hid (Arr ((wt.alloc (Obj.cells (u8s z256).toArray 66)).setRow wt.heap.size (u8s s).toArray) w.heap.size 31 (u8s key) ∧ Arr ((wt.alloc (Obj.cells (u8s z256).toArray 66)).setRow wt.heap.size (u8s s).toArray) wt.heap.size 66 (u8s s) ∧ Below w.heap.size w ((wt.alloc (Obj.cells (u8s z256).toArray 66)).setRow wt.heap.size (u8s s).toArray)) :=
    ⟨(At.out.1.alloc _).rowOther _ _ (by omega), (Arr.new wt _ (u8s z256)).row _, below_setRow (At.out.2.alloc At.out.2.size _) At.out.2.size (by simp) _⟩
  clear At
  generalize (wt.alloc (Obj.cells (u8s z256).toArray 66)).setRow wt.heap.size (u8s s).toArray = w2 at *
  generalize wt.heap.size = g1 at *
  go_wp2_with (first
    | (refine wpList_load_row rfl 31 _ rfl w.heap.size rfl 31 _ (0, 0) _ A2.out.1 Tryd.underlying31 rfl IK.out ?_)
    | (refine wpList_load_row rfl 66 _ rfl g1 rfl 66 _ (0, 0) _ A2.out.2.1 Tryd.underlying66 rfl IS.out ?_))
  refine (H2.out _).mono ?_
  rintro e wr ⟨rfl, hbr⟩
  have A3 : Hid (Arr wr g1 66 (u8s s) ∧ Below w.heap.size w wr ∧ Piece wr p c xs) := ⟨A2.out.2.1.kept hbr, A2.out.2.2.trans (hbr.mono A2.out.2.2.size), (HX.out.kept (A2.out.2.2.trans (hbr.mono A2.out.2.2.size)))⟩
  clear hbr A2
  go_upto_region 3 with (refine wpList_store_row rfl 68 _ _ rfl wr.heap.size (u8s L).toArray rfl rfl 68 _ (Arr.new wr _ (u8s z176)) IL.out IL2.out OL.out ?_)
  have hlt2 : g1 < wr.heap.size := A3.out.1.lt
  have A4 : Hid (StU w (((wr.alloc (Obj.cells (u8s z176).toArray 68)).setRow wr.heap.size (u8s L).toArray).alloc (Obj.cells (u8s z16).toArray 31)) g1 wr.heap.size (wr.heap.size + 1) L s p c xs z16) := by
    have b3 := A3.out.2.1
    have l3 := b3.size
    refine ⟨((A3.out.1.alloc _).rowOther _ _ (by omega)).alloc _, ((Arr.new wr _ (u8s z176)).row _).alloc _, Arr.newAt _ _ (u8s z16) _ (by simp), ?_, (below_setRow (b3.alloc l3 _) l3 (by simp) _).alloc (by simp; omega) _, by omega, hlt2, by omega⟩
    refine (HX.out.kept ?_)
    exact (below_setRow (b3.alloc l3 _) l3 (by simp) _).alloc (by simp; omega) _
  clear A3
  clear H1 H2 Z1 Z2 IL2 IS2 OS OL IK HX
  go_wp2
  generalize hg2 : wr.heap.size = g2 at *
  go_loopg [11, 13, 14, 15] (n + 1) (fun fu s11 s13 s14 s15 wx => ∃ (i : Nat) (hv : Int) (bb : List Nat) (q : Option Addr) (d : Nat), s11 = .slice q i d ∧ s14 = .int .i64 (i : Int) ∧ s13 = .int .i64 hv ∧ i ≤ n ∧ n - i < fu ∧ Hid (hv = -1 ∨ ∃ h : Nat, hv = (h : Int) ∧ bb = B h) ∧ Hid (StU w wx g1 g2 (g2 + 1) L s p c xs bb) ∧ Hid (Blk bb) ∧ Hid (wx.ownsRow w.heap.size 5 1 (.slice q i d) i (u8s (T.take i))))
  case atStart =>
    refine ⟨0, -1, z16, none, 0, rfl, rfl, rfl, by omega, by omega, Or.inl rfl, A4, ZB, ?_⟩
    exact World.ownsRow_nil _ _ _ _
  case round =>
    clear A4 ZB
    obtain ⟨i, hv, bb, q0, d0, rfl, rfl, rfl, hi, hfu, HV, HU, HBB, HO⟩ := hrel
    by_cases hlt : i < n
    · have hlti : (i : Int) < (n : Int) := by omega
      obtain ⟨a, q, r, HI⟩ := idx_rt f i hf (by omega)
      have HTi := HT.out i hlt
      rw [← HI.hq, ← HI.hr] at HTi
      replace HTi := hide HTi
      have HII := hide HI
      have e2 := HI.e2
      have w2' := HI.w2
      clear HI
      go_upto_if 32 with fail
      go_cut [13] (fun s13 wc => s13 = .int .i64 (q : Int) ∧ Hid (StU w wc g1 g2 (g2 + 1) L s p c xs (B q)) ∧ Hid (wc.ownsRow w.heap.size 5 1 (.slice q0 i d0) i (u8s (T.take i))))
      case first =>
        by_cases hqv : (q : Int) = hv
        · have hb : bb = B q := hv_is HV.out hqv
          subst hb
          subst hqv
          clear HV
          go_wp2
          go_meet
          case rel => exact ⟨rfl, HU, HO⟩
        · have hbq : ((q : Int) != hv) = true := bne_iff_ne.2 hqv
          clear hqv HV
          simp only [hbq]
          clear hbq
          go_wp2_with (first
            | (refine wpList_load_row rfl 68 _ rfl g2 rfl 68 _ (0, 0) _ HU.out.r Tryd.underlying68 rfl IL.out ?_)
            | (refine wpList_load_row rfl 66 _ rfl g1 rfl 66 _ (0, 0) _ HU.out.t Tryd.underlying66 rfl IS.out ?_))
          refine (H3.out q _ HII.out.q62).mono ?_
          rintro e wc ⟨rfl, hbc⟩
          have HU1 := hide (HU.out.kept hbc)
          have HO1 := hide (own_below HO.out hbc)
          have Bq := hide (HB.out q)
          clear hbc HU HO
          go_wp2_with (refine wpList_store_row rfl 31 _ _ rfl (g2 + 1) (u8s (B q)).toArray rfl rfl 31 _ HU1.out.b (szb Bq.out) (szz HBB.out Bq.out) (one_u8s _) ?_)
          simp only [Act.put]
          go_meet
          case rel =>
            refine ⟨rfl, HU1.out.put HPL.out _, ?_⟩
            exact HO1.out.kept ⟨rfl, rfl, rfl, by simp, fun k _ hk => setRow_other _ (g2 + 1) k _ (fun e => hk (by rw [e]))⟩ (.inr (own_ne_arr HO1.out HU1.out.b (by decide)))
      case rest =>
        clear HU HO HBB
        obtain ⟨rfl, HU, HO⟩ := hcut
        clear e2 w2'
        have w0 : IntKind.i64.wrap ((f : Int) + (i : Int)) = (f : Int) + (i : Int) := by rw [IntKind.wrap_i64]; omega
        have HBq := HB.out q
        have cb := hide ((HU.out.b.cell r).trans (u8s_at (by rw [HBq.len]; exact HII.out.r16n)))
        obtain ⟨gx, ox, hp, hcell⟩ : ∃ b o, p = some ⟨b, o, none⟩ ∧ Bts wc b o xs := by
          rcases HU.out.x.1 with h0 | h
          · have := HN.out; rw [h0] at this; simp at this; omega
          · exact h
        subst hp
        have cx := hide (hcell i (by rw [HN.out]; exact hlt))
        have lx : Hid (gx < w.heap.size) := HPL.out _ rfl (fun e => by have := HN.out; rw [e] at this; simp at this; omega)
        have hb8 := HBq.lt r
        have hx8 := getD_byte HU.out.x.2.2.1 i
        have eu := u8_xor_nat (xs.getD i 0) ((B q).getD r 0) hx8 hb8
        rw [HTi.out] at eu
        have HTS := hide (take_snoc T HTL.out hlt)
        clear hcell HBq HTi
        generalize (B q).getD r 0 = y at *
        generalize xs.getD i 0 = x at *
        generalize T.getD i 0 = z at *
        generalize hTi : T.take i = Ti at *
        have HOD := hide (show wc.drew.ownsRow w.heap.size 5 1 (.slice q0 i d0) i (u8s Ti) from HO.out)
        have HTL2 : Hid (Ti.length = i) := by show _ = _; rw [← hTi, List.length_take, HTL.out]; omega
        clear hTi
        have e3 := HII.out.e3
        have w3 := HII.out.w3
        have r16 := HII.out.r16
        go_upto_region 13 with fail
        refine wp_region_held_drew (S := fun v => Hid (v.cell? ⟨gx, ox + i, none⟩ = some (.int .u8 (x : Int)) ∧ v.cell? ⟨g2 + 1, r, none⟩ = some (.int .u8 (y : Int)))) (by kernel_rfl) (hide ⟨cx.out, cb.out⟩) (fun hHeld => ?_)
        refine take_dstH (i := 0) (d := 40) (v := ?_) rfl rfl (by kernel_rfl) (by kernel_rfl) (by kernel_rfl) (fun _ _ _ h => h) (by rfl) hHeld ?_ ?_
        rotate_left
        · intro wZ hSw; clear hSw; go_simp; first | (with_reducible rfl) | (rw [if_pos (by omega)]; with_reducible rfl) | skip
        try simp only [Act.put, List.setIfInBounds_toArray, List.set_cons_zero, List.set_cons_succ]
        refine take_dstH (i := 1) (d := 41) (v := ?_) rfl rfl (by kernel_rfl) (by kernel_rfl) (by kernel_rfl) (fun _ _ _ h => h) (by rfl) hHeld ?_ ?_
        rotate_left
        · intro wZ hSw; clear hSw; go_simp; first | (with_reducible rfl) | (rw [if_pos (by omega)]; with_reducible rfl) | skip
        try simp only [Act.put, List.setIfInBounds_toArray, List.set_cons_zero, List.set_cons_succ]
        refine take_dstH (i := 2) (d := 42) (v := ?_) rfl rfl (by kernel_rfl) (by kernel_rfl) (by kernel_rfl) (fun _ _ _ h => h) (by rfl) hHeld ?_ ?_
        rotate_left
        · intro wZ hSw; clear hSw; go_simp; first | (with_reducible rfl) | (rw [if_pos (by omega)]; with_reducible rfl) | skip
        try simp only [Act.put, List.setIfInBounds_toArray, List.set_cons_zero, List.set_cons_succ]
        refine take_dstH (i := 3) (d := 43) (v := ?_) rfl rfl (by kernel_rfl) (by kernel_rfl) (by kernel_rfl) (fun _ _ _ h => h) (by rfl) hHeld ?_ ?_
        rotate_left
        · intro wZ hSw; clear hSw; go_simp; first | (with_reducible rfl) | (rw [if_pos (by omega)]; with_reducible rfl) | skip
        try simp only [Act.put, List.setIfInBounds_toArray, List.set_cons_zero, List.set_cons_succ]
        refine take_dstH (i := 4) (d := 44) (v := ?_) rfl rfl (by kernel_rfl) (by kernel_rfl) (by kernel_rfl) (fun _ _ _ h => h) (by rfl) hHeld ?_ ?_
        rotate_left
        · intro wZ hSw; have hfS := (fun (v : World) (h : Hid (v.cell? ⟨gx, ox + i, none⟩ = some (.int .u8 (x : Int)) ∧ v.cell? ⟨g2 + 1, r, none⟩ = some (.int .u8 (y : Int)))) => h.out.1) wZ hSw; clear hSw; go_simp; first | (with_reducible rfl) | (rw [if_pos (by omega)]; with_reducible rfl) | skip
        try simp only [Act.put, List.setIfInBounds_toArray, List.set_cons_zero, List.set_cons_succ]
        refine take_dstH (i := 5) (d := 45) (v := ?_) rfl rfl (by kernel_rfl) (by kernel_rfl) (by kernel_rfl) (fun _ _ _ h => h) (by rfl) hHeld ?_ ?_
        rotate_left
        · intro wZ hSw; clear hSw; go_simp; first | (with_reducible rfl) | (rw [if_pos (by omega)]; with_reducible rfl) | skip
        try simp only [Act.put, List.setIfInBounds_toArray, List.set_cons_zero, List.set_cons_succ]
        refine take_dstH (i := 6) (d := 46) (v := ?_) rfl rfl (by kernel_rfl) (by kernel_rfl) (by kernel_rfl) (fun _ _ _ h => h) (by rfl) hHeld ?_ ?_
        rotate_left
        · intro wZ hSw; clear hSw; go_simp; first | (with_reducible rfl) | (rw [if_pos (by omega)]; with_reducible rfl) | skip
        try simp only [Act.put, List.setIfInBounds_toArray, List.set_cons_zero, List.set_cons_succ]
        refine take_dstH (i := 7) (d := 47) (v := ?_) rfl rfl (by kernel_rfl) (by kernel_rfl) (by kernel_rfl) (fun _ _ _ h => h) (by rfl) hHeld ?_ ?_
        rotate_left
        · intro wZ hSw; clear hSw; go_simp; first | (with_reducible rfl) | (rw [if_pos (by omega)]; with_reducible rfl) | skip
        try simp only [Act.put, List.setIfInBounds_toArray, List.set_cons_zero, List.set_cons_succ]
        refine take_dstH (i := 8) (d := 48) (v := ?_) rfl rfl (by kernel_rfl) (by kernel_rfl) (by kernel_rfl) (fun _ _ _ h => h) (by rfl) hHeld ?_ ?_
        rotate_left
        · intro wZ hSw; have hfS := (fun (v : World) (h : Hid (v.cell? ⟨gx, ox + i, none⟩ = some (.int .u8 (x : Int)) ∧ v.cell? ⟨g2 + 1, r, none⟩ = some (.int .u8 (y : Int)))) => h.out.2) wZ hSw; clear hSw; go_simp; first | (with_reducible rfl) | (rw [if_pos (by omega)]; with_reducible rfl) | skip
        try simp only [Act.put, List.setIfInBounds_toArray, List.set_cons_zero, List.set_cons_succ]
        refine take_dstH (i := 9) (d := 49) (v := ?_) rfl rfl (by kernel_rfl) (by kernel_rfl) (by kernel_rfl) (fun _ _ _ h => h) (by rfl) hHeld ?_ ?_
        rotate_left
        · intro wZ hSw; clear hSw; go_simp; first | (with_reducible rfl) | (rw [if_pos (by omega)]; with_reducible rfl) | skip
        try simp only [Act.put, List.setIfInBounds_toArray, List.set_cons_zero, List.set_cons_succ]
        refine wpAnyH_ready (rs := [10]) (by kernel_rfl) (by simp) ?_
        refine (AllReadyH.cons rfl (fun K hK => ?_) AllReadyH.nil)
        go_simp
        refine hK.out _ _ ?_ (fun hHeld => ?_)
        · exact (fun h : Hid _ => hide ⟨cell_more _ h.out.1, cell_more _ h.out.2⟩) hHeld
        clear hK K
        try simp only [Act.put, List.setIfInBounds_toArray, List.set_cons_zero, List.set_cons_succ]
        refine wpAnyH_ready (rs := [11]) (by kernel_rfl) (by simp) ?_
        refine (AllReadyH.cons rfl (fun K hK => ?_) AllReadyH.nil)
        refine wp_append_bytes_dst rfl (.tmp 40) (.tmp 50) rfl w.heap.size (.slice q0 i d0) Ti rfl i HTL2.out (HOD.out.alloc _) (some ⟨wc.heap.size, 0, none⟩) 1 1 [z] rfl rfl (bi_one wc.drew z) (fun e => by cases e) (by omega) (by have := HU.out.bl.size; simp; omega) ?_; intro v' w' hown' hgrow; obtain ⟨q', d', rfl⟩ := own_val hown'; have HO2 := hide hown'; have HG := hide hgrow; clear hown' hgrow
        refine hK.out _ _ ?_ (fun hHeld => ?_)
        · exact (fun h : Hid _ => hide ⟨cell_grown HG.out (fun e => by have h2 := ((HOD.out.alloc (Obj.cells #[.int .u8 (z : Int)] 5)).lt gx e).1; have h3 := lx.out; omega) h.out.1, cell_grown HG.out (own_ne_arr (HOD.out.alloc (Obj.cells #[.int .u8 (z : Int)] 5)) (Arr.alloc (w := wc.drew) HU.out.b _) (by decide)) h.out.2⟩) hHeld
        clear hK K
        try simp only [Act.put, List.setIfInBounds_toArray, List.set_cons_zero, List.set_cons_succ]
        refine take_dstH (i := 12) (d := 11) (v := ?_) rfl rfl (by kernel_rfl) (by kernel_rfl) (by kernel_rfl) (fun _ _ _ h => h) (by rfl) hHeld ?_ ?_
        rotate_left
        · intro wZ hSw; clear hSw; go_simp; first | (with_reducible rfl) | (rw [if_pos (by omega)]; with_reducible rfl) | skip
        try simp only [Act.put, List.setIfInBounds_toArray, List.set_cons_zero, List.set_cons_succ]
        refine wpAnyH_done (by kernel_rfl) ?_ _
        have HU2 := hide (StU.grow (StU.more HU.out _) (HOD.out.alloc (Obj.cells #[.int .u8 (z : Int)] 5)) HG.out HPL.out)
        have HBq := hide (HB.out q)
        have HO3 : Hid (w'.ownsRow w.heap.size 5 1 (.slice q' (i + 1) d') (i + 1) (u8s (T.take (i + 1)))) := by show World.ownsRow _ _ _ _ _ _ _; rw [← HTS.out]; exact HO2.out
        clear hHeld HU HO HOD HO2 HG HTS e3 w3 r16 w0 cb cx eu hb8 hx8
        go_wp2
        go_roundg (n - i)
        case measure => omega
        case rel => exact ⟨i + 1, (q : Int), B q, q', d', rfl, by go_num, rfl, by omega, by omega, Or.inr ⟨q, rfl, rfl⟩, HU2, HBq, HO3⟩
    · have e : i = n := by omega
      subst e
      have hT2 : T.take i = T := by rw [← HTL.out]; exact List.take_length
      rw [hT2] at HO
      have HBL := hide HU.out.bl
      clear HU HV HBB hT2
      go_wp2
      go_ret
      exact ⟨_, rfl, HO.out, HBL.out⟩

theorem rturn_any (key : List Nat) (nn f n : Nat) (p : Option Addr) (c : Nat) (xs : List Nat) (w : World) (hk : Blk key) (hx : Piece w p c xs) (hn : xs.length = n) (hf : f ≤ 1099511627776) (hn2 : n ≤ 1048576) :
    Calls Tryd.prog 25 #[.agg (u8s key).toArray, .int .u64 (nn : Int), .int .i64 (f : Int), .slice p n c] w fun r w' => ∃ v, r = .returned v ∧ w'.ownsRow w.heap.size 5 1 v n (u8s (trF (hbF key nn) f xs)) ∧ Below w.heap.size w w' :=
  rturn_of key _ swT _ nn f n (hbF key nn) p c xs w hk (flF_length (rdF_length hk.len) 11) swT_length (fun i => hbF_blk hk nn i) hx hn hf hn2 (by rw [trF_length, hn]) (fun i hi => (trF_at _ _ _ (by omega)).symm)
    rtable_any (fun v => rrounds_any key v hk) (fun i v hi => rblock_any key nn i v hk hi)

end Go.Proofs.YtjiipiolckddnaaDoor
