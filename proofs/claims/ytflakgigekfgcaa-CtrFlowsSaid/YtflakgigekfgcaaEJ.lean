/-
  A walk: a block hidden.
-/
import Derived.Test.YtflakgigekfgcaaEI
namespace Go.Proofs.Ytflakgigekfgcaa
open Go.RowKit

/-- a block: sixteen bytes -/
structure Blk (b : List Nat) : Prop where
  len : b.length = 16
  lt : ∀ i, b.getD i 0 < 256
theorem Blk.mem {b : List Nat} (h : Blk b) : ∀ x ∈ b, x < 256 := by
  intro x hx
  obtain ⟨i, hi, rfl⟩ := List.getElem_of_mem hx
  have := h.lt i
  simpa [List.getD, hi] using this
theorem range16_blk {g : Nat → Nat} (h : ∀ i, i < 16 → g i < 256) : Blk ((List.range 16).map g) := by
  refine ⟨by simp, fun i => ?_⟩
  rw [range16_at]
  split
  · exact h i ‹_›
  · omega
def addL (a b : List Nat) : List Nat := (List.range 16).map fun i => a.getD i 0 ^^^ b.getD i 0
def eachL (t b : List Nat) : List Nat := (List.range 16).map fun i => t.getD (b.getD i 0) 0
def movL (t : Nat) (b : List Nat) : List Nat := (List.range 16).map fun i => b.getD ((i + 4 * t * (i % 4)) % 16) 0
def mixL (fs b : List Nat) : List Nat := (List.range 16).map fun i => mxA b fs i 4
theorem Blk.add {a b : List Nat} (ha : Blk a) (hb : Blk b) : Blk (addL a b) := range16_blk fun i _ => xor_lt8 (ha.lt i) (hb.lt i)
theorem eachL_blk {t : List Nat} (ht : ∀ i, t.getD i 0 < 256) (b : List Nat) : Blk (eachL t b) := range16_blk fun _ _ => ht _
theorem Blk.mov {b : List Nat} (h : Blk b) (t : Nat) : Blk (movL t b) := range16_blk fun _ _ => h.lt _
theorem Blk.mix {b : List Nat} (h : Blk b) (fs : List Nat) : Blk (mixL fs b) := range16_blk fun i _ => mxA_lt fs h.lt i 4
/-- a block, so many rounds on -/
def hdF (f : Nat → List Nat) (b : List Nat) : Nat → List Nat
  | 0 => addL b (f 0)
  | r + 1 => addL (if r + 1 < 10 then mixL [2, 3, 1, 1] (movL 1 (eachL swT (hdF f b r))) else movL 1 (eachL swT (hdF f b r))) (f (r + 1))
theorem hdF_blk {f : Nat → List Nat} {b : List Nat} (hf : ∀ j, Blk (f j)) (hb : Blk b) : ∀ r, Blk (hdF f b r)
  | 0 => hb.add (hf 0)
  | r + 1 => by
    rw [hdF]
    refine Blk.add ?_ (hf _)
    split
    · exact ((eachL_blk sw_lt _).mov 1).mix _
    · exact (eachL_blk sw_lt _).mov 1
theorem rd_blk {s key : List Nat} (hs : ∀ i, s.getD i 0 < 256) (hk : Blk key) (j : Nat) : Blk (rdF s key j) := ⟨rdF_length hk.len j, rdF_lt hs hk.lt j⟩

theorem sum_c {a b : List Nat} (ha : Blk a) (hb : Blk b) (v : World) : Calls Try.prog 36 #[.agg (u8s a).toArray, .agg (u8s b).toArray] v fun e w' => e = .returned (.agg (u8s (addL a b)).toArray) ∧ Below v.heap.size v w' :=
  sum_of a b _ v ha.len hb.len ha.mem hb.mem (ha.add hb).len (fun i hi => by rw [addL, range16_at, if_pos hi])
theorem each_c {t b : List Nat} (tl : t.length = 256) (ht : ∀ i, t.getD i 0 < 256) (hb : Blk b) (v : World) : Calls Try.prog 38 #[.agg (u8s b).toArray, .agg (u8s t).toArray] v fun e w' => e = .returned (.agg (u8s (eachL t b)).toArray) ∧ Below v.heap.size v w' :=
  each_of b t _ v hb.len tl hb.mem (eachL_blk ht b).len (fun i hi => by rw [eachL, range16_at, if_pos hi])
theorem moved_c {b : List Nat} (t : Nat) (ht : t ≤ 3) (hb : Blk b) (v : World) : Calls Try.prog 37 #[.agg (u8s b).toArray, .int .i64 (t : Int)] v fun e w' => e = .returned (.agg (u8s (movL t b)).toArray) ∧ Below v.heap.size v w' :=
  moved_of b _ t v ht hb.len (hb.mov t).len (fun i hi => by rw [movL, range16_at, if_pos hi])
theorem mixed_c {b fs : List Nat} (fl : fs.length = 4) (hf : ∀ i, fs.getD i 0 < 256) (hb : Blk b) (v : World) : Calls Try.prog 39 #[.agg (u8s b).toArray, .agg (u8s fs).toArray] v fun e w' => e = .returned (.agg (u8s (mixL fs b)).toArray) ∧ Below v.heap.size v w' :=
  mixed_of b fs _ (mxA b fs) v hb.len fl hb.lt hf (hb.mix fs).len (fun i hi => by rw [mixL, range16_at, if_pos hi]) (fun _ => rfl) (fun _ _ => rfl) (fun i k => mxA_lt fs hb.lt i k)

theorem St3.kept {w wr w' : World} {t : TypeId} {a c : List Nat} (r : St3 w wr t a c) (h : Below wr.heap.size wr w') : St3 w w' t a c :=
  ⟨r.1.kept h, r.2.1.kept h, r.2.2.1.kept h, r.2.2.2.trans (h.mono r.2.2.2.size)⟩
theorem St3.more {w wr : World} {t : TypeId} {a c : List Nat} (r : St3 w wr t a c) (o : Obj) : St3 w (wr.alloc o) t a c :=
  ⟨r.1.alloc o, r.2.1.alloc o, r.2.2.1.alloc o, r.2.2.2.alloc r.2.2.2.size o⟩
theorem St3.row {w wr : World} {t : TypeId} {a c : List Nat} (r : St3 w wr t a c) (g : Nat) (us : Array Value) (hg : w.heap.size + 1 + 1 < g) (hl : g < wr.heap.size) : St3 w (wr.setRow g us) t a c :=
  ⟨r.1.rowOther g us (by omega), r.2.1.rowOther g us (by omega), r.2.2.1.rowOther g us (by omega), below_setRow r.2.2.2 (by omega) hl us⟩

/-- what lies in memory while a block is hidden -/
structure StH (w wr : World) (g1 g2 : Nat) (key b s L : List Nat) : Prop where
  st : St3 w wr 22 key b
  tab : Arr wr g1 52 (u8s s)
  lst : Arr wr g2 54 (u8s L)
  h1 : w.heap.size + 1 + 1 < g1
  h2 : g1 < g2
theorem StH.kept {w wr w' : World} {g1 g2 : Nat} {key b s L : List Nat} (r : StH w wr g1 g2 key b s L) (h : Below wr.heap.size wr w') : StH w w' g1 g2 key b s L :=
  ⟨r.st.kept h, r.tab.kept h, r.lst.kept h, r.h1, r.h2⟩
theorem StH.drew {w wr : World} {g1 g2 : Nat} {key b s L : List Nat} (r : StH w wr g1 g2 key b s L) : StH w wr.drew g1 g2 key b s L :=
  ⟨r.st.drew, r.tab, r.lst, r.h1, r.h2⟩
theorem StH.put {w wr : World} {g1 g2 : Nat} {key b s L : List Nat} (r : StH w wr g1 g2 key b s L) (c : List Nat) : StH w (wr.setRow (w.heap.size + 1) (u8s c).toArray) g1 g2 key c s L := by
  have e1 := r.h1
  have e2 := r.h2
  exact ⟨⟨r.st.1.rowOther _ _ (by omega), r.st.2.1.row _, r.st.2.2.1.rowOther _ _ (by omega), below_setRow r.st.2.2.2 (by omega) r.st.2.1.lt _⟩, r.tab.rowOther _ _ (by omega), r.lst.rowOther _ _ (by omega), e1, e2⟩
theorem StH.range {w wr : World} {g1 g2 : Nat} {key b s : List Nat} {f : Nat → List Nat} (r : StH w wr g1 g2 key b s (flF f 11)) (hf : ∀ j, (f j).length = 16) (k : Nat) (hk : k < 11) : wr.rangeAt g2 (k * 16) (u8s (f k)) := fun t x hx => by
  have ht : t < 16 := by have := (List.getElem?_eq_some_iff.1 hx).1; rwa [u8s_length, hf] at this
  rw [r.lst.cell, ← hx, Nat.mul_comm k 16]
  simp only [u8s, List.getElem?_map, flF_row hf k t ht 11 hk]

theorem szb {b : List Nat} (h : Blk b) : (Try.prog.info? 22).map (·.size) = some (u8s b).toArray.size := sz16 h.len
theorem szl {b : List Nat} (h : Blk b) : (Try.prog.info? 22).map (·.size) = some (u8s b).length := by rw [info16, u8s_length, h.len]
theorem szz {b c : List Nat} (h : Blk b) (k : Blk c) : (u8s b).toArray.size = (u8s c).toArray.size := by simp [u8s, h.len, k.len]

set_option maxHeartbeats 8000000 in
set_option maxRecDepth 100000 in
theorem Hide_of (key b T : List Nat) (w : World) (hk : Blk key) (hb : Blk b) (hT : T = hdF (rdF swT key) b 10) :
    Calls Try.prog 29 #[.agg (u8s key).toArray, .agg (u8s b).toArray] w fun e w' => e = .returned (.agg (u8s T).toArray) ∧ Below w.heap.size w w' := by
  obtain ⟨f, hf⟩ : ∃ f, f = rdF swT key := ⟨_, rfl⟩
  obtain ⟨L, hL⟩ : ∃ L, L = flF f 11 := ⟨_, rfl⟩
  have lL : L.length = 176 := by rw [hL, hf, flF_length (rdF_length hk.len)]
  have HK := hide hk
  have HB := hide hb
  have FB : Hid (∀ j, Blk (f j)) := by rw [hf]; exact rd_blk sw_lt hk
  have HL := hide hL
  have HRD := hide (fun v => rounds_of key swT L f v hk.len swT_length sw_lt (by rw [hf]; rfl) (by intro j; rw [hf]; rfl) (fun j => (FB.out j).len) (fun j => (FB.out j).lt) hL)
  have HT : Hid (T = hdF f b 10) := by rw [hf]; exact hT
  have HSW := hide swaps_any
  have HSU := hide (fun a c (ha : Blk a) (hc : Blk c) v => sum_c ha hc v)
  have HEA := hide (fun c (hc : Blk c) v => each_c swT_length sw_lt hc v)
  have HMO : Hid (∀ c, Blk c → ∀ v, Calls Try.prog 37 #[.agg (u8s c).toArray, .int .i64 1] v fun e w' => e = .returned (.agg (u8s (movL 1 c)).toArray) ∧ Below v.heap.size v w') := fun c hc v => moved_c (b := c) 1 (by omega) hc v
  have HMI : Hid (∀ c, Blk c → ∀ v, Calls Try.prog 39 #[.agg (u8s c).toArray, .agg #[.int .u8 2, .int .u8 3, .int .u8 1, .int .u8 1]] v fun e w' => e = .returned (.agg (u8s (mixL [2, 3, 1, 1] c)).toArray) ∧ Below v.heap.size v w') := fun c hc v => mixed_c (b := c) (fs := [2, 3, 1, 1]) rfl (fun i => getD_lt (by decide) (by omega) i) hc v
  have SL : Hid (swT.length = 256) := swT_length
  have EB := hide (eachL_blk sw_lt)
  have HS1 : Hid (∀ r, r + 1 < 10 → hdF f b (r + 1) = addL (mixL [2, 3, 1, 1] (movL 1 (eachL swT (hdF f b r)))) (f (r + 1))) := fun r hr => by rw [hdF, if_pos hr]
  have HS2 : Hid (∀ r, ¬ r + 1 < 10 → hdF f b (r + 1) = addL (movL 1 (eachL swT (hdF f b r))) (f (r + 1))) := fun r hr => by rw [hdF, if_neg hr]
  have HBB := hide (hdF_blk FB.out hb)
  have IS : Hid ((Try.prog.info? 52).map (·.size) = some (u8s swT).toArray.size) := by show _ = _; rw [info256]; simp [u8s, swT_length]
  have IS2 : Hid ((u8s z256).toArray.size = (u8s swT).toArray.size) := by show _ = _; simp [u8s, swT_length, z256]
  have OS := hide (one_u8s swT)
  have T1 : Hid ((Try.prog.info? 54).map (·.size) = some (u8s L).toArray.size) := by show _ = _; rw [info176]; simp [u8s, lL]
  have T2 : Hid ((u8s z176).toArray.size = (u8s L).toArray.size) := by show _ = _; simp [u8s, lL, z176]
  have OL := hide (one_u8s L)
  have ZZ : Hid (Blk z16) := ⟨rfl, fun i => getD_lt (by decide) (by omega) i⟩
  have Z1 := zero256
  have Z2 := zero176
  have H3 := hide (St3.start w 22 key b)
  clear lL hL hf hk hb hT
  generalize swT = SW at *
  go_enter Try.func29, Try.ntmps29
  go_wp2_with (first
    | (refine (HSW.out _).mono ?_; rintro e wa ⟨rfl, hba⟩; have Ha := hide (H3.out.kept hba); clear hba)
    | (refine wpList_store_row rfl 52 _ _ rfl wa.heap.size (u8s SW).toArray rfl rfl 52 _ (Arr.new wa _ (u8s z256)) IS.out IS2.out OS.out ?_
       have hlt : w.heap.size + 1 + 1 < wa.heap.size := Ha.out.2.2.1.lt
       have Hb := hide ((Ha.out.more (Obj.cells (u8s z256).toArray 52)).row wa.heap.size (u8s SW).toArray hlt (by simp))
       have Gb : Hid (Arr ((wa.alloc (Obj.cells (u8s z256).toArray 52)).setRow wa.heap.size (u8s SW).toArray) wa.heap.size 52 (u8s SW)) := (Arr.new wa _ (u8s z256)).row _
       generalize (wa.alloc (Obj.cells (u8s z256).toArray 52)).setRow wa.heap.size (u8s SW).toArray = wb at *
       generalize hg1 : wa.heap.size = g1 at *
       clear hg1 Ha)
    | (refine wpList_load_row rfl 22 _ rfl w.heap.size rfl 22 _ (0, 0) _ Hb.out.1 Try.underlying22 rfl (szb HK.out) ?_)
    | (refine wpList_load_row rfl 52 _ rfl g1 rfl 52 _ (0, 0) _ Gb.out Try.underlying52 rfl IS.out ?_)
    | (refine (HRD.out _).mono ?_; rintro e wc ⟨rfl, hbc⟩; have Hc := hide (Hb.out.kept hbc); have Gc := hide (Gb.out.kept hbc); clear hbc)
    | (refine wpList_store_row rfl 54 _ _ rfl wc.heap.size (u8s L).toArray rfl rfl 54 _ (Arr.new wc _ (u8s z176)) T1.out T2.out OL.out ?_
       have hlt2 : g1 < wc.heap.size := Gc.out.lt
       have Hd : Hid (StH w ((wc.alloc (Obj.cells (u8s z176).toArray 54)).setRow wc.heap.size (u8s L).toArray) g1 wc.heap.size key b SW L) := ⟨(Hc.out.more _).row _ _ (by omega) (by simp), (Gc.out.alloc _).rowOther _ _ (by omega), (Arr.new wc _ (u8s z176)).row _, hlt, hlt2⟩
       generalize (wc.alloc (Obj.cells (u8s z176).toArray 54)).setRow wc.heap.size (u8s L).toArray = wd at *
       generalize hg2 : wc.heap.size = g2 at *
       have R0 := hide (StH.range (f := f) (by rw [← HL.out]; exact Hd.out) (fun j => (FB.out j).len) 0 (by omega))
       clear hg2 Hc Gc Hb Gb)
    | (refine wpList_load_row rfl 22 _ rfl (w.heap.size + 1) rfl 22 _ (0, 0) _ Hd.out.st.2.1 Try.underlying22 rfl (szb HB.out) ?_)
    | (refine wpList_load_mid rfl 22 _ rfl g2 (0 * 16) rfl (u8s (f 0)) _ R0.out Try.underlying22 rfl (szl (FB.out 0)) ?_)
    | (refine (HSU.out _ _ HB.out (FB.out 0) _).mono ?_; rintro e we ⟨rfl, hbe⟩; have He := hide (Hd.out.kept hbe); clear hbe)
    | (refine wpList_store_row rfl 22 _ _ rfl (w.heap.size + 1) (u8s (addL b (f 0))).toArray rfl rfl 22 _ He.out.st.2.1 (szb (HB.out.add (FB.out 0))) (szz HB.out (HB.out.add (FB.out 0))) (one_u8s _) ?_
       have Hf := hide (He.out.put (addL b (f 0)))
       generalize we.setRow (w.heap.size + 1) (u8s (addL b (f 0))).toArray = wf at *
       clear He Hd R0))
  go_loopg [7] 12 (fun f0 s7 wr => ∃ (k j : Nat), s7 = .int .i64 j ∧ j = k + 1 ∧ k ≤ 10 ∧ 11 - k < f0 ∧ Hid (StH w wr g1 g2 key (hdF f b k) SW L))
  case atStart => exact ⟨0, 1, rfl, rfl, by omega, by omega, Hf⟩
  case round =>
    clear Hf
    obtain ⟨k, j, rfl, hjk, hk, hf, HR⟩ := hrel
    by_cases hlt10 : k < 10
    · have m4 : (j : Int) < 11 := by omega
      have m5 : (j : Int) ≤ 10 := by omega
      have B0 := hide (HBB.out k)
      have B1 := hide (EB.out (hdF f b k))
      have B2 := hide (B1.out.mov 1)
      have B3 := hide (B2.out.mix [2, 3, 1, 1])
      have BF := hide (FB.out j)
      have S1 : Hid (j < 10 → hdF f b j = addL (mixL [2, 3, 1, 1] (movL 1 (eachL SW (hdF f b k)))) (f j)) := by rw [hjk]; exact HS1.out k
      have S2 : Hid (¬ j < 10 → hdF f b j = addL (movL 1 (eachL SW (hdF f b k))) (f j)) := by rw [hjk]; exact HS2.out k
      have HJ := hide hjk
      have BJ := hide (HBB.out j)
      have RG : Hid (∀ (v : World) (c : List Nat), StH w v g1 g2 key c SW L → v.rangeAt g2 (j * 16) (u8s (f j))) := fun v c h => StH.range (f := f) (by rw [← HL.out]; exact h) (fun j => (FB.out j).len) j (by omega)
      have CE := hide (HEA.out (hdF f b k) B0.out)
      have CM := hide (HMO.out (eachL SW (hdF f b k)) B1.out)
      have CX := hide (HMI.out (movL 1 (eachL SW (hdF f b k))) B2.out)
      have CS1 := hide (HSU.out (mixL [2, 3, 1, 1] (movL 1 (eachL SW (hdF f b k)))) (f j) B3.out BF.out)
      have CS2 := hide (HSU.out (movL 1 (eachL SW (hdF f b k))) (f j) B2.out BF.out)
      clear hjk HEA HMO HMI HSU HSW HRD HS1 HS2 HBB EB
      generalize hdF f b k = B at *
      generalize eachL SW B = E at *
      generalize movL 1 E = M at *
      generalize mixL [2, 3, 1, 1] M = X at *
      have IF := hide (szl BF.out)
      by_cases hj10 : j < 10
      · have i10 : (j : Int) < 10 := by omega
        have HV := hide (S1.out hj10)
        have HSF := CS1
        rw [← HV.out] at HSF
        clear CS1 CS2
        go_wp2_with (first | (refine wpList_load_row rfl 22 _ rfl (w.heap.size + 1) rfl 22 _ (0, 0) _ HR.out.st.2.1 Try.underlying22 rfl (szb B0.out) ?_) | (refine wpList_load_row rfl 52 _ rfl g1 rfl 52 _ (0, 0) _ HR.out.tab Try.underlying52 rfl IS.out ?_))
        refine (CE.out _).mono ?_
        rintro e w1 ⟨rfl, hb1⟩
        have H1 := hide (HR.out.kept hb1)
        clear hb1 HR
        go_wp2_with fail
        refine (CM.out _).mono ?_
        rintro e w2 ⟨rfl, hb2⟩
        have H2 := hide (H1.out.kept hb2)
        clear hb2 H1
        go_wp2_with (first | (refine wpList_store_row rfl 22 _ _ rfl (w.heap.size + 1) (u8s M).toArray rfl rfl 22 _ H2.out.st.2.1 (szb B2.out) (szz B0.out B2.out) (one_u8s _) ?_; have H3 := hide (H2.out.put M); generalize w2.setRow (w.heap.size + 1) (u8s M).toArray = w3 at *; clear H2) | (refine wpList_load_row rfl 22 _ rfl (w.heap.size + 1) rfl 22 _ (0, 0) _ H3.out.st.2.1 Try.underlying22 rfl (szb B2.out) ?_))
        refine (CX.out _).mono ?_
        rintro e w4 ⟨rfl, hb4⟩
        have H4 := hide (H3.out.kept hb4)
        clear hb4 H3
        go_wp2_with (refine wpList_store_row rfl 22 _ _ rfl (w.heap.size + 1) (u8s X).toArray rfl rfl 22 _ H4.out.st.2.1 (szb B3.out) (szz B2.out B3.out) (one_u8s _) ?_; have H5 := hide (H4.out.put X); generalize w4.setRow (w.heap.size + 1) (u8s X).toArray = w5 at *; clear H4)
        refine wp_region_held_drew (S := fun w' => Hid (w'.rangeAt g2 (j * 16) (u8s (f j)))) (by kernel_rfl) (hide (RG.out _ _ H5.out.drew)) (fun hHeld => ?_)
        refine take_dstH (i := 1) (d := 30) (v := ?_) rfl rfl (by kernel_rfl) (by kernel_rfl) (by kernel_rfl) (fun _ _ _ h => h) (by rfl) hHeld ?_ ?_
        rotate_left
        · intro wZ hSw; clear hSw; go_simp; first | (with_reducible rfl) | (rw [if_pos (by omega)]; with_reducible rfl) | skip
        try simp only [Act.put, List.setIfInBounds_toArray, List.set_cons_zero, List.set_cons_succ]
        refine take_dstH (i := 2) (d := 31) (v := ?_) rfl rfl (by kernel_rfl) (by kernel_rfl) (by kernel_rfl) (fun _ _ _ h => h) (by rfl) hHeld ?_ ?_
        rotate_left
        · intro wZ hSw; clear hSw; go_simp; first | (with_reducible rfl) | (rw [if_pos (by omega)]; with_reducible rfl) | skip
        try simp only [Act.put, List.setIfInBounds_toArray, List.set_cons_zero, List.set_cons_succ]
        refine take_dstH (i := 3) (d := 32) (v := ?_) rfl rfl (by kernel_rfl) (by kernel_rfl) (by kernel_rfl) (fun _ _ _ h => h) (by rfl) hHeld ?_ ?_
        rotate_left
        · intro wZ hSw; refine exec_load_mid 22 (.tmp 31) ?_ g2 (j * 16) ?_ (u8s (f j)) _ hSw.out Try.underlying22 rfl IF.out <;> rfl
        try simp only [Act.put, List.setIfInBounds_toArray, List.set_cons_zero, List.set_cons_succ]
        refine wpAnyH_ready (rs := [0]) (by kernel_rfl) (by simp) ?_
        refine (AllReadyH.cons rfl (fun K hK => ?_) AllReadyH.nil)
        refine wp_load_dst rfl 22 (.tmp 3) rfl (w.heap.size + 1) rfl 22 _ (0, 0) _ H5.out.st.2.1 Try.underlying22 rfl (szb B3.out) ?_
        refine hK.out _ _ ?_ (fun hHeld => ?_)
        · exact hHeld
        clear hK K
        try simp only [Act.put, List.setIfInBounds_toArray, List.set_cons_zero, List.set_cons_succ]
        refine wpAnyH_ready (rs := [4]) (by kernel_rfl) (by simp) ?_
        refine (AllReadyH.cons rfl (fun K hK => ?_) AllReadyH.nil)
        go_simp
        refine (HSF.out _).mono ?_; rintro e wa ⟨rfl, hba⟩; have H6 := hide (H5.out.drew.kept hba); clear hba
        go_wp2_with fail
        refine hK.out _ _ ?_ (fun hHeld => ?_)
        · exact hide (RG.out _ _ H6.out)
        clear hK K
        try simp only [Act.put, List.setIfInBounds_toArray, List.set_cons_zero, List.set_cons_succ]
        refine wpAnyH_ready (rs := [5]) (by kernel_rfl) (by simp) ?_
        refine (AllReadyH.cons rfl (fun K hK => ?_) AllReadyH.nil)
        refine wp_store_dst rfl 22 (.tmp 3) (.tmp 33) rfl (w.heap.size + 1) _ rfl rfl 22 _ H6.out.st.2.1 (szb BJ.out) (szz B3.out BJ.out) (one_u8s _) ?_; have H7 := hide (H6.out.put (hdF f b j))
        refine hK.out _ _ ?_ (fun hHeld => ?_)
        · exact hide (RG.out _ _ H7.out)
        clear hK K
        try simp only [Act.put, List.setIfInBounds_toArray, List.set_cons_zero, List.set_cons_succ]
        refine wpAnyH_done (by kernel_rfl) ?_ _
        clear hHeld
        go_wp2
        go_roundg (11 - k)
        case measure =>
          have hjk := HJ.out
          omega
        case rel =>
          have hjk := HJ.out
          exact ⟨j, j + 1, by go_num, rfl, by omega, by omega, H7⟩
      · have i10 : ¬ (j : Int) < 10 := by omega
        have HV := hide (S2.out hj10)
        have HSF := CS2
        rw [← HV.out] at HSF
        clear CS1 CS2
        go_wp2_with (first | (refine wpList_load_row rfl 22 _ rfl (w.heap.size + 1) rfl 22 _ (0, 0) _ HR.out.st.2.1 Try.underlying22 rfl (szb B0.out) ?_) | (refine wpList_load_row rfl 52 _ rfl g1 rfl 52 _ (0, 0) _ HR.out.tab Try.underlying52 rfl IS.out ?_))
        refine (CE.out _).mono ?_
        rintro e w1 ⟨rfl, hb1⟩
        have H1 := hide (HR.out.kept hb1)
        clear hb1 HR
        go_wp2_with fail
        refine (CM.out _).mono ?_
        rintro e w2 ⟨rfl, hb2⟩
        have H2 := hide (H1.out.kept hb2)
        clear hb2 H1
        go_wp2_with (refine wpList_store_row rfl 22 _ _ rfl (w.heap.size + 1) (u8s M).toArray rfl rfl 22 _ H2.out.st.2.1 (szb B2.out) (szz B0.out B2.out) (one_u8s _) ?_; have H3 := hide (H2.out.put M); generalize w2.setRow (w.heap.size + 1) (u8s M).toArray = w3 at *; clear H2)
        have H5 := H3
        clear H3
        refine wp_region_held_drew (S := fun w' => Hid (w'.rangeAt g2 (j * 16) (u8s (f j)))) (by kernel_rfl) (hide (RG.out _ _ H5.out.drew)) (fun hHeld => ?_)
        refine take_dstH (i := 1) (d := 30) (v := ?_) rfl rfl (by kernel_rfl) (by kernel_rfl) (by kernel_rfl) (fun _ _ _ h => h) (by rfl) hHeld ?_ ?_
        rotate_left
        · intro wZ hSw; clear hSw; go_simp; first | (with_reducible rfl) | (rw [if_pos (by omega)]; with_reducible rfl) | skip
        try simp only [Act.put, List.setIfInBounds_toArray, List.set_cons_zero, List.set_cons_succ]
        refine take_dstH (i := 2) (d := 31) (v := ?_) rfl rfl (by kernel_rfl) (by kernel_rfl) (by kernel_rfl) (fun _ _ _ h => h) (by rfl) hHeld ?_ ?_
        rotate_left
        · intro wZ hSw; clear hSw; go_simp; first | (with_reducible rfl) | (rw [if_pos (by omega)]; with_reducible rfl) | skip
        try simp only [Act.put, List.setIfInBounds_toArray, List.set_cons_zero, List.set_cons_succ]
        refine take_dstH (i := 3) (d := 32) (v := ?_) rfl rfl (by kernel_rfl) (by kernel_rfl) (by kernel_rfl) (fun _ _ _ h => h) (by rfl) hHeld ?_ ?_
        rotate_left
        · intro wZ hSw; refine exec_load_mid 22 (.tmp 31) ?_ g2 (j * 16) ?_ (u8s (f j)) _ hSw.out Try.underlying22 rfl IF.out <;> rfl
        try simp only [Act.put, List.setIfInBounds_toArray, List.set_cons_zero, List.set_cons_succ]
        refine wpAnyH_ready (rs := [0]) (by kernel_rfl) (by simp) ?_
        refine (AllReadyH.cons rfl (fun K hK => ?_) AllReadyH.nil)
        refine wp_load_dst rfl 22 (.tmp 3) rfl (w.heap.size + 1) rfl 22 _ (0, 0) _ H5.out.st.2.1 Try.underlying22 rfl (szb B2.out) ?_
        refine hK.out _ _ ?_ (fun hHeld => ?_)
        · exact hHeld
        clear hK K
        try simp only [Act.put, List.setIfInBounds_toArray, List.set_cons_zero, List.set_cons_succ]
        refine wpAnyH_ready (rs := [4]) (by kernel_rfl) (by simp) ?_
        refine (AllReadyH.cons rfl (fun K hK => ?_) AllReadyH.nil)
        go_simp
        refine (HSF.out _).mono ?_; rintro e wa ⟨rfl, hba⟩; have H6 := hide (H5.out.drew.kept hba); clear hba
        go_wp2_with fail
        refine hK.out _ _ ?_ (fun hHeld => ?_)
        · exact hide (RG.out _ _ H6.out)
        clear hK K
        try simp only [Act.put, List.setIfInBounds_toArray, List.set_cons_zero, List.set_cons_succ]
        refine wpAnyH_ready (rs := [5]) (by kernel_rfl) (by simp) ?_
        refine (AllReadyH.cons rfl (fun K hK => ?_) AllReadyH.nil)
        refine wp_store_dst rfl 22 (.tmp 3) (.tmp 33) rfl (w.heap.size + 1) _ rfl rfl 22 _ H6.out.st.2.1 (szb BJ.out) (szz B2.out BJ.out) (one_u8s _) ?_; have H7 := hide (H6.out.put (hdF f b j))
        refine hK.out _ _ ?_ (fun hHeld => ?_)
        · exact hide (RG.out _ _ H7.out)
        clear hK K
        try simp only [Act.put, List.setIfInBounds_toArray, List.set_cons_zero, List.set_cons_succ]
        refine wpAnyH_done (by kernel_rfl) ?_ _
        clear hHeld
        go_wp2
        go_roundg (11 - k)
        case measure =>
          have hjk := HJ.out
          omega
        case rel =>
          have hjk := HJ.out
          exact ⟨j, j + 1, by go_num, rfl, by omega, by omega, H7⟩
    · have e : k = 10 := by omega
      subst e
      subst hjk
      rw [← HT.out] at HR
      have BT : Hid (Blk T) := by rw [HT.out]; exact HBB.out 10
      have K0 := hide HR.out.st.2.1
      have K2 := hide HR.out.st.2.2.1
      have KB := hide HR.out.st.2.2.2
      clear HR
      go_wp2_with (first
        | (refine wpList_load_row rfl 22 _ rfl (w.heap.size + 1) rfl 22 _ (0, 0) _ K0.out Try.underlying22 rfl (szb BT.out) ?_)
        | (refine wpList_store_row rfl 22 _ _ rfl (w.heap.size + 1 + 1) _ rfl rfl 22 _ K2.out (szb BT.out) (szz ZZ.out BT.out) (one_u8s _) ?_))
      exact bodyPost_ret (v := .agg (u8s T).toArray) (results_cell_row Try.results29 _ _ (w.heap.size + 1 + 1) 22 _ (0, 0) _ rfl (K2.out.row _) Try.underlying22 rfl (szb BT.out)) rfl ⟨rfl, below_setRow KB.out (by omega) K2.out.lt _⟩

end Go.Proofs.Ytflakgigekfgcaa
