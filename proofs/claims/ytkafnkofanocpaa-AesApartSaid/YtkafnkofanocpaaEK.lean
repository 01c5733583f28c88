/-
  Walks: what each byte was that is swapped; a block shown again.
-/
import Derived.Test.YtkafnkofanocpaaEJ
namespace Go.Proofs.Ytkafnkofanocpaa
open Go.RowKit

theorem run_index256 (T : List Nat) (i x : Nat) (w : World) (hi : i < 256) (hx : (u8s T)[i]? = some (.int .u8 ((x : Nat) : Int))) :
    (Instr.index 30 (Value.agg (u8s T).toArray) (Value.int IntKind.i64 (i : Int))).run Try.prog w = .ok (.int .u8 ((x : Nat) : Int)) w := by
  obtain ⟨i0, hi0, hz0, hz1, hz2⟩ := info_parts info8s
  unfold Instr.index
  simp [asIntOf, run_underlying Try.underlying30 w, hi, Go.sizeOf, typeInfo, hi0, hz1, Go.part, hx]

/-- what lies in memory while it is looked up what each byte was -/
def StU (w wr : World) (s B : List Nat) : Prop :=
  Arr wr w.heap.size 30 (u8s s) ∧ Arr wr (w.heap.size + 1) 30 (u8s z256) ∧ Arr wr (w.heap.size + 1 + 1) 30 (u8s B) ∧ Below w.heap.size w wr
theorem StU.set {w wr : World} {s B : List Nat} (r : StU w wr s B) (i x : Nat) : StU w (wr.setCell ⟨w.heap.size + 1 + 1, i, none⟩ (.int .u8 ((x : Nat) : Int))) s (B.set i x) := by
  obtain ⟨h0, h1, h2, h3⟩ := r
  refine ⟨h0.other _ _ (show w.heap.size ≠ w.heap.size + 1 + 1 by omega), h1.other _ _ (show w.heap.size + 1 ≠ w.heap.size + 1 + 1 by omega), ?_, h3.setCell (show w.heap.size ≤ w.heap.size + 1 + 1 by omega) _⟩
  have := h2.set i (.int .u8 ((x : Nat) : Int))
  rw [u8s_set] at this
  exact this

set_option maxHeartbeats 4000000 in
set_option maxRecDepth 100000 in
theorem undone_of (s F : List Nat) (L : Nat → List Nat) (w : World) (hsl : s.length = 256) (hs : ∀ i, s.getD i 0 < 256) (hL0 : L 0 = z256) (hLL : ∀ i, (L i).length = 256) (hLN : ∀ i, L (i + 1) = (L i).set (s.getD i 0) i) (hF : F = L 256) :
    Calls Try.prog 31 #[.agg (u8s s).toArray] w fun e w' => e = .returned (.agg (u8s F).toArray) ∧ Below w.heap.size w w' := by
  have SL := hide hsl
  have HS := hide hs
  have L0 := hide hL0
  have LL := hide hLL
  have LN := hide hLN
  have LF := hide hF
  have Z1 := zero256
  have IS : Hid ((Try.prog.info? 30).map (·.size) = some (u8s s).toArray.size) := by show _ = _; rw [info256]; simp [u8s, hsl]
  have A0 : Hid (∀ x y : Obj, Arr (((w.alloc (Obj.cells (u8s s).toArray 30)).alloc x).alloc y) w.heap.size 30 (u8s s)) := fun x y => ((Arr.new w _ (u8s s)).alloc _).alloc _
  clear hsl hs hL0 hLL hLN hF
  go_enter Try.func31, Try.ntmps31
  go_wp2_with (refine wpList_load_row rfl 30 _ rfl w.heap.size rfl 30 _ (0, 0) _ (A0.out _ _) Try.underlying30 rfl IS.out ?_)
  go_loopg [7] 257 (fun f s7 wr => ∃ (i : Nat), s7 = .int .i64 i ∧ i ≤ 256 ∧ 256 - i < f ∧ Hid (StU w wr s (L i)))
  case atStart =>
    refine ⟨0, rfl, by omega, by omega, ?_⟩
    rw [L0.out]
    exact ⟨A0.out _ _, (Arr.newAt (w.alloc _) _ (u8s z256) _ (by simp)).alloc _, Arr.newAt ((w.alloc _).alloc _) _ (u8s z256) _ (by simp), (((Below.refl _ _).alloc (Nat.le_refl _) _).alloc (by simp) _).alloc (by simp; omega) _⟩
  case round =>
    clear A0
    obtain ⟨i, rfl, hi, hf, HR⟩ := hrel
    by_cases hlt : i < 256
    · obtain ⟨x, hx⟩ : ∃ x, x = s.getD i 0 := ⟨_, rfl⟩
      have hxb : x < 256 := by rw [hx]; exact HS.out i
      have hidx := run_index256 s i x wr hlt (by rw [u8s_at (by rw [SL.out]; exact hlt), ← hx])
      have cw := (HR.out.2.2.1.cell x).trans (u8s_at (by rw [LL.out]; omega))
      have fw := HR.out.2.2.1.frozen x
      have HN : Hid (L (i + 1) = (L i).set x i) := by show _ = _; rw [LN.out, ← hx]
      have hi256 : (i : Int) < 256 := by omega
      have hx256 : (x : Int) < 256 := by omega
      clear hx
      generalize (L i).getD x 0 = old at *
      go_wp2
      go_roundg (256 - i)
      case measure => omega
      case rel =>
        refine ⟨i + 1, by go_num, by omega, by omega, ?_⟩
        have := HR.out.set x i
        rw [← HN.out] at this
        exact this
    · have e : i = 256 := by omega
      subst e
      rw [← LF.out] at HR
      have FL : F.length = 256 := by rw [LF.out, LL.out]
      have K0 := hide HR.out.2.1
      have K1 := hide HR.out.2.2.1
      have KB := hide HR.out.2.2.2
      have T1 : Hid ((u8s z256).toArray.size = (u8s F).toArray.size) := by show _ = _; simp [u8s, z256, FL]
      have T2 : Hid ((Try.prog.info? 30).map (·.size) = some (u8s F).toArray.size) := by show _ = _; rw [info256]; simp [u8s, FL]
      have O2 := hide (one_u8s F)
      clear HR FL
      go_wp2_with (first
        | (refine wpList_load_row rfl 30 _ rfl (w.heap.size + 1 + 1) rfl 30 _ (0, 0) _ K1.out Try.underlying30 rfl T2.out ?_)
        | (refine wpList_store_row rfl 30 _ _ rfl (w.heap.size + 1) _ rfl rfl 30 _ K0.out T2.out T1.out O2.out ?_))
      exact bodyPost_ret (v := .agg (u8s F).toArray) (results_cell_row Try.results31 _ _ (w.heap.size + 1) 30 _ (0, 0) _ rfl (K0.out.row _) Try.underlying30 rfl T2.out) rfl ⟨rfl, below_setRow KB.out (by omega) K0.out.lt _⟩

theorem undone_any (w : World) :
    Calls Try.prog 31 #[.agg (u8s swT).toArray] w fun e w' => e = .returned (.agg (u8s bkT).toArray) ∧ Below w.heap.size w w' :=
  undone_of swT bkT (bkL swT) w swT_length sw_lt rfl (bkL_length swT) (fun _ => rfl) bkL_all.symm

theorem bk_lt (i : Nat) : bkT.getD i 0 < 256 := getD_lt bkT_lt (by omega) i

/-- a block, so many rounds back -/
def shF (f : Nat → List Nat) (b : List Nat) : Nat → List Nat
  | 0 => b
  | k + 1 => eachL bkT (movL 3 (if 10 - k < 10 then mixL [14, 11, 13, 9] (addL (shF f b k) (f (10 - k))) else addL (shF f b k) (f (10 - k))))
theorem shF_blk {f : Nat → List Nat} {b : List Nat} (hb : Blk b) : ∀ k, Blk (shF f b k)
  | 0 => hb
  | _ + 1 => eachL_blk bk_lt _

/-- what lies in memory while a block is shown -/
structure StS (w wr : World) (g1 g2 g3 : Nat) (key b s L B : List Nat) : Prop where
  st : StH w wr g1 g2 key b s L
  bk : Arr wr g3 30 (u8s B)
  h3 : w.heap.size + 1 + 1 < g3
theorem StS.kept {w wr w' : World} {g1 g2 g3 : Nat} {key b s L B : List Nat} (r : StS w wr g1 g2 g3 key b s L B) (h : Below wr.heap.size wr w') : StS w w' g1 g2 g3 key b s L B := ⟨r.st.kept h, r.bk.kept h, r.h3⟩
theorem StS.drew {w wr : World} {g1 g2 g3 : Nat} {key b s L B : List Nat} (r : StS w wr g1 g2 g3 key b s L B) : StS w wr.drew g1 g2 g3 key b s L B := ⟨r.st.drew, r.bk, r.h3⟩
theorem StS.put {w wr : World} {g1 g2 g3 : Nat} {key b s L B : List Nat} (r : StS w wr g1 g2 g3 key b s L B) (c : List Nat) : StS w (wr.setRow (w.heap.size + 1) (u8s c).toArray) g1 g2 g3 key c s L B := by
  have e3 := r.h3
  exact ⟨r.st.put c, r.bk.rowOther _ _ (by omega), e3⟩

set_option maxHeartbeats 8000000 in
set_option maxRecDepth 100000 in
theorem Show_of (key b T : List Nat) (w : World) (hk : Blk key) (hb : Blk b) (hT : T = addL (shF (rdF swT key) b 10) (rdF swT key 0)) :
    Calls Try.prog 21 #[.agg (u8s key).toArray, .agg (u8s b).toArray] w fun e w' => e = .returned (.agg (u8s T).toArray) ∧ Below w.heap.size w w' := by
  obtain ⟨f, hf⟩ : ∃ f, f = rdF swT key := ⟨_, rfl⟩
  obtain ⟨L, hL⟩ : ∃ L, L = flF f 11 := ⟨_, rfl⟩
  have lL : L.length = 176 := by rw [hL, hf, flF_length (rdF_length hk.len)]
  have HK := hide hk
  have HB := hide hb
  have FB : Hid (∀ j, Blk (f j)) := by rw [hf]; exact rd_blk sw_lt hk
  have HL := hide hL
  have HRD := hide (fun v => rounds_of key swT L f v hk.len swT_length sw_lt (by rw [hf]; rfl) (by intro j; rw [hf]; rfl) (fun j => (FB.out j).len) (fun j => (FB.out j).lt) hL)
  have HT : Hid (T = addL (shF f b 10) (f 0)) := by rw [hf]; exact hT
  have HSW := hide swaps_any
  have HUN := hide undone_any
  have HSU := hide (fun a c (ha : Blk a) (hc : Blk c) v => sum_c ha hc v)
  have HEA := hide (fun c (hc : Blk c) v => each_c bkT_length bk_lt hc v)
  have HMO : Hid (∀ c, Blk c → ∀ v, Calls Try.prog 28 #[.agg (u8s c).toArray, .int .i64 3] v fun e w' => e = .returned (.agg (u8s (movL 3 c)).toArray) ∧ Below v.heap.size v w') := fun c hc v => moved_c (b := c) 3 (by omega) hc v
  have HMI : Hid (∀ c, Blk c → ∀ v, Calls Try.prog 30 #[.agg (u8s c).toArray, .agg #[.int .u8 14, .int .u8 11, .int .u8 13, .int .u8 9]] v fun e w' => e = .returned (.agg (u8s (mixL [14, 11, 13, 9] c)).toArray) ∧ Below v.heap.size v w') := fun c hc v => mixed_c (b := c) (fs := [14, 11, 13, 9]) rfl (fun i => getD_lt (by decide) (by omega) i) hc v
  have EB := hide (eachL_blk bk_lt)
  have HS1 : Hid (∀ k j, j + k = 10 → j < 10 → shF f b (k + 1) = eachL bkT (movL 3 (mixL [14, 11, 13, 9] (addL (shF f b k) (f j))))) := fun k j hj h => by
    have e : j = 10 - k := by omega
    subst e
    rw [shF, if_pos h]
  have HS2 : Hid (∀ k j, j + k = 10 → ¬ j < 10 → shF f b (k + 1) = eachL bkT (movL 3 (addL (shF f b k) (f j)))) := fun k j hj h => by
    have e : j = 10 - k := by omega
    subst e
    rw [shF, if_neg h]
  have HBB := hide (shF_blk (f := f) hb)
  have IS : Hid ((Try.prog.info? 30).map (·.size) = some (u8s swT).toArray.size) := by show _ = _; rw [info256]; simp [u8s, swT_length]
  have IS2 : Hid ((u8s z256).toArray.size = (u8s swT).toArray.size) := by show _ = _; simp [u8s, swT_length, z256]
  have OS := hide (one_u8s swT)
  have IB : Hid ((Try.prog.info? 30).map (·.size) = some (u8s bkT).toArray.size) := by show _ = _; rw [info256]; simp [u8s, bkT_length]
  have IB2 : Hid ((u8s z256).toArray.size = (u8s bkT).toArray.size) := by show _ = _; simp [u8s, bkT_length, z256]
  have IBL : Hid ((Try.prog.info? 30).map (·.size) = some (u8s bkT).length) := by show _ = _; rw [info256, u8s_length, bkT_length]
  have OB := hide (one_u8s bkT)
  have T1 : Hid ((Try.prog.info? 27).map (·.size) = some (u8s L).toArray.size) := by show _ = _; rw [info176]; simp [u8s, lL]
  have T2 : Hid ((u8s z176).toArray.size = (u8s L).toArray.size) := by show _ = _; simp [u8s, lL, z176]
  have OL := hide (one_u8s L)
  have ZZ : Hid (Blk z16) := ⟨rfl, fun i => getD_lt (by decide) (by omega) i⟩
  have Z1 := zero256
  have Z2 := zero176
  have H3 := hide (St3.start w 26 key b)
  clear lL hL hf hk hb hT
  generalize swT = SW at *
  generalize bkT = BK at *
  go_enter Try.func21, Try.ntmps21
  go_wp2_with fail
  refine (HSW.out _).mono ?_
  rintro e wa ⟨rfl, hba⟩
  have Ha := hide (H3.out.kept hba)
  clear hba H3
  go_wp2_with (first
    | (refine wpList_store_row rfl 30 _ _ rfl wa.heap.size (u8s SW).toArray rfl rfl 30 _ (Arr.new wa _ (u8s z256)) IS.out IS2.out OS.out ?_
       have hlt : w.heap.size + 1 + 1 < wa.heap.size := Ha.out.2.2.1.lt
       have Hb := hide ((Ha.out.more (Obj.cells (u8s z256).toArray 30)).row wa.heap.size (u8s SW).toArray hlt (by simp))
       have Gb : Hid (Arr ((wa.alloc (Obj.cells (u8s z256).toArray 30)).setRow wa.heap.size (u8s SW).toArray) wa.heap.size 30 (u8s SW)) := (Arr.new wa _ (u8s z256)).row _
       generalize (wa.alloc (Obj.cells (u8s z256).toArray 30)).setRow wa.heap.size (u8s SW).toArray = wb at *
       generalize hg1 : wa.heap.size = g1 at *
       clear hg1 Ha)
    | (refine wpList_load_row rfl 30 _ rfl g1 rfl 30 _ (0, 0) _ Gb.out Try.underlying30 rfl IS.out ?_))
  refine (HUN.out _).mono ?_
  rintro e wu ⟨rfl, hbu⟩
  have Hu := hide (Hb.out.kept hbu)
  have Gu := hide (Gb.out.kept hbu)
  clear hbu Hb Gb
  go_wp2_with (first
    | (refine wpList_store_row rfl 30 _ _ rfl wu.heap.size (u8s BK).toArray rfl rfl 30 _ (Arr.new wu _ (u8s z256)) IB.out IB2.out OB.out ?_
       have hltu : g1 < wu.heap.size := Gu.out.lt
       have Hc := hide ((Hu.out.more (Obj.cells (u8s z256).toArray 30)).row wu.heap.size (u8s BK).toArray (by omega) (by simp))
       have Gc : Hid (Arr ((wu.alloc (Obj.cells (u8s z256).toArray 30)).setRow wu.heap.size (u8s BK).toArray) g1 30 (u8s SW)) := (Gu.out.alloc _).rowOther _ _ (by omega)
       have Kc : Hid (Arr ((wu.alloc (Obj.cells (u8s z256).toArray 30)).setRow wu.heap.size (u8s BK).toArray) wu.heap.size 30 (u8s BK)) := (Arr.new wu _ (u8s z256)).row _
       generalize (wu.alloc (Obj.cells (u8s z256).toArray 30)).setRow wu.heap.size (u8s BK).toArray = wc at *
       generalize hg3 : wu.heap.size = g3 at *
       clear hg3 Hu Gu)
    | (refine wpList_load_row rfl 26 _ rfl w.heap.size rfl 26 _ (0, 0) _ Hc.out.1 Try.underlying26 rfl (szb HK.out) ?_)
    | (refine wpList_load_row rfl 30 _ rfl g1 rfl 30 _ (0, 0) _ Gc.out Try.underlying30 rfl IS.out ?_))
  refine (HRD.out _).mono ?_
  rintro e wd ⟨rfl, hbd⟩
  have Hd := hide (Hc.out.kept hbd)
  have Gd := hide (Gc.out.kept hbd)
  have Kd := hide (Kc.out.kept hbd)
  clear hbd Hc Gc Kc
  go_wp2_with
    (refine wpList_store_row rfl 27 _ _ rfl wd.heap.size (u8s L).toArray rfl rfl 27 _ (Arr.new wd _ (u8s z176)) T1.out T2.out OL.out ?_
     have hlt2 : g1 < wd.heap.size := Gd.out.lt
     have hlt3 : g3 < wd.heap.size := Kd.out.lt
     have He : Hid (StS w ((wd.alloc (Obj.cells (u8s z176).toArray 27)).setRow wd.heap.size (u8s L).toArray) g1 wd.heap.size g3 key b SW L BK) := ⟨⟨(Hd.out.more _).row _ _ (by omega) (by simp), (Gd.out.alloc _).rowOther _ _ (by omega), (Arr.new wd _ (u8s z176)).row _, hlt, hlt2⟩, (Kd.out.alloc _).rowOther _ _ (by omega), by omega⟩
     generalize (wd.alloc (Obj.cells (u8s z176).toArray 27)).setRow wd.heap.size (u8s L).toArray = we at *
     generalize hg2 : wd.heap.size = g2 at *
     clear hg2 Hd Gd Kd)
  go_loopg [8] 12 (fun f0 s8 wr => ∃ (k j : Nat), s8 = .int .i64 j ∧ j + k = 10 ∧ 10 - k < f0 ∧ Hid (StS w wr g1 g2 g3 key (shF f b k) SW L BK))
  case atStart => exact ⟨0, 10, rfl, by omega, by omega, He⟩
  case round =>
    clear He
    obtain ⟨k, j, rfl, hjk, hf, HR⟩ := hrel
    have RG : Hid (∀ (v : World) (c : List Nat), StS w v g1 g2 g3 key c SW L BK → v.rangeAt g2 (j * 16) (u8s (f j))) := fun v c h => StH.range (f := f) (by rw [← HL.out]; exact h.st) (fun j => (FB.out j).len) j (by omega)
    by_cases hlt10 : 0 < j
    · have m4 : (j : Int) < 11 := by omega
      have m5 : (0 : Int) < (j : Int) := by omega
      have BF := hide (FB.out j)
      have B0 := hide (HBB.out k)
      have B1 := hide (B0.out.add BF.out)
      have B2 := hide (B1.out.mix [14, 11, 13, 9])
      have B3 := hide (B2.out.mov 3)
      have B3' := hide (B1.out.mov 3)
      have BJ := hide (HBB.out (k + 1))
      have S1 := hide (HS1.out k j hjk)
      have S2 := hide (HS2.out k j hjk)
      have CA := hide (HSU.out (shF f b k) (f j) B0.out BF.out)
      have CX := hide (HMI.out (addL (shF f b k) (f j)) B1.out)
      have CM := hide (HMO.out (mixL [14, 11, 13, 9] (addL (shF f b k) (f j))) B2.out)
      have CM' := hide (HMO.out (addL (shF f b k) (f j)) B1.out)
      have CE := hide (HEA.out (movL 3 (mixL [14, 11, 13, 9] (addL (shF f b k) (f j)))) B3.out)
      have CE' := hide (HEA.out (movL 3 (addL (shF f b k) (f j))) B3'.out)
      clear HEA HMO HMI HSU HSW HUN HRD HS1 HS2 HBB EB
      have HJ := hide hjk
      clear hjk
      generalize shF f b k = B at *
      generalize addL B (f j) = A at *
      generalize movL 3 A = N at *
      generalize mixL [14, 11, 13, 9] A = X at *
      generalize movL 3 X = M at *
      have IF := hide (szl BF.out)
      go_wp2_with fail
      refine wp_region_held_drew (S := fun w' => Hid (w'.rangeAt g2 (j * 16) (u8s (f j)))) (by kernel_rfl) (hide (RG.out _ _ HR.out.drew)) (fun hHeld => ?_)
      refine take_dstH (i := 1) (d := 20) (v := ?_) rfl rfl (by kernel_rfl) (by kernel_rfl) (by kernel_rfl) (fun _ _ _ h => h) (by rfl) hHeld ?_ ?_
      rotate_left
      · intro wZ hSw; clear hSw; go_simp; first | (with_reducible rfl) | (rw [if_pos (by omega)]; with_reducible rfl) | skip
      try simp only [Act.put, List.setIfInBounds_toArray, List.set_cons_zero, List.set_cons_succ]
      refine take_dstH (i := 2) (d := 21) (v := ?_) rfl rfl (by kernel_rfl) (by kernel_rfl) (by kernel_rfl) (fun _ _ _ h => h) (by rfl) hHeld ?_ ?_
      rotate_left
      · intro wZ hSw; clear hSw; go_simp; first | (with_reducible rfl) | (rw [if_pos (by omega)]; with_reducible rfl) | skip
      try simp only [Act.put, List.setIfInBounds_toArray, List.set_cons_zero, List.set_cons_succ]
      refine take_dstH (i := 3) (d := 22) (v := ?_) rfl rfl (by kernel_rfl) (by kernel_rfl) (by kernel_rfl) (fun _ _ _ h => h) (by rfl) hHeld ?_ ?_
      rotate_left
      · intro wZ hSw; refine exec_load_mid 26 (.tmp 21) ?_ g2 (j * 16) ?_ (u8s (f j)) _ hSw.out Try.underlying26 rfl IF.out <;> rfl
      try simp only [Act.put, List.setIfInBounds_toArray, List.set_cons_zero, List.set_cons_succ]
      refine wpAnyH_ready (rs := [0]) (by kernel_rfl) (by simp) ?_
      refine (AllReadyH.cons rfl (fun K hK => ?_) AllReadyH.nil)
      refine wp_load_dst rfl 26 (.tmp 3) rfl (w.heap.size + 1) rfl 26 _ (0, 0) _ HR.out.st.st.2.1 Try.underlying26 rfl (szb B0.out) ?_
      refine hK.out _ _ ?_ (fun hHeld => ?_)
      · exact hHeld
      clear hK K
      try simp only [Act.put, List.setIfInBounds_toArray, List.set_cons_zero, List.set_cons_succ]
      refine wpAnyH_ready (rs := [4]) (by kernel_rfl) (by simp) ?_
      refine (AllReadyH.cons rfl (fun K hK => ?_) AllReadyH.nil)
      go_simp
      refine (CA.out _).mono ?_; rintro e w1 ⟨rfl, hb1⟩; have H1 := hide (HR.out.drew.kept hb1); clear hb1
      go_wp2_with fail
      refine hK.out _ _ ?_ (fun hHeld => ?_)
      · exact hide (RG.out _ _ H1.out)
      clear hK K
      try simp only [Act.put, List.setIfInBounds_toArray, List.set_cons_zero, List.set_cons_succ]
      refine wpAnyH_ready (rs := [5]) (by kernel_rfl) (by simp) ?_
      refine (AllReadyH.cons rfl (fun K hK => ?_) AllReadyH.nil)
      refine wp_store_dst rfl 26 (.tmp 3) (.tmp 23) rfl (w.heap.size + 1) _ rfl rfl 26 _ H1.out.st.st.2.1 (szb B1.out) (szz B0.out B1.out) (one_u8s _) ?_; have H2 := hide (H1.out.put A)
      refine hK.out _ _ ?_ (fun hHeld => ?_)
      · exact hide (RG.out _ _ H2.out)
      clear hK K
      try simp only [Act.put, List.setIfInBounds_toArray, List.set_cons_zero, List.set_cons_succ]
      refine wpAnyH_done (by kernel_rfl) ?_ _
      clear hHeld H1 HR
      generalize w1.setRow (w.heap.size + 1) (u8s A).toArray = w2 at *
      by_cases hj10 : j < 10
      · have i10 : (j : Int) < 10 := by omega
        have HV := hide (S1.out hj10)
        rw [← HV.out] at CE
        clear S1 S2 CE' CM' B3'
        go_wp2_with (refine wpList_load_row rfl 26 _ rfl (w.heap.size + 1) rfl 26 _ (0, 0) _ H2.out.st.st.2.1 Try.underlying26 rfl (szb B1.out) ?_)
        refine (CX.out _).mono ?_
        rintro e w3 ⟨rfl, hb3⟩
        have H3 := hide (H2.out.kept hb3)
        clear hb3 H2
        go_wp2_with (refine wpList_store_row rfl 26 _ _ rfl (w.heap.size + 1) (u8s X).toArray rfl rfl 26 _ H3.out.st.st.2.1 (szb B2.out) (szz B1.out B2.out) (one_u8s _) ?_; have H4 := hide (H3.out.put X); generalize w3.setRow (w.heap.size + 1) (u8s X).toArray = w4 at *; clear H3)
        refine wp_region_held_drew (S := fun w' => Hid (Arr w' g3 30 (u8s BK))) (by kernel_rfl) (hide H4.out.bk) (fun hHeld => ?_)
        refine take_dstH (i := 2) (d := 31) (v := ?_) rfl rfl (by kernel_rfl) (by kernel_rfl) (by kernel_rfl) (fun _ _ _ h => h) (by rfl) hHeld ?_ ?_
        rotate_left
        · intro wZ hSw; refine exec_load_all 30 (.tmp 6) ?_ g3 ?_ 30 (u8s BK) _ hSw.out Try.underlying30 rfl IBL.out <;> rfl
        try simp only [Act.put, List.setIfInBounds_toArray, List.set_cons_zero, List.set_cons_succ]
        refine wpAnyH_ready (rs := [0]) (by kernel_rfl) (by simp) ?_
        refine (AllReadyH.cons rfl (fun K hK => ?_) AllReadyH.nil)
        refine wp_load_dst rfl 26 (.tmp 3) rfl (w.heap.size + 1) rfl 26 _ (0, 0) _ H4.out.st.st.2.1 Try.underlying26 rfl (szb B2.out) ?_
        refine hK.out _ _ ?_ (fun hHeld => ?_)
        · exact hHeld
        clear hK K
        try simp only [Act.put, List.setIfInBounds_toArray, List.set_cons_zero, List.set_cons_succ]
        refine wpAnyH_ready (rs := [1]) (by kernel_rfl) (by simp) ?_
        refine (AllReadyH.cons rfl (fun K hK => ?_) AllReadyH.nil)
        go_simp
        refine (CM.out _).mono ?_; rintro e w5 ⟨rfl, hb5⟩; have H5 := hide (H4.out.drew.kept hb5); clear hb5
        go_wp2_with fail
        refine hK.out _ _ ?_ (fun hHeld => ?_)
        · exact hide H5.out.bk
        clear hK K
        try simp only [Act.put, List.setIfInBounds_toArray, List.set_cons_zero, List.set_cons_succ]
        refine wpAnyH_ready (rs := [3]) (by kernel_rfl) (by simp) ?_
        refine (AllReadyH.cons rfl (fun K hK => ?_) AllReadyH.nil)
        go_simp
        refine (CE.out _).mono ?_; rintro e w6 ⟨rfl, hb6⟩; have H6 := hide (H5.out.kept hb6); clear hb6
        go_wp2_with fail
        refine hK.out _ _ ?_ (fun hHeld => ?_)
        · exact hide H6.out.bk
        clear hK K
        try simp only [Act.put, List.setIfInBounds_toArray, List.set_cons_zero, List.set_cons_succ]
        refine wpAnyH_ready (rs := [4]) (by kernel_rfl) (by simp) ?_
        refine (AllReadyH.cons rfl (fun K hK => ?_) AllReadyH.nil)
        refine wp_store_dst rfl 26 (.tmp 3) (.tmp 32) rfl (w.heap.size + 1) _ rfl rfl 26 _ H6.out.st.st.2.1 (szb BJ.out) (szz B2.out BJ.out) (one_u8s _) ?_; have H7 := hide (H6.out.put (shF f b (k + 1)))
        refine hK.out _ _ ?_ (fun hHeld => ?_)
        · exact hide H7.out.bk
        clear hK K
        try simp only [Act.put, List.setIfInBounds_toArray, List.set_cons_zero, List.set_cons_succ]
        refine wpAnyH_done (by kernel_rfl) ?_ _
        clear hHeld
        go_wp2
        go_roundg (10 - k)
        case measure =>
          have hjk := HJ.out
          omega
        case rel =>
          have hjk := HJ.out
          exact ⟨k + 1, j - 1, by go_num, by omega, by omega, H7⟩
      · have i10 : ¬ (j : Int) < 10 := by omega
        have HV := hide (S2.out hj10)
        rw [← HV.out] at CE'
        clear S1 S2 CE CM CX B3
        go_wp2_with fail
        refine wp_region_held_drew (S := fun w' => Hid (Arr w' g3 30 (u8s BK))) (by kernel_rfl) (hide H2.out.bk) (fun hHeld => ?_)
        refine take_dstH (i := 2) (d := 31) (v := ?_) rfl rfl (by kernel_rfl) (by kernel_rfl) (by kernel_rfl) (fun _ _ _ h => h) (by rfl) hHeld ?_ ?_
        rotate_left
        · intro wZ hSw; refine exec_load_all 30 (.tmp 6) ?_ g3 ?_ 30 (u8s BK) _ hSw.out Try.underlying30 rfl IBL.out <;> rfl
        try simp only [Act.put, List.setIfInBounds_toArray, List.set_cons_zero, List.set_cons_succ]
        refine wpAnyH_ready (rs := [0]) (by kernel_rfl) (by simp) ?_
        refine (AllReadyH.cons rfl (fun K hK => ?_) AllReadyH.nil)
        refine wp_load_dst rfl 26 (.tmp 3) rfl (w.heap.size + 1) rfl 26 _ (0, 0) _ H2.out.st.st.2.1 Try.underlying26 rfl (szb B1.out) ?_
        refine hK.out _ _ ?_ (fun hHeld => ?_)
        · exact hHeld
        clear hK K
        try simp only [Act.put, List.setIfInBounds_toArray, List.set_cons_zero, List.set_cons_succ]
        refine wpAnyH_ready (rs := [1]) (by kernel_rfl) (by simp) ?_
        refine (AllReadyH.cons rfl (fun K hK => ?_) AllReadyH.nil)
        go_simp
        refine (CM'.out _).mono ?_; rintro e w5 ⟨rfl, hb5⟩; have H5 := hide (H2.out.drew.kept hb5); clear hb5
        go_wp2_with fail
        refine hK.out _ _ ?_ (fun hHeld => ?_)
        · exact hide H5.out.bk
        clear hK K
        try simp only [Act.put, List.setIfInBounds_toArray, List.set_cons_zero, List.set_cons_succ]
        refine wpAnyH_ready (rs := [3]) (by kernel_rfl) (by simp) ?_
        refine (AllReadyH.cons rfl (fun K hK => ?_) AllReadyH.nil)
        go_simp
        refine (CE'.out _).mono ?_; rintro e w6 ⟨rfl, hb6⟩; have H6 := hide (H5.out.kept hb6); clear hb6
        go_wp2_with fail
        refine hK.out _ _ ?_ (fun hHeld => ?_)
        · exact hide H6.out.bk
        clear hK K
        try simp only [Act.put, List.setIfInBounds_toArray, List.set_cons_zero, List.set_cons_succ]
        refine wpAnyH_ready (rs := [4]) (by kernel_rfl) (by simp) ?_
        refine (AllReadyH.cons rfl (fun K hK => ?_) AllReadyH.nil)
        refine wp_store_dst rfl 26 (.tmp 3) (.tmp 32) rfl (w.heap.size + 1) _ rfl rfl 26 _ H6.out.st.st.2.1 (szb BJ.out) (szz B1.out BJ.out) (one_u8s _) ?_; have H7 := hide (H6.out.put (shF f b (k + 1)))
        refine hK.out _ _ ?_ (fun hHeld => ?_)
        · exact hide H7.out.bk
        clear hK K
        try simp only [Act.put, List.setIfInBounds_toArray, List.set_cons_zero, List.set_cons_succ]
        refine wpAnyH_done (by kernel_rfl) ?_ _
        clear hHeld
        go_wp2
        go_roundg (10 - k)
        case measure =>
          have hjk := HJ.out
          omega
        case rel =>
          have hjk := HJ.out
          exact ⟨k + 1, j - 1, by go_num, by omega, by omega, H7⟩
    · have e : j = 0 := by omega
      subst e
      have e : k = 10 := by omega
      subst e
      have B0 := hide (HBB.out 10)
      have CA := hide (HSU.out (shF f b 10) (f 0) B0.out (FB.out 0))
      have BT := hide (B0.out.add (FB.out 0))
      rw [← HT.out] at CA BT
      have R0 := hide (RG.out _ _ HR.out)
      clear HEA HMO HMI HSU HSW HUN HRD HS1 HS2 HBB EB HT RG hjk
      generalize shF f b 10 = B at *
      have IF := hide (szl (FB.out 0))
      go_wp2_with (first
        | (refine wpList_load_row rfl 26 _ rfl (w.heap.size + 1) rfl 26 _ (0, 0) _ HR.out.st.st.2.1 Try.underlying26 rfl (szb B0.out) ?_)
        | (refine wpList_load_mid rfl 26 _ rfl g2 (0 * 16) rfl (u8s (f 0)) _ R0.out Try.underlying26 rfl IF.out ?_))
      refine (CA.out _).mono ?_
      rintro e wz ⟨rfl, hbz⟩
      have HZ := hide (HR.out.kept hbz)
      have K2 := hide HZ.out.st.st.2.2.1
      have KB := hide HZ.out.st.st.2.2.2
      clear HR HZ hbz R0
      go_wp2_with (refine wpList_store_row rfl 26 _ _ rfl (w.heap.size + 1 + 1) _ rfl rfl 26 _ K2.out (szb BT.out) (szz ZZ.out BT.out) (one_u8s _) ?_)
      exact bodyPost_ret (v := .agg (u8s T).toArray) (results_cell_row Try.results21 _ _ (w.heap.size + 1 + 1) 26 _ (0, 0) _ rfl (K2.out.row _) Try.underlying26 rfl (szb BT.out)) rfl ⟨rfl, below_setRow KB.out (by omega) K2.out.lt _⟩

end Go.Proofs.Ytkafnkofanocpaa
