/-
  Several texts, joined: LF, LH.
-/
import Derived.Test.YtbmjlofehbbkbaaDoorJQ
import Derived.Test.YtbmjlofehbbkbaaDoorJF

/- Walks: Open and Peek of the program. -/
namespace Go.Proofs.YtbmjlofehbbkbaaDoor
open Go.RowKit

/-- a packet's parts, by how long its text is -/
abbrev pkC (x : Nat) (p : Option Addr) (k : Nat) : List Value := [.int .u64 (x : Int), .slice p (k + 8) (k + 8), .slice (cutP p 8 (k + 8)) k k, .slice (cutP p (k + 8) (k + 24)) 16 16]
theorem paC_pk (x : Nat) (p : Option Addr) (k : Nat) : paC x p (k + 24) = pkC x p k := by
  have e1 : k + 24 - 16 = k + 8 := by omega
  have e2 : k + 8 - 8 = k := by omega
  have e3 : k + 24 - (k + 8) = 16 := by omega
  rw [paC, e1, e2, e3]
theorem pkA {w : World} {p : Option Addr} {c k : Nat} {b : List Nat} (h : Piece w p c b) (hn : b.length = k + 24) : Piece w p (k + 8) (paA b) := by
  have hc := h.2.2.2.1
  have hm := h.2.2.2.2
  have e : b.length - 16 = k + 8 := by omega
  refine (h.take (b.length - 16)).cap (by rw [List.length_take]; omega) (by omega) (h.some (by omega))
theorem paA_length {b : List Nat} {k : Nat} (hn : b.length = k + 24) : (paA b).length = k + 8 := by rw [paA, List.length_take]; omega
theorem paH_length {b : List Nat} {k : Nat} (hn : b.length = k + 24) : (paH b).length = k := by rw [paH, List.length_drop, paA_length hn]; omega
theorem paT_length {b : List Nat} {k : Nat} (hn : b.length = k + 24) : (paT b).length = 16 := by rw [paT, List.length_drop]; omega
theorem paA_bytes {b : List Nat} (h : BytesN b) : BytesN (paA b) := fun x hx => h x (List.mem_of_mem_take hx)
theorem paH_bytes {b : List Nat} (h : BytesN b) : BytesN (paH b) := fun x hx => paA_bytes h x (List.mem_of_mem_drop hx)
theorem paT_bytes {b : List Nat} (h : BytesN b) : BytesN (paT b) := fun x hx => h x (List.mem_of_mem_drop hx)
theorem pkH {w : World} {p : Option Addr} {c k : Nat} {b : List Nat} (h : Piece w p c b) (hn : b.length = k + 24) : Piece w (cutP p 8 (k + 8)) k (paH b) := by
  have := (pkA h hn).from 8 (by rw [paA_length hn]; omega)
  rw [show k + 8 - 8 = k by omega] at this
  exact this
theorem pkT {w : World} {p : Option Addr} {c k : Nat} {b : List Nat} (h : Piece w p c b) (hn : b.length = k + 24) : Piece w (cutP p (k + 8) (k + 24)) 16 (paT b) := by
  have hc := h.2.2.2.1
  have hm := h.2.2.2.2
  have h1 : Piece w p (k + 24) b := h.cap (by omega) (by omega) (h.some (by omega))
  have := h1.from (k + 8) (by omega)
  rw [show k + 24 - (k + 8) = 16 by omega, show k + 8 = b.length - 16 by omega] at this
  rw [show k + 8 = b.length - 16 by omega]
  exact this

theorem one_noC (d : Bool) (m : Nat) : (noC d m).toArray.all (·.oneCell') = true := by simp [Value.oneCell']
theorem nonce_box (w : World) : Arr (w.alloc (Obj.cells #[Value.bool false, Value.int .u64 0] 41)) w.heap.size 41 (noC false 0) ∧ Below w.heap.size w (w.alloc (Obj.cells #[Value.bool false, Value.int .u64 0] 41)) := ⟨Arr.new w _ _, (Below.refl _ _).alloc (Nat.le_refl _) _⟩



set_option maxHeartbeats 4000000 in
set_option maxRecDepth 100000 in
theorem open_bad (code mark : List Nat) (p : Option Addr) (c n : Nat) (w : World) (h : n < 24 ∨ 1224 < n) :
    Calls Tryd.prog 9 #[keyV code mark, .slice p n c] w fun e w' => e = .returned (.tuple #[noV false 0, .slice none 0 0, .int .i64 4]) ∧ Below w.heap.size w w' := by
  have HC := hide (fun v : World => cut_bad p c n v h)
  clear h
  have A1 := hide (boxes w (kCells code mark) (noC false 0) 25 41)
  go_enter Tryd.func9, Tryd.ntmps9
  go_upto_region 1 with fail
  generalize (w.alloc (Obj.cells (kCells code mark).toArray 25)).alloc (Obj.cells #[Value.bool false, Value.int .u64 0] 41) = w1 at *
  go_cut [7, 8] (fun _ s8 wx => s8 = .int .i64 4 ∧ Hid (Arr wx (w.heap.size + 1) 41 (noC false 0) ∧ Below w.heap.size w wx))
  case first =>
    go_wp2_with fail
    refine (HC.out w1).mono ?_
    rintro e w2 ⟨rfl, hb2⟩
    have A2 : Hid (Arr w2 (w.heap.size + 1) 41 (noC false 0) ∧ Below w.heap.size w w2) := ⟨A1.out.2.1.kept hb2, A1.out.2.2.trans (hb2.mono A1.out.2.2.size)⟩
    clear hb2 A1 HC
    go_wp2
    go_meet
    case rel => exact ⟨rfl, A2.out.1.alloc _, A2.out.2.alloc A2.out.2.size _⟩
  case rest =>
    clear A1 HC
    obtain ⟨rfl, A2⟩ := hcut
    go_wp2_with (refine wpList_store_row rfl 41 _ _ rfl (w.heap.size + 1) (noC false 0).toArray rfl rfl 41 (noC false 0).toArray A2.out.1 infoN rfl (one_noC _ _) ?_)
    exact bodyPost_ret (results_ctt Tryd.results9 _ _ (w.heap.size + 1) (noC false 0) rfl (A2.out.1.row _) Tryd.underlying41 rfl infoN) rfl ⟨rfl, below_setRow A2.out.2 (Nat.le_succ _) A2.out.1.lt _⟩

/-- what lies in memory while a packet is opened -/
def OpS (w : World) (g X k : Nat) (p : Option Addr) (code mark : List Nat) (v : World) : Prop :=
  Arr v g 68 [.int .u64 (X : Int), .slice p (k + 8) (k + 8), .slice (cutP p 8 (k + 8)) k k, .slice (cutP p (k + 8) (k + 24)) 16 16] ∧ Arr v w.heap.size 25 (kCells code mark) ∧ (∃ d m, Arr v (w.heap.size + 1) 41 (noC d m)) ∧ Below w.heap.size w v
theorem OpS.kept {w : World} {g X k : Nat} {p : Option Addr} {code mark : List Nat} {v v' : World} (h : OpS w g X k p code mark v) (hb : Below v.heap.size v v') : OpS w g X k p code mark v' :=
  ⟨h.1.kept hb, h.2.1.kept hb, (by obtain ⟨d, m, hA⟩ := h.2.2.1; exact ⟨d, m, hA.kept hb⟩), h.2.2.2.trans (hb.mono h.2.2.2.size)⟩
theorem OpS.store {w : World} {g X k : Nat} {p : Option Addr} {code mark : List Nat} {v : World} (h : OpS w g X k p code mark v) (d : Bool) (m : Nat) : OpS w g X k p code mark (v.setRow (w.heap.size + 1) (noC d m).toArray) := by
  obtain ⟨d0, m0, hA⟩ := h.2.2.1
  exact ⟨h.1.rowOther _ _ (arr_ne h.1 hA (by decide)), h.2.1.rowOther _ _ (by omega), ⟨d, m, hA.row _⟩, below_setRow h.2.2.2 (Nat.le_succ _) hA.lt _⟩

theorem cut_cell {w : World} {g : Nat} {x k : Nat} {p : Option Addr} (h : Arr w g 68 (pkC x p k)) : w.cell? ⟨g, 0, none⟩ = some (.int .u64 (x : Int)) ∧ w.cell? ⟨g, 1, none⟩ = some (.slice p (k + 8) (k + 8)) ∧ w.cell? ⟨g, 2, none⟩ = some (.slice (cutP p 8 (k + 8)) k k) ∧ w.cell? ⟨g, 3, none⟩ = some (.slice (cutP p (k + 8) (k + 24)) 16 16) :=
  ⟨h.cell 0, h.cell 1, h.cell 2, h.cell 3⟩

set_option maxHeartbeats 8000000 in
set_option maxRecDepth 100000 in
theorem open_of (code mark : List Nat) (p : Option Addr) (c k X : Nat) (A H T G U : List Nat) (xd r : Bool) (xn : Nat) (w : World) (hk : IsKey code mark) (hPA : Piece w p (k + 8) A) (hPH : Piece w (cutP p 8 (k + 8)) k H) (hPT : Piece w (cutP p (k + 8) (k + 24)) 16 T) (hTl : T.length = 16) (hGl : G.length = 16) (hr : decide (T = G) = r)
    (hC : ∀ v : World, Below w.heap.size w v → Calls Tryd.prog 24 #[.slice p (k + 24) c] v fun e w' => e = .returned (.tuple #[.agg (pkC X p k).toArray, .int .i64 0]) ∧ Below v.heap.size v w')
    (hO : ∀ v : World, Calls Tryd.prog 27 #[.int .u64 (X : Int)] v fun e w' => e = .returned (noV xd xn) ∧ Below v.heap.size v w')
    (hTg : ∀ v : World, Below w.heap.size w v → Piece v p (k + 8) A → Calls Tryd.prog 26 #[keyV code mark, .slice p (k + 8) (k + 8)] v fun e w' => ∃ g, e = .returned (.slice (some ⟨g, 0, none⟩) 16 32) ∧ v.heap.size ≤ g ∧ Piece w' (some ⟨g, 0, none⟩) 32 G ∧ Below v.heap.size v w')
    (hTu : ∀ v : World, Piece v (cutP p 8 (k + 8)) k H → Calls Tryd.prog 28 #[.agg (u8s code).toArray, .int .u64 (X : Int), .slice (cutP p 8 (k + 8)) k k] v fun r w' => ∃ u, r = .returned u ∧ w'.ownsRow v.heap.size 5 1 u k (u8s U) ∧ Below v.heap.size v w') :
    Calls Tryd.prog 9 #[keyV code mark, .slice p (k + 24) c] w fun e w' => (if r then ∃ v, e = .returned (.tuple #[noV xd xn, v, .int .i64 0]) ∧ w'.ownsRow w.heap.size 5 1 v k (u8s U) else e = .returned (.tuple #[noV false 0, .slice none 0 0, .int .i64 60])) ∧ Below w.heap.size w w' := by
  have HC := hide hC
  have HO := hide hO
  have HTG := hide hTg
  have HTU := hide hTu
  have HPA := hide hPA
  have HPH := hide hPH
  have HPT := hide hPT
  have HK := hide hk
  have IK := hide hk.info
  have IC := hide (szb hk.c)
  have HSM := hide (fun (v : World) (q : Option Addr) (d : Nat) (h1 : Piece v (cutP p (k + 8) (k + 24)) 16 T) (h2 : Piece v q d G) => same_any (cutP p (k + 8) (k + 24)) q 16 d T G v h1 h2)
  rw [hTl, hGl, hr] at HSM
  have A1 := hide (boxes w (kCells code mark) (noC false 0) 25 41)
  clear hC hO hTg hTu hPA hPH hPT hk hr hTl hGl
  go_enter Tryd.func9, Tryd.ntmps9
  go_upto_region 1 with fail
  generalize (w.alloc (Obj.cells (kCells code mark).toArray 25)).alloc (Obj.cells #[Value.bool false, Value.int .u64 0] 41) = w1 at *
  go_cut [7, 8] (fun s7 s8 wx => s8 = .int .i64 0 ∧ ∃ g, s7 = .pointer (some ⟨g, 0, none⟩) ∧ Hid (Arr wx g 68 (pkC X p k) ∧ Arr wx w.heap.size 25 (kCells code mark) ∧ Arr wx (w.heap.size + 1) 41 (noC false 0) ∧ Below w.heap.size w wx))
  case first =>
    go_wp2_with fail
    refine (HC.out w1 A1.out.2.2).mono ?_
    rintro e w2 ⟨rfl, hb2⟩
    have A2 : Hid (Arr w2 w.heap.size 25 (kCells code mark) ∧ Arr w2 (w.heap.size + 1) 41 (noC false 0) ∧ Below w.heap.size w w2) := ⟨A1.out.1.kept hb2, A1.out.2.1.kept hb2, A1.out.2.2.trans (hb2.mono A1.out.2.2.size)⟩
    clear hb2 A1 HC
    go_wp2
    go_meet
    case rel => exact ⟨rfl, w2.heap.size, rfl, Arr.new w2 _ (pkC X p k), A2.out.1.alloc _, A2.out.2.1.alloc _, A2.out.2.2.alloc A2.out.2.2.size _⟩
  case rest =>
    clear A1 HC
    obtain ⟨rfl, g, rfl, H2⟩ := hcut
    have HB0 := hide (H2.out.2.2.2)
    have HPV : Hid (∀ v, Hid (Below wc.heap.size wc v) → Below w.heap.size w v) := fun v hb => HB0.out.trans (hb.out.mono HB0.out.size)
    have HK2 : Hid (∀ v, Hid (Below wc.heap.size wc v) → Arr v w.heap.size 25 (kCells code mark)) := fun v hb => H2.out.2.1.kept hb.out
    have HC1 : Hid (∀ v, Hid (Below wc.heap.size wc v) → v.cell? ⟨g, 1, none⟩ = some (.slice p (k + 8) (k + 8))) := fun v hb => (cut_cell (H2.out.1.kept hb.out)).2.1
    have HC3 : Hid (∀ v, Hid (Below wc.heap.size wc v) → v.cell? ⟨g, 3, none⟩ = some (.slice (cutP p (k + 8) (k + 24)) 16 16)) := fun v hb => (cut_cell (H2.out.1.kept hb.out)).2.2.2
    go_upto_region 4 with fail
    go_cut [25] (fun s25 wx => s25 = .bool (!r) ∧ Hid (Below wc.heap.size wc wx))
    case first =>
      refine wp_region_held_drew (S := fun v => Hid (Below wc.heap.size wc v)) (by kernel_rfl) (hide (Below.refl _ _).drew) (fun hHeld => ?_)
      refine take_dstH (i := 0) (d := 18) (v := ?_) rfl rfl (by kernel_rfl) (by kernel_rfl) (by kernel_rfl) (fun _ _ _ h => h) (by rfl) hHeld ?_ ?_
      rotate_left
      · intro wZ hSw; clear hSw; go_simp; first | (with_reducible rfl) | (rw [if_pos (by omega)]; with_reducible rfl) | skip
      try simp only [Act.put, List.setIfInBounds_toArray, List.set_cons_zero, List.set_cons_succ]
      refine take_dstH (i := 1) (d := 19) (v := ?_) rfl rfl (by kernel_rfl) (by kernel_rfl) (by kernel_rfl) (fun _ _ _ h => h) (by rfl) hHeld ?_ ?_
      rotate_left
      · intro wZ hSw; have hfS := HC3.out wZ hSw; clear hSw; go_simp; first | (with_reducible rfl) | (rw [if_pos (by omega)]; with_reducible rfl) | skip
      try simp only [Act.put, List.setIfInBounds_toArray, List.set_cons_zero, List.set_cons_succ]
      refine take_dstH (i := 2) (d := 20) (v := ?_) rfl rfl (by kernel_rfl) (by kernel_rfl) (by kernel_rfl) (fun _ _ _ h => h) (by rfl) hHeld ?_ ?_
      rotate_left
      · intro wZ hSw; refine exec_load_all 25 (.tmp 2) ?_ w.heap.size ?_ 25 (kCells code mark) _ (HK2.out wZ hSw) Tryd.underlying25 rfl IK.out <;> rfl
      try simp only [Act.put, List.setIfInBounds_toArray, List.set_cons_zero, List.set_cons_succ]
      refine take_dstH (i := 3) (d := 21) (v := ?_) rfl rfl (by kernel_rfl) (by kernel_rfl) (by kernel_rfl) (fun _ _ _ h => h) (by rfl) hHeld ?_ ?_
      rotate_left
      · intro wZ hSw; clear hSw; go_simp; first | (with_reducible rfl) | (rw [if_pos (by omega)]; with_reducible rfl) | skip
      try simp only [Act.put, List.setIfInBounds_toArray, List.set_cons_zero, List.set_cons_succ]
      refine take_dstH (i := 4) (d := 22) (v := ?_) rfl rfl (by kernel_rfl) (by kernel_rfl) (by kernel_rfl) (fun _ _ _ h => h) (by rfl) hHeld ?_ ?_
      rotate_left
      · intro wZ hSw; have hfS := HC1.out wZ hSw; clear hSw; go_simp; first | (with_reducible rfl) | (rw [if_pos (by omega)]; with_reducible rfl) | skip
      try simp only [Act.put, List.setIfInBounds_toArray, List.set_cons_zero, List.set_cons_succ]
      refine wpAnyH_ready (rs := [5]) (by kernel_rfl) (by simp) ?_
      refine (AllReadyH.cons rfl (fun K hK => ?_) AllReadyH.nil)
      go_simp
      refine (HTG.out _ (HPV.out _ hHeld) (HPA.out.kept (HPV.out _ hHeld))).mono ?_; rintro e wa ⟨gt, rfl, hgs, hpg, hba⟩; have PG := hide hpg; have HBa : Hid (Below wc.heap.size wc wa) := (Hid.out hHeld).trans (hba.mono (Hid.out hHeld).size); clear hba hgs hpg
      go_wp2_with fail
      refine hK.out _ _ ?_ (fun hHeld => ?_)
      · exact HBa
      clear hK K
      try simp only [Act.put, List.setIfInBounds_toArray, List.set_cons_zero, List.set_cons_succ]
      refine wpAnyH_ready (rs := [6]) (by kernel_rfl) (by simp) ?_
      refine (AllReadyH.cons rfl (fun K hK => ?_) AllReadyH.nil)
      go_simp
      refine (HSM.out _ _ _ (HPT.out.kept (HPV.out _ hHeld)) PG.out).mono ?_; rintro e wb ⟨rfl, hbb⟩; have HBb : Hid (Below wc.heap.size wc wb) := (Hid.out hHeld).trans (hbb.mono (Hid.out hHeld).size); clear hbb
      go_wp2_with fail
      refine hK.out _ _ ?_ (fun hHeld => ?_)
      · exact HBb
      clear hK K
      try simp only [Act.put, List.setIfInBounds_toArray, List.set_cons_zero, List.set_cons_succ]
      refine take_dstH (i := 7) (d := 25) (v := ?_) rfl rfl (by kernel_rfl) (by kernel_rfl) (by kernel_rfl) (fun _ _ _ h => h) (by rfl) hHeld ?_ ?_
      rotate_left
      · intro wZ hSw; clear hSw; go_simp; first | (with_reducible rfl) | (rw [if_pos (by omega)]; with_reducible rfl) | skip
      try simp only [Act.put, List.setIfInBounds_toArray, List.set_cons_zero, List.set_cons_succ]
      refine wpAnyH_done (by kernel_rfl) ?_ _
      go_wp2_with fail
      go_meet
      case rel => exact ⟨rfl, HBb⟩
    case rest =>
      obtain ⟨rfl, HBW⟩ := hcut
      have hpc := hide (H2.out.1.kept HBW.out)
      have hkc := hide (H2.out.2.1.kept HBW.out)
      have hnc := hide (H2.out.2.2.1.kept HBW.out)
      have hbw := hide (H2.out.2.2.2.trans (HBW.out.mono H2.out.2.2.2.size))
      clear HTG HSM HPV HK2 HC1 HC3 HB0 H2 HBW
      cases r
      · go_wp2_with (refine wpList_store_row rfl 41 _ _ rfl (w.heap.size + 1) (noC false 0).toArray rfl rfl 41 (noC false 0).toArray hnc.out infoN rfl (one_noC _ _) ?_)
        exact bodyPost_ret (results_ctt Tryd.results9 _ _ (w.heap.size + 1) (noC false 0) rfl (hnc.out.row _) Tryd.underlying41 rfl infoN) rfl ⟨rfl, below_setRow hbw.out (Nat.le_succ _) hnc.out.lt _⟩
      · have HS0 : Hid (OpS w g X k p code mark wc) := ⟨hpc.out, hkc.out, ⟨_, _, hnc.out⟩, hbw.out⟩
        have HC0 : Hid (∀ v, Hid (OpS w g X k p code mark v) → v.cell? ⟨g, 0, none⟩ = some (.int .u64 (X : Int))) := fun v hb => (cut_cell hb.out.1).1
        have HC2 : Hid (∀ v, Hid (OpS w g X k p code mark v) → v.cell? ⟨g, 2, none⟩ = some (.slice (cutP p 8 (k + 8)) k k)) := fun v hb => (cut_cell hb.out.1).2.2.1
        have HCD : Hid (∀ v, Hid (OpS w g X k p code mark v) → v.rangeAt w.heap.size 0 (u8s code)) := fun v hb => key_code HK.out hb.out.2.1
        clear hpc hkc hnc hbw
        go_upto_region 6 with fail
        refine wp_region_held_drew (S := fun v => Hid (OpS w g X k p code mark v)) (by kernel_rfl) (hide (show OpS w g X k p code mark wc.drew from ⟨HS0.out.1, HS0.out.2.1, HS0.out.2.2.1, HS0.out.2.2.2.drew⟩)) (fun hHeld => ?_)
        refine take_dstH (i := 0) (d := 27) (v := ?_) rfl rfl (by kernel_rfl) (by kernel_rfl) (by kernel_rfl) (fun _ _ _ h => h) (by rfl) hHeld ?_ ?_
        rotate_left
        · intro wZ hSw; clear hSw; go_simp; first | (with_reducible rfl) | (rw [if_pos (by omega)]; with_reducible rfl) | skip
        try simp only [Act.put, List.setIfInBounds_toArray, List.set_cons_zero, List.set_cons_succ]
        refine take_dstH (i := 1) (d := 28) (v := ?_) rfl rfl (by kernel_rfl) (by kernel_rfl) (by kernel_rfl) (fun _ _ _ h => h) (by rfl) hHeld ?_ ?_
        rotate_left
        · intro wZ hSw; have hfS := HC0.out wZ hSw; clear hSw; go_simp; first | (with_reducible rfl) | (rw [if_pos (by omega)]; with_reducible rfl) | skip
        try simp only [Act.put, List.setIfInBounds_toArray, List.set_cons_zero, List.set_cons_succ]
        refine take_dstH (i := 3) (d := 30) (v := ?_) rfl rfl (by kernel_rfl) (by kernel_rfl) (by kernel_rfl) (fun _ _ _ h => h) (by rfl) hHeld ?_ ?_
        rotate_left
        · intro wZ hSw; clear hSw; go_simp; first | (with_reducible rfl) | (rw [if_pos (by omega)]; with_reducible rfl) | skip
        try simp only [Act.put, List.setIfInBounds_toArray, List.set_cons_zero, List.set_cons_succ]
        refine take_dstH (i := 4) (d := 31) (v := ?_) rfl rfl (by kernel_rfl) (by kernel_rfl) (by kernel_rfl) (fun _ _ _ h => h) (by rfl) hHeld ?_ ?_
        rotate_left
        · intro wZ hSw; refine exec_load_mid 22 (.tmp 30) ?_ w.heap.size 0 ?_ (u8s code) _ (HCD.out wZ hSw) Tryd.underlying22 rfl IC.out <;> rfl
        try simp only [Act.put, List.setIfInBounds_toArray, List.set_cons_zero, List.set_cons_succ]
        refine take_dstH (i := 5) (d := 32) (v := ?_) rfl rfl (by kernel_rfl) (by kernel_rfl) (by kernel_rfl) (fun _ _ _ h => h) (by rfl) hHeld ?_ ?_
        rotate_left
        · intro wZ hSw; clear hSw; go_simp; first | (with_reducible rfl) | (rw [if_pos (by omega)]; with_reducible rfl) | skip
        try simp only [Act.put, List.setIfInBounds_toArray, List.set_cons_zero, List.set_cons_succ]
        refine take_dstH (i := 6) (d := 33) (v := ?_) rfl rfl (by kernel_rfl) (by kernel_rfl) (by kernel_rfl) (fun _ _ _ h => h) (by rfl) hHeld ?_ ?_
        rotate_left
        · intro wZ hSw; have hfS := HC0.out wZ hSw; clear hSw; go_simp; first | (with_reducible rfl) | (rw [if_pos (by omega)]; with_reducible rfl) | skip
        try simp only [Act.put, List.setIfInBounds_toArray, List.set_cons_zero, List.set_cons_succ]
        refine take_dstH (i := 7) (d := 34) (v := ?_) rfl rfl (by kernel_rfl) (by kernel_rfl) (by kernel_rfl) (fun _ _ _ h => h) (by rfl) hHeld ?_ ?_
        rotate_left
        · intro wZ hSw; clear hSw; go_simp; first | (with_reducible rfl) | (rw [if_pos (by omega)]; with_reducible rfl) | skip
        try simp only [Act.put, List.setIfInBounds_toArray, List.set_cons_zero, List.set_cons_succ]
        refine take_dstH (i := 8) (d := 35) (v := ?_) rfl rfl (by kernel_rfl) (by kernel_rfl) (by kernel_rfl) (fun _ _ _ h => h) (by rfl) hHeld ?_ ?_
        rotate_left
        · intro wZ hSw; have hfS := HC2.out wZ hSw; clear hSw; go_simp; first | (with_reducible rfl) | (rw [if_pos (by omega)]; with_reducible rfl) | skip
        try simp only [Act.put, List.setIfInBounds_toArray, List.set_cons_zero, List.set_cons_succ]
        refine wpAnyH_ready (rs := [2]) (by kernel_rfl) (by simp) ?_
        refine (AllReadyH.cons rfl (fun K hK => ?_) AllReadyH.nil)
        go_simp
        refine (HO.out _).mono ?_; rintro e wa ⟨rfl, hba⟩; have HSa : Hid (OpS w g X k p code mark wa) := (Hid.out hHeld).kept hba; clear hba
        go_wp2_with fail
        refine hK.out _ _ ?_ (fun hHeld => ?_)
        · exact HSa
        clear hK K
        try simp only [Act.put, List.setIfInBounds_toArray, List.set_cons_zero, List.set_cons_succ]
        refine wpAnyH_ready (rs := [9]) (by kernel_rfl) (by simp) ?_
        refine (AllReadyH.cons rfl (fun K hK => ?_) AllReadyH.nil)
        go_simp
        refine (HTU.out _ (HPH.out.kept (Hid.out hHeld).2.2.2)).mono ?_; rintro e wb ⟨u, rfl, hob, hbb⟩; have OB : Hid (wb.ownsRow w.heap.size 5 1 u k (u8s U)) := own_base hob (Hid.out hHeld).2.2.2.size; have HSb : Hid (OpS w g X k p code mark wb) := (Hid.out hHeld).kept hbb; clear hob hbb
        go_wp2_with fail
        refine hK.out _ _ ?_ (fun hHeld => ?_)
        · exact HSb
        clear hK K
        try simp only [Act.put, List.setIfInBounds_toArray, List.set_cons_zero, List.set_cons_succ]
        refine wpAnyH_ready (rs := [10]) (by kernel_rfl) (by simp) ?_
        refine (AllReadyH.cons rfl (fun K hK => ?_) AllReadyH.nil)
        obtain ⟨d0, m0, hA0⟩ := (Hid.out hHeld).2.2.1; have HN0 := hide hA0; clear hA0; refine wp_store_dst rfl 41 (.tmp 4) (.tmp 29) rfl (w.heap.size + 1) (noC xd xn).toArray rfl rfl 41 _ HN0.out infoN rfl (one_noC _ _) ?_
        refine hK.out _ _ ?_ (fun hHeld => ?_)
        · exact (Hid.out hHeld).store xd xn
        clear hK K
        try simp only [Act.put, List.setIfInBounds_toArray, List.set_cons_zero, List.set_cons_succ]
        refine take_dstH (i := 11) (d := 5) (v := ?_) rfl rfl (by kernel_rfl) (by kernel_rfl) (by kernel_rfl) (fun _ _ _ h => h) (by rfl) hHeld ?_ ?_
        rotate_left
        · intro wZ hSw; clear hSw; go_simp; first | (with_reducible rfl) | (rw [if_pos (by omega)]; with_reducible rfl) | skip
        try simp only [Act.put, List.setIfInBounds_toArray, List.set_cons_zero, List.set_cons_succ]
        refine take_dstH (i := 12) (d := 6) (v := ?_) rfl rfl (by kernel_rfl) (by kernel_rfl) (by kernel_rfl) (fun _ _ _ h => h) (by rfl) hHeld ?_ ?_
        rotate_left
        · intro wZ hSw; clear hSw; go_simp; first | (with_reducible rfl) | (rw [if_pos (by omega)]; with_reducible rfl) | skip
        try simp only [Act.put, List.setIfInBounds_toArray, List.set_cons_zero, List.set_cons_succ]
        refine wpAnyH_done (by kernel_rfl) ?_ _
        have AN := hide (HN0.out.row (noC xd xn).toArray)
        have OC : Hid ((wb.setRow (w.heap.size + 1) (noC xd xn).toArray).ownsRow w.heap.size 5 1 u k (u8s U)) := OB.out.kept (grown_row wb (w.heap.size + 1) _) (.inr (own_ne_arr OB.out HN0.out (by decide)))
        have BN := hide (Hid.out hHeld).2.2.2
        clear hHeld HSa HSb OB HN0 HS0 HC0 HC2 HCD HO HTU
        go_wp2
        exact bodyPost_ret (results_ctt Tryd.results9 _ _ (w.heap.size + 1) (noC xd xn) rfl AN.out Tryd.underlying41 rfl infoN) rfl ⟨⟨u, rfl, OC.out⟩, BN.out⟩

theorem open_ok (code mark : List Nat) (p : Option Addr) (c k : Nat) (b : List Nat) (w : World) (hk : IsKey code mark) (hP : Piece w p c b) (hn : b.length = k + 24) (hk2 : k ≤ 1200) (hL : Laid w) :
    Calls Tryd.prog 9 #[keyV code mark, .slice p (k + 24) c] w fun e w' => (if decide (paT b = tgF mark (paA b)) then ∃ v, e = .returned (.tuple #[noV (wD (rd8 b)) (wN (rd8 b)), v, .int .i64 0]) ∧ w'.ownsRow w.heap.size 5 1 v k (u8s (hiF code (rd8 b) (paH b))) else e = .returned (.tuple #[noV false 0, .slice none 0 0, .int .i64 60])) ∧ Below w.heap.size w w' := by
  have hL2 := hL.size
  refine open_of code mark p c k (rd8 b) (paA b) (paH b) (paT b) (tgF mark (paA b)) _ _ _ _ w hk (pkA hP hn) (pkH hP hn) (pkT hP hn) (paT_length hn) (tgF_length _ _) rfl
    (fun v hb => ?_) (fun v => of_no (rd8 b) v) (fun v hb hv => tag_any code mark p (k + 8) (k + 8) _ v hk hv (paA_length hn) (by omega) (hL.keptB (B := w.heap.size) hL2 hb)) (fun v hv => turn_any code (rd8 b) k _ _ _ v hk.c (rd8_lt hP.2.2.1) hv (paH_length hn) (by omega))
  have h := cut_ok p c (k + 24) b v (hP.kept hb) hn (by omega) (by omega)
  rw [paC_pk] at h
  exact h

end Go.Proofs.YtbmjlofehbbkbaaDoor

/- What was sealed is opened again; a walk: the known rows of layer 6. -/
namespace Go.Proofs.YtbmjlofehbbkbaaDoor
open Go.RowKit

theorem open_pa (code mark : List Nat) (d : Bool) (m : Nat) (p : Option Addr) (c n : Nat) (text : List Nat) (w : World) (hk : IsKey code mark) (hm : m < 9223372036854775808) (hP : Piece w p c (paF code mark (wdF d m) text)) (hn : text.length = n) (hn2 : n ≤ 1200) (hL : Laid w) :
    Calls Tryd.prog 9 #[keyV code mark, .slice p (n + 24) c] w fun e w' => ∃ v, e = .returned (.tuple #[noV d m, v, .int .i64 0]) ∧ w'.ownsRow w.heap.size 5 1 v n (u8s text) ∧ Below w.heap.size w w' := by
  have h := open_ok code mark p c n (paF code mark (wdF d m) text) w hk hP (by rw [paF_length, hn]) hn2 hL
  rw [paT_pa, paA_pa, paH_pa, rd8_pa code mark (wdF_lt hm), wD_wd hm, wN_wd hm, hiF_twice] at h
  simp only [decide_true, if_true] at h
  exact h.mono fun e w' ⟨⟨v, h1, h2⟩, h3⟩ => ⟨v, h1, h2, h3⟩

def kyC : List Nat := [1, 0, 0, 0, 0, 0, 0, 0, 0, 0, 0, 0, 0, 0, 0, 0]
def kyM : List Nat := [2, 0, 0, 0, 0, 0, 0, 0, 0, 0, 0, 0, 0, 0, 0, 0, 0, 0, 0, 0, 0, 0, 0, 0, 0, 0, 0, 0, 0, 0, 0, 0]
theorem kyK : IsKey kyC kyM := ⟨⟨rfl, fun i => getD_lt (by decide) (by omega) i⟩, rfl, (by intro x hx; simp only [kyM, List.mem_cons, List.not_mem_nil, or_false] at hx; omega)⟩
def abT : List Nat := [97, 98, 99]
theorem abT_bytes : BytesN abT := by intro x hx; simp only [abT, List.mem_cons, List.not_mem_nil, or_false] at hx; omega
theorem ab_str : strF abT = ⟨#[97, 98, 99]⟩ := by rfl
theorem b16 : Tryd.prog.built 22 [(0, .int .u8 1)] = some (u8s kyC).toArray := by kernel_rfl
theorem b32 : Tryd.prog.built 23 [(0, .int .u8 2)] = some (u8s kyM).toArray := by kernel_rfl
theorem b48 : Tryd.prog.built 25 [(0, .agg (u8s kyC).toArray), (1, .agg (u8s kyM).toArray)] = some (kCells kyC kyM).toArray := by kernel_rfl



end Go.Proofs.YtbmjlofehbbkbaaDoor
