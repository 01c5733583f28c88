/-
  A walk: the program's Derive: a member's key of an epoch, or none.
-/
import Derived.Test.YtfopjobcjafgaabDoorNE
import Derived.Lib.SlBytesConst
import Derived.Laws.CopyRow
namespace Go.Proofs.YtfopjobcjafgaabDoor
open Go.RowKit

def codeT : List Nat := [99, 111, 100, 101]
def markT : List Nat := [109, 97, 114, 107]
theorem codeT_bytes : BytesN codeT := by intro x hx; simp [codeT] at hx; omega
theorem markT_bytes : BytesN markT := by intro x hx; simp [markT] at hx; omega

/-- the two marks of a member's key -/
def codeF (master : List Nat) (m e : Nat) : List Nat := macF master (codeT ++ formF m ++ formF e)
def markF (master : List Nat) (m e : Nat) : List Nat := macF master (markT ++ formF m ++ formF e)

/-- 'copy(key.Code[:], code[:])' -/
theorem copy_code (wr : World) (g d : Nat) (D1 D2 : List Nat) (hA : Arr wr g 32 (kCells (List.replicate 16 0) D2)) (hd : Arr wr d 25 (u8s D1)) (h1 : D1.length = 32) (_h2 : D2.length = 32) :
    (Builtin.copy_ #[22, 22] 3 #[.slice (some ⟨g, 0, none⟩) 16 16, .slice (some ⟨d, 0, none⟩) 32 32]).run Tryd.prog wr = .ok (.int .i64 16) (wr.setRow g (kCells (D1.take 16) D2).toArray) := by
  have hlen : (u8s (D1.take 16)).length = 16 := by simp [u8s, h1]
  have h := run_copy_row (P := Tryd.prog) wr 22 22 3 5 g 0 16 16 ⟨d, 0, none⟩ 32 32 (kCells (List.replicate 16 0) D2).toArray 32 (u8s (D1.take 16)) Tryd.underlying22 info8 hA (by rw [hlen]; rfl)
    (fun j v hv => by
      have hj : j < (D1.take 16).length := by have := (List.getElem?_eq_some_iff.1 hv).1; simpa [u8s] using this
      have hj' : j < 16 := by simp at hj; omega
      rw [u8s_at hj] at hv
      cases hv
      rw [Addr.add_mid, Nat.zero_add]
      refine (hd.cell j).trans ((u8s_at (by omega)).trans ?_)
      simp [List.getD, hj'])
    (by rw [hlen]; simp [kCells, u8s]) (one_u8s _)
  rw [hlen] at h
  have e : ((kCells (List.replicate 16 0) D2).toArray.toList.take 0 ++ u8s (D1.take 16) ++ (kCells (List.replicate 16 0) D2).toArray.toList.drop (0 + 16)) = kCells (D1.take 16) D2 := by
    show [] ++ u8s (D1.take 16) ++ (kCells (List.replicate 16 0) D2).drop (0 + 16) = _
    rw [List.nil_append, Nat.zero_add, kCells, kCells, List.drop_left' (by simp [u8s])]
  rw [e] at h
  exact h

set_option maxHeartbeats 8000000 in
set_option maxRecDepth 100000 in
theorem derive_in (p : Option Addr) (c : Nat) (ms : List Nat) (m e : Nat) (w : World) (hP : Piece w p c ms) (hl : ms.length ≤ 1000) (hm1 : 1 ≤ m) (hm8 : m ≤ 8) (he1 : 1 ≤ e) (heM : e ≤ 1048576) (hL : Laid w) :
    Calls Tryd.prog 11 #[.slice p ms.length c, .int .i64 (m : Int), .int .i64 (e : Int)] w fun r w' => r = .returned (.tuple #[.agg (kCells ((codeF ms m e).take 16) (markF ms m e)).toArray, .int .i64 0]) ∧ Below w.heap.size w w' := by
  have hL2 := hL.size
  have HLB : Hid (∀ v, Below w.heap.size w v → Laid v) := fun v hb => hL.keptB (B := w.heap.size) hL2 hb
  have HP := hide hP
  have HN1 := hide (fun v => num_form m (by omega) v)
  have HN2 := hide (fun v => num_form e (by omega) v)
  have HF1 := hide (formF_short m)
  have HF2 := hide (formF_short e)
  have HO1 := hide (fun (v : World) (hb : Below w.heap.size w v) (p1 p2 : Option Addr) (c1 c2 : Nat) (h1 : Piece v p1 c1 (formF m)) (h2 : Piece v p2 c2 (formF e)) => of_word v p c ms codeT rfl codeT_bytes p1 p2 c1 c2 (formF m) (formF e) (codeF ms m e) _ _ rfl rfl (hP.kept hb) hl h1 h2 (Nat.le_trans (formF_short m) (by omega)) (Nat.le_trans (formF_short e) (by omega)) (HLB.out v hb) (Nat.le_trans hL2 hb.size) rfl)
  have HO2 := hide (fun (v : World) (hb : Below w.heap.size w v) (p1 p2 : Option Addr) (c1 c2 : Nat) (h1 : Piece v p1 c1 (formF m)) (h2 : Piece v p2 c2 (formF e)) => of_word v p c ms markT rfl markT_bytes p1 p2 c1 c2 (formF m) (formF e) (markF ms m e) _ _ rfl rfl (hP.kept hb) hl h1 h2 (Nat.le_trans (formF_short m) (by omega)) (Nat.le_trans (formF_short e) (by omega)) (HLB.out v hb) (Nat.le_trans hL2 hb.size) rfl)
  have L1 := hide (show (codeF ms m e).length = 32 from macF_length _ _)
  have L2 := hide (show (markF ms m e).length = 32 from macF_length _ _)
  clear hP hL
  generalize codeF ms m e = D1 at *
  generalize markF ms m e = D2 at *
  generalize formF m = F1 at *
  generalize formF e = F2 at *
  generalize hf1 : F1.length = l1 at *
  generalize hf2 : F2.length = l2 at *
  clear hf1 hf2
  generalize ms.length = n at *
  have I1 : Hid ((Tryd.prog.info? 25).map (·.size) = some (u8s D1).toArray.size) := by show _ = _; rw [info35]; simp [u8s, L1.out]
  have O1 : Hid ((u8s (List.replicate 32 0)).toArray.size = (u8s D1).toArray.size) := by show _ = _; simp [u8s, L1.out]
  have HBK := hide (builtK D2 L2.out)
  have LK0 := hide (show (kCells (List.replicate 16 0) D2).length = 48 by simp [kCells, u8s, L2.out])
  have LK1 := hide (show (kCells (D1.take 16) D2).length = 48 by simp [kCells, u8s, L1.out, L2.out])
  have LZ := hide (show zeroK.length = 48 from rfl)
  have IK0 : Hid ((Tryd.prog.info? 32).map (·.size) = some (kCells (List.replicate 16 0) D2).toArray.size) := by show _ = _; rw [infoK, List.size_toArray, LK0.out]
  have IK1 : Hid ((Tryd.prog.info? 32).map (·.size) = some (kCells (D1.take 16) D2).toArray.size) := by show _ = _; rw [infoK, List.size_toArray, LK1.out]
  have OK0 : Hid (zeroK.toArray.size = (kCells (List.replicate 16 0) D2).toArray.size) := by show _ = _; rw [List.size_toArray, List.size_toArray, LK0.out, LZ.out]
  have OK1 : Hid (zeroK.toArray.size = (kCells (D1.take 16) D2).toArray.size) := by show _ = _; rw [List.size_toArray, List.size_toArray, LK1.out, LZ.out]
  have HCC := hide (fun (v : World) (g d : Nat) (hA : Arr v g 32 (kCells (List.replicate 16 0) D2)) (hd : Arr v d 25 (u8s D1)) => copy_code v g d D1 D2 hA hd L1.out L2.out)
  have HC0 := hide (one_kCells (List.replicate 16 0) D2)
  have HC1 := hide (one_kCells (D1.take 16) D2)
  generalize kCells (D1.take 16) D2 = KC1 at *
  generalize kCells (List.replicate 16 0) D2 = KC0 at *
  have g1 : ¬ (m : Int) < 1 := by omega
  have g2 : ¬ (8 : Int) < (m : Int) := by omega
  have g3 : ¬ (e : Int) < 1 := by omega
  have g4 : ¬ (1048576 : Int) < (e : Int) := by omega
  go_enter Tryd.func11, Tryd.ntmps11
  go_upto_region 1 with fail
  rw [← zeroK_lit]
  have B1 : Hid (Below w.heap.size w (w.alloc (Obj.cells zeroK.toArray 32))) := (Below.refl _ _).alloc (Nat.le_refl _) _
  have R1 := hide (Arr.new w 32 zeroK)
  generalize w.alloc (Obj.cells zeroK.toArray 32) = w1 at *
  go_upto_region 3 with fail
  clear g1 g2 g3 g4
  go_wp2_with fail
  refine (HN1.out w1).mono ?_
  rintro r w2 ⟨p1, c1, rfl, _, hp1, hb2⟩
  have R2 := hide (R1.out.kept hb2)
  have B2 : Hid (Below w.heap.size w w2) := B1.out.trans (hb2.mono B1.out.size)
  have P1 := hide hp1
  clear hp1 hb2 R1 B1 HN1
  go_wp2_with fail
  refine (HN2.out w2).mono ?_
  rintro r w3 ⟨p2, c2, rfl, _, hp2, hb3⟩
  have R3 := hide (R2.out.kept hb3)
  have B3 : Hid (Below w.heap.size w w3) := B2.out.trans (hb3.mono B2.out.size)
  have P13 := hide (P1.out.kept hb3)
  have P23 := hide hp2
  clear hp2 hb3 R2 B2 HN2 P1
  have kc := fun (w : World) (C : Array Value) (n c : Nat) => Lib.run_convert_bytes_const (P := Tryd.prog) w 22 5 C n c Tryd.underlying22 Tryd.underlying5
  go_upto_region 4 with fail
  go_cut [10] (fun s10 wx => ∃ d, s10 = .pointer (some ⟨d, 0, none⟩) ∧ Arr wx d 25 (u8s D1) ∧ Below w3.heap.size w3 wx)
  case first =>
    go_wp2_with fail
    refine (HO1.out w3 B3.out p1 p2 c1 c2 P13.out P23.out).mono ?_
    rintro r w4 ⟨rfl, hb4⟩
    have b4 := hide hb4
    clear hb4 kc
    go_wp2_with (refine wpList_store_row rfl 25 _ _ rfl w4.heap.size (u8s D1).toArray rfl rfl 25 (u8s (List.replicate 32 0)).toArray (heap_at w4 _ _ rfl) I1.out O1.out (all_u8s _) ?_)
    go_meet
    case rel => exact ⟨w4.heap.size, rfl, (Arr.new w4 25 (u8s (List.replicate 32 0))).row _, below_setRow (b4.out.alloc b4.out.size _) b4.out.size (by simp) _⟩
  case rest =>
    obtain ⟨d, rfl, hd, hb⟩ := hcut
    have HD := hide hd
    have R5 := hide (R3.out.kept hb)
    have B5 : Hid (Below w.heap.size w wc) := B3.out.trans (hb.mono B3.out.size)
    have P15 := hide (P13.out.kept hb)
    have P25 := hide (P23.out.kept hb)
    clear hd hb R3 B3 P13 P23 HO1
    generalize wc = w5 at *
    go_upto_region 5 with fail
    go_cut [11] (fun s11 wx => ∃ g, s11 = .pointer (some ⟨g, 0, none⟩) ∧ w.heap.size ≠ g ∧ w.heap.size ≤ g ∧ Arr wx g 32 KC0 ∧ Below w5.heap.size w5 wx)
    case first =>
      go_wp2_with fail
      refine (HO2.out w5 B5.out p1 p2 c1 c2 P15.out P25.out).mono ?_
      rintro r w6 ⟨rfl, hb6⟩
      have b6 := hide hb6
      clear hb6 kc
      rename_i hKK
      refine hKK _ _ ?_
      refine wpList_build_of rfl 32 #[(1, .tmp 46)] rfl [(1, .agg (u8s D2).toArray)] (by simp [Act.eval]) KC0.toArray HBK.out ?_
      go_wp2_with (first
        | (refine wpList_store_row rfl 32 _ _ rfl w6.heap.size KC0.toArray rfl rfl 32 zeroK.toArray (heap_at w6 _ _ rfl) IK0.out OK0.out HC0.out ?_))
      go_meet
      case rel =>
        have h1 := R5.out.lt
        have h2 := b6.out.size
        exact ⟨w6.heap.size, rfl, by omega, by omega, (Arr.new w6 32 zeroK).row _, below_setRow (b6.out.alloc h2 _) h2 (by simp) _⟩
    case rest =>
      obtain ⟨g, rfl, hgne, hgle, hg, hb⟩ := hcut
      have HG := hide hg
      have R7 := hide (R5.out.kept hb)
      have D7 := hide (HD.out.kept hb)
      have B7 : Hid (Below w.heap.size w wc) := B5.out.trans (hb.mono B5.out.size)
      have HCP := hide (HCC.out wc.drew g d (show Arr wc.drew g _ _ from hg) (show Arr wc.drew d _ _ from D7.out))
      clear hg hb R5 B5 P15 P25 HO2 HD kc HCC
      have hs1 := fun v => run_all16 v g
      have hs2 := fun v => run_all32 v d
      go_upto_region 6 with fail
      refine wp_region_any (by kernel_rfl) ?_
      try (change wpAny _ _ _ _ _ _ _ (World.drew _))
      refine take_dst (i := 0) (d := 48) (v := ?_) rfl rfl (by kernel_rfl) (by kernel_rfl) (by kernel_rfl) (fun _ _ _ h => h) (by rfl) ?_ ?_
      rotate_left
      · intro wZ; go_simp; first | (with_reducible rfl) | (rw [if_pos (by omega)]; with_reducible rfl) | skip
      try simp only [Act.put, List.setIfInBounds_toArray, List.set_cons_zero, List.set_cons_succ]
      refine take_dst (i := 1) (d := 49) (v := ?_) rfl rfl (by kernel_rfl) (by kernel_rfl) (by kernel_rfl) (fun _ _ _ h => h) (by rfl) ?_ ?_
      rotate_left
      · intro wZ; go_simp; first | (with_reducible rfl) | (rw [if_pos (by omega)]; with_reducible rfl) | skip
      try simp only [Act.put, List.setIfInBounds_toArray, List.set_cons_zero, List.set_cons_succ]
      refine take_dst (i := 2) (d := 50) (v := ?_) rfl rfl (by kernel_rfl) (by kernel_rfl) (by kernel_rfl) (fun _ _ _ h => h) (by rfl) ?_ ?_
      rotate_left
      · intro wZ; go_simp; first | (with_reducible rfl) | (rw [if_pos (by omega)]; with_reducible rfl) | skip
      try simp only [Act.put, List.setIfInBounds_toArray, List.set_cons_zero, List.set_cons_succ]
      refine wpAny_ready (rs := [3]) (by kernel_rfl) (by simp) ?_
      refine (AllReady.cons rfl (fun K hK => ?_) AllReady.nil)
      refine wp_copy_dst _ (dd := 51) rfl (.tmp 49) (.tmp 50) 22 22 rfl _ _ rfl rfl HCP.out ?_
      first | (refine hK _ _ ?_; clear hK K) | (clear hK K) | skip
      try simp only [Act.put, List.setIfInBounds_toArray, List.set_cons_zero, List.set_cons_succ]
      refine wpAny_done (by kernel_rfl) ?_ _
      have G8 := hide ((show Arr wc.drew g 32 KC0 from HG.out).row KC1.toArray)
      have R8 := hide ((show Arr wc.drew w.heap.size 32 zeroK from R7.out).rowOther g KC1.toArray hgne)
      have B8 : Hid (Below w.heap.size w (wc.drew.setRow g KC1.toArray)) := below_setRow B7.out.drew hgle (show g < wc.drew.heap.size from HG.out.lt) _
      clear HG R7 B7 HCP hs1 hs2 D7
      generalize wc.drew.setRow g KC1.toArray = w8 at *
      go_wp2_with (first
        | (refine wpList_load_row rfl 32 _ rfl g rfl 32 _ (0, 0) _ G8.out Tryd.underlying32 rfl IK1.out ?_)
        | (refine wpList_store_row rfl 32 _ _ rfl w.heap.size _ rfl rfl 32 _ R8.out IK1.out OK1.out HC1.out ?_))
      exact bodyPost_ret (v := .tuple #[.agg KC1.toArray, .int .i64 0]) (results_key Tryd.results11 _ _ w.heap.size KC1 rfl (R8.out.row _) LK1.out) rfl ⟨rfl, below_setRow B8.out (Nat.le_refl _) R8.out.lt _⟩

end Go.Proofs.YtfopjobcjafgaabDoor
