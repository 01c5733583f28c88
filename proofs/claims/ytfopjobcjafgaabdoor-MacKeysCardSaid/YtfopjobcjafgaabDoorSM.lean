/-
  A walk: the program's Block: the eight words behind a block is taken into h.
-/
import Derived.Test.YtfopjobcjafgaabDoorSJ
namespace Go.Proofs.YtfopjobcjafgaabDoor
open Go.RowKit

/-- what lies in memory while the program takes a block -/
def BK (w wr : World) (F : Nat) (h b x : List Nat) : Prop :=
  Arr wr w.heap.size 51 (u32s h) ∧ Arr wr (w.heap.size + 1) 39 (u8s b) ∧ Arr wr (w.heap.size + 1 + 1) 51 (u32s (List.replicate 8 0)) ∧
  Arr wr (w.heap.size + 1 + 1 + 1) 51 (u32s x) ∧ wr.cell? ⟨F, 0, none⟩ = some (.func (.func 31) #[] #[]) ∧ w.heap.size + 1 + 1 + 1 < F ∧ Below w.heap.size w wr

theorem Arr.grown {w w' : World} {g X : Nat} {t : TypeId} {vs : List Value} (h : Arr w g t vs) (hg : w.grownBy w' (some X)) (hne : g ≠ X) : Arr w' g t vs := (hg.block g h.lt (fun e => hne (by cases e; rfl))).trans h

theorem BK.take {w wr w' : World} {F : Nat} {h b x y : List Nat} (r : BK w wr F h b x) (hg : wr.grownBy w' (some (w.heap.size + 1 + 1 + 1))) (ha : Arr w' (w.heap.size + 1 + 1 + 1) 51 (u32s y)) : BK w w' F h b y := by
  obtain ⟨h0, h1, h2, h3, h4, h6, h5⟩ := r
  refine ⟨h0.grown hg (by omega), h1.grown hg (by omega), h2.grown hg (by omega), ha, hg.cell h4 (by simp; omega), h6, h5.grown hg (Nat.le_trans (by omega) (Nat.le_of_lt h3.lt)) (by intro k hk; cases hk; omega)⟩

theorem BK.kept {w wr w' : World} {F : Nat} {h b x : List Nat} (r : BK w wr F h b x) (hb : Below wr.heap.size wr w') : BK w w' F h b x := by
  obtain ⟨h0, h1, h2, h3, h4, h6, h5⟩ := r
  exact ⟨h0.kept hb, h1.kept hb, h2.kept hb, h3.kept hb, (hb.cell (block_lt_of_cell h4)).trans h4, h6, h5.trans (hb.mono h5.size)⟩

theorem info27 : (Tryd.prog.info? 39).map (·.size) = some 64 := by kernel_rfl

theorem info22s : (Tryd.prog.info? 50).map (fun i => (i.zero, i.size, i.bytes)) = some (some (.int .u32 0), 1, 4) := by kernel_rfl

theorem run_index31 (T : List Nat) (i x : Nat) (w : World) (hi : i < 64) (hx : (u32s T)[i]? = some (.int .u32 ((x : Nat) : Int))) :
    (Instr.index 58 (Value.agg (u32s T).toArray) (Value.int IntKind.i64 (i : Int))).run Tryd.prog w = .ok (.int .u32 ((x : Nat) : Int)) w := by
  obtain ⟨i0, hi0, hz0, hz1, hz2⟩ := info_parts info22s
  unfold Instr.index
  simp [asIntOf, run_underlying Tryd.underlying58 w, hi, Go.sizeOf, typeInfo, hi0, hz1, Go.part, hx]

abbrev Z8 : Obj := Obj.cells #[Value.int .u32 0, Value.int .u32 0, Value.int .u32 0, Value.int .u32 0, Value.int .u32 0, Value.int .u32 0, Value.int .u32 0, Value.int .u32 0] 51

set_option maxHeartbeats 8000000 in
set_option maxRecDepth 100000 in
theorem block_of (hs b T : List Nat) (tf : Nat → List Nat) (w : World) (hl : hs.length = 8) (hw : Words hs) (bl : b.length = 64) (hL : Laid w) (hTL : T.length = 64) (hTLT : ∀ i, T.getD i 0 < 4294967296)
    (hSP : ∀ w : World, Calls Tryd.prog 34 #[.agg (u8s b).toArray] w fun e w' => e = .returned (.agg (u32s T).toArray) ∧ Below w.heap.size w w')
    (ht0 : tf 0 = hs) (htl : ∀ i, (tf i).length = 8) (htw : ∀ i, Words (tf i)) (hTU : ∀ i, tf (i + 1) = stepW (tf i) (turnT.getD i 0) (T.getD i 0)) :
    Calls Tryd.prog 24 #[.agg (u32s hs).toArray, .agg (u8s b).toArray] w fun e w' => e = .returned (.agg (u32s (addW (tf 64) hs)).toArray) ∧ Below w.heap.size w w' := by
  have HL := hide hl
  have BL := hide bl
  have LD := hide hL
  have TL := hide hTL
  have TLT := hide hTLT
  have SP := hide hSP
  have TU := hide hTU
  have TFL := hide htl
  have TFW := hide htw
  have HT0 := hide ht0
  have IH : Hid ((Tryd.prog.info? 51).map (·.size) = some (u32s hs).toArray.size) := by show _ = _; rw [info26]; simp [u32s, hl]
  have ZH : Hid ((#[Value.int .u32 0, Value.int .u32 0, Value.int .u32 0, Value.int .u32 0, Value.int .u32 0, Value.int .u32 0, Value.int .u32 0, Value.int .u32 0] : Array Value).size = (u32s hs).toArray.size) := by show _ = _; simp [u32s, hl]
  have IB : Hid ((Tryd.prog.info? 39).map (·.size) = some (u8s b).toArray.size) := by show _ = _; rw [info27]; simp [u8s, bl]
  clear hl bl hL hTL hTLT hSP hTU htl htw ht0
  go_enter Tryd.func24, Tryd.ntmps24
  go_upto_region 1 with fail
  have A0 : Hid (Arr (((w.alloc (Obj.cells (u32s hs).toArray 51)).alloc (Obj.cells (u8s b).toArray 39)).alloc Z8) w.heap.size 51 (u32s hs)) := ((Arr.new w 51 (u32s hs)).alloc _).alloc _
  have A1 : Hid (Arr (((w.alloc (Obj.cells (u32s hs).toArray 51)).alloc (Obj.cells (u8s b).toArray 39)).alloc Z8) (w.heap.size + 1) 39 (u8s b)) := (Arr.newAt (w.alloc _) 39 (u8s b) _ (by simp)).alloc _
  have A2 : Hid (Arr (((w.alloc (Obj.cells (u32s hs).toArray 51)).alloc (Obj.cells (u8s b).toArray 39)).alloc Z8) (w.heap.size + 1 + 1) 51 (u32s (List.replicate 8 0))) := Arr.newAt ((w.alloc _).alloc _) 51 (u32s (List.replicate 8 0)) _ (by simp)
  have B3 : Hid (Below w.heap.size w (((w.alloc (Obj.cells (u32s hs).toArray 51)).alloc (Obj.cells (u8s b).toArray 39)).alloc Z8)) := (((Below.refl _ _).alloc (Nat.le_refl _) _).alloc (by simp) _).alloc (by simp; omega) _
  have hsz : (((w.alloc (Obj.cells (u32s hs).toArray 51)).alloc (Obj.cells (u8s b).toArray 39)).alloc Z8).heap.size = w.heap.size + 1 + 1 + 1 := by simp
  generalize (((w.alloc (Obj.cells (u32s hs).toArray 51)).alloc (Obj.cells (u8s b).toArray 39)).alloc Z8) = w3 at *
  go_upto_region 2 with (first
    | (refine wpList_load_row rfl 51 _ rfl w.heap.size rfl 51 _ (0, 0) _ A0.out Tryd.underlying51 rfl IH.out ?_)
    | (refine wpList_store_row rfl 51 _ _ rfl (w.heap.size + 1 + 1 + 1) _ rfl rfl 51 _ (by rw [← hsz]; exact heap_alloc_new w3 _) IH.out ZH.out (one_u32s _) ?_))
  have D0 : Hid (Arr ((w3.alloc Z8).setRow (w.heap.size + 1 + 1 + 1) (u32s hs).toArray) w.heap.size 51 (u32s hs)) := (A0.out.alloc _).rowOther _ _ (by omega)
  have D1 : Hid (Arr ((w3.alloc Z8).setRow (w.heap.size + 1 + 1 + 1) (u32s hs).toArray) (w.heap.size + 1) 39 (u8s b)) := (A1.out.alloc _).rowOther _ _ (by omega)
  have D2 : Hid (Arr ((w3.alloc Z8).setRow (w.heap.size + 1 + 1 + 1) (u32s hs).toArray) (w.heap.size + 1 + 1) 51 (u32s (List.replicate 8 0))) := (A2.out.alloc _).rowOther _ _ (by omega)
  have D3 : Hid (Arr ((w3.alloc Z8).setRow (w.heap.size + 1 + 1 + 1) (u32s hs).toArray) (w.heap.size + 1 + 1 + 1) 51 (u32s hs)) := (Arr.newAt w3 51 (u32s (List.replicate 8 0)) _ hsz).row _
  have B4 : Hid (Below w.heap.size w ((w3.alloc Z8).setRow (w.heap.size + 1 + 1 + 1) (u32s hs).toArray)) := below_setRow (B3.out.alloc (by omega) _) (by omega) (by simp; omega) _
  have hsz4 : ((w3.alloc Z8).setRow (w.heap.size + 1 + 1 + 1) (u32s hs).toArray).heap.size = w.heap.size + 1 + 1 + 1 + 1 := by simp [hsz]
  clear A0 A1 A2 B3
  generalize ((w3.alloc Z8).setRow (w.heap.size + 1 + 1 + 1) (u32s hs).toArray) = w4 at *
  clear hsz
  have HSZ := hide hsz4
  clear hsz4
  have hst : (store ⟨w4.heap.size, 0, none⟩ (Value.func (Fn.func 31) #[] #[])).run Tryd.prog (w4.alloc (Obj.cells #[Value.nilFunc] 62)) = .ok () ((w4.alloc (Obj.cells #[Value.nilFunc] 62)).setCell ⟨w4.heap.size, 0, none⟩ (Value.func (Fn.func 31) #[] #[])) := by
    have F4 := Arr.new w4 62 [Value.nilFunc]
    rw [run_store _ _ _ _ _ rfl, F4.cell 0, F4.frozen 0]
    rfl
  go_upto_region 4 with fail
  have HB5 : Hid (BK w (w4.alloc (Obj.cells #[Value.func (Fn.func 31) #[] #[]] 62)) w4.heap.size hs b hs) := by
    have hz := HSZ.out
    exact ⟨D0.out.alloc _, D1.out.alloc _, D2.out.alloc _, D3.out.alloc _, by simp, by omega, B4.out.alloc (by omega) _⟩
  clear hst D0 D1 D2 D3 B4 HSZ
  generalize w4.alloc (Obj.cells #[Value.func (Fn.func 31) #[] #[]] 62) = w5 at *
  generalize w4.heap.size = F at *
  go_wp2_with (refine wpList_load_row rfl 39 _ rfl (w.heap.size + 1) rfl 39 _ (0, 0) _ HB5.out.2.1 Tryd.underlying39 rfl IB.out ?_)
  refine (SP.out _).mono ?_
  rintro e w6 ⟨rfl, hb6⟩
  have HB6 := hide (HB5.out.kept hb6)
  clear hb6 HB5 SP IB
  go_wp2
  go_loopg [15] 65 (fun f s15 wr => ∃ (i : Nat), s15 = .int .i64 i ∧ i ≤ 64 ∧ 64 - i < f ∧ BK w wr F hs b (tf i))
  case atStart => exact ⟨0, rfl, by omega, by omega, by rw [HT0.out]; exact HB6.out⟩
  case round =>
    clear HB6
    obtain ⟨i, rfl, hi, hf, hR⟩ := hrel
    have HR := hide hR
    by_cases hlt : i < 64
    · have hsx := TU.out i
      have hxl := TFL.out i
      have hxw := TFW.out i
      generalize tf i = x at *
      have XL := hide hxl
      have XW := hide hxw
      have ck := (LD.out.keptB LD.out.size hR.2.2.2.2.2.2).turn hlt
      have lk := turn_lt i hlt
      have lw := TLT.out i
      have hidx := run_index31 T i (T.getD i 0) wr hlt (u32s_at (by rw [TL.out]; exact hlt))
      have hi64 : (i : Int) < 64 := by omega
      obtain ⟨kw, hkw⟩ : ∃ kw, kw = (turnT.getD i 0 + T.getD i 0) % 4294967296 := ⟨_, rfl⟩
      have hsx2 : tf (i + 1) = stepW x kw 0 := by rw [hsx, hkw, stepW_join]
      have HSX := hide hsx2
      have lkw : kw < 4294967296 := by rw [hkw]; exact Nat.mod_lt _ (by omega)
      clear hsx hsx2 hxl hxw hR
      generalize turnT.getD i 0 = kv at *
      generalize T.getD i 0 = wv at *
      have ekw : ((kv : Int) + (wv : Int)) % 4294967296 = (kw : Int) := by omega
      clear hkw
      go_wp2_with fail
      refine (take_any x kw (w.heap.size + 1 + 1 + 1) F wr XL.out XW.out lkw HR.out.2.2.2.1 HR.out.2.2.2.2.1).mono ?_
      rintro e w7 ⟨rfl, ha7, hg7⟩
      have HB7 := hide (HR.out.take hg7 ha7)
      clear ha7 hg7 HR
      go_wp2
      go_roundg (64 - i)
      case measure => omega
      case rel => exact ⟨i + 1, by go_num, by omega, by omega, by rw [HSX.out]; exact HB7.out⟩
    · have e : i = 64 := by omega
      subst e
      have hxl := TFL.out 64
      have hxw := TFW.out 64
      generalize hxx : tf 64 = xx at *
      have HXX := hide hxx
      clear hxx
      have XL := hide hxl
      have XW := hide hxw
      clear hxl hxw hR
      go_wp2
      go_loopg [27] 9 (fun f s27 wx => ∃ (i : Nat), s27 = .int .i64 i ∧ i ≤ 8 ∧ 8 - i < f ∧ BK w wx F hs b (addTo xx hs i))
      case atStart => exact ⟨0, rfl, by omega, by omega, by rw [addTo_zero]; exact HR.out⟩
      case round =>
        clear HR
        obtain ⟨i, rfl, hi, hf, hR⟩ := hrel
        have HR := hide hR
        by_cases hlt : i < 8
        · have hx := hR.2.2.2.1
          have cx := (hx.cell i).trans (u32s_at (by rw [addTo_length _ _ XL.out _ (by omega)]; exact hlt))
          rw [addTo_at _ _ _ hlt] at cx
          have fx := hx.frozen i
          have ch := (hR.1.cell i).trans (u32s_at (l := hs) (by rw [HL.out]; exact hlt))
          have lx := XW.out.getD i
          have lh := Words.getD hw i
          have HSET := hide (addTo_set xx hs XL.out i hlt)
          have hi8 : (i : Int) < 8 := by omega
          clear hR hx
          generalize xx.getD i 0 = xi at *
          generalize hs.getD i 0 = hi' at *
          go_wp2_with fail
          refine wp_region_any (by kernel_rfl) ?_
          try (change wpAny _ _ _ _ _ _ _ (World.drew _))
          refine take_dst (i := 0) (d := 30) (v := ?_) rfl rfl (by kernel_rfl) (by kernel_rfl) (by kernel_rfl) (fun _ _ _ h => h) (by rfl) ?_ ?_
          rotate_left
          · intro wZ; go_simp; first | (with_reducible rfl) | (rw [if_pos (by omega)]; with_reducible rfl) | skip
          try simp only [Act.put, List.setIfInBounds_toArray, List.set_cons_zero, List.set_cons_succ]
          refine take_dst (i := 1) (d := 31) (v := ?_) rfl rfl (by kernel_rfl) (by kernel_rfl) (by kernel_rfl) (fun _ _ _ h => h) (by rfl) ?_ ?_
          rotate_left
          · intro wZ; go_simp; first | (with_reducible rfl) | (rw [if_pos (by omega)]; with_reducible rfl) | skip
          try simp only [Act.put, List.setIfInBounds_toArray, List.set_cons_zero, List.set_cons_succ]
          refine take_dst (i := 3) (d := 33) (v := ?_) rfl rfl (by kernel_rfl) (by kernel_rfl) (by kernel_rfl) (fun _ _ _ h => h) (by rfl) ?_ ?_
          rotate_left
          · intro wZ; go_simp; first | (with_reducible rfl) | (rw [if_pos (by omega)]; with_reducible rfl) | skip
          try simp only [Act.put, List.setIfInBounds_toArray, List.set_cons_zero, List.set_cons_succ]
          refine take_dst (i := 4) (d := 34) (v := ?_) rfl rfl (by kernel_rfl) (by kernel_rfl) (by kernel_rfl) (fun _ _ _ h => h) (by rfl) ?_ ?_
          rotate_left
          · intro wZ; go_simp; first | (with_reducible rfl) | (rw [if_pos (by omega)]; with_reducible rfl) | skip
          try simp only [Act.put, List.setIfInBounds_toArray, List.set_cons_zero, List.set_cons_succ]
          refine wpAny_ready (rs := [2, 5]) (by kernel_rfl) (by simp) ?_
          refine (AllReady.cons rfl (fun K hK => ?_) (AllReady.cons rfl (fun K hK => ?_) AllReady.nil))
          focus
            go_simp
            first | (refine hK _ _ ?_; clear hK K) | (clear hK K) | skip
            try simp only [Act.put, List.setIfInBounds_toArray, List.set_cons_zero, List.set_cons_succ]
            refine wpAny_ready (rs := [5]) (by kernel_rfl) (by simp) ?_
            refine (AllReady.cons rfl (fun K hK => ?_) AllReady.nil)
            go_simp
            first | (refine hK _ _ ?_; clear hK K) | (clear hK K) | skip
            try simp only [Act.put, List.setIfInBounds_toArray, List.set_cons_zero, List.set_cons_succ]
            refine take_dst (i := 6) (d := 36) (v := ?_) rfl rfl (by kernel_rfl) (by kernel_rfl) (by kernel_rfl) (fun _ _ _ h => h) (by rfl) ?_ ?_
            rotate_left
            · intro wZ; go_simp; first | (with_reducible rfl) | (rw [if_pos (by omega)]; with_reducible rfl) | skip
            try simp only [Act.put, List.setIfInBounds_toArray, List.set_cons_zero, List.set_cons_succ]
            refine take_dst (i := 7) (d := 37) (v := ?_) rfl rfl (by kernel_rfl) (by kernel_rfl) (by kernel_rfl) (fun _ _ _ h => h) (by rfl) ?_ ?_
            rotate_left
            · intro wZ; go_simp; first | (with_reducible rfl) | (rw [if_pos (by omega)]; with_reducible rfl) | skip
            try simp only [Act.put, List.setIfInBounds_toArray, List.set_cons_zero, List.set_cons_succ]
            refine wpAny_ready (rs := [8]) (by kernel_rfl) (by simp) ?_
            refine (AllReady.cons rfl (fun K hK => ?_) AllReady.nil)
            go_simp
            first | (refine hK _ _ ?_; clear hK K) | (clear hK K) | skip
            try simp only [Act.put, List.setIfInBounds_toArray, List.set_cons_zero, List.set_cons_succ]
            refine wpAny_done (by kernel_rfl) ?_ _
          rotate_left 1
          focus
            go_simp
            first | (refine hK _ _ ?_; clear hK K) | (clear hK K) | skip
            try simp only [Act.put, List.setIfInBounds_toArray, List.set_cons_zero, List.set_cons_succ]
            refine wpAny_ready (rs := [2]) (by kernel_rfl) (by simp) ?_
            refine (AllReady.cons rfl (fun K hK => ?_) AllReady.nil)
            go_simp
            first | (refine hK _ _ ?_; clear hK K) | (clear hK K) | skip
            try simp only [Act.put, List.setIfInBounds_toArray, List.set_cons_zero, List.set_cons_succ]
            refine take_dst (i := 6) (d := 36) (v := ?_) rfl rfl (by kernel_rfl) (by kernel_rfl) (by kernel_rfl) (fun _ _ _ h => h) (by rfl) ?_ ?_
            rotate_left
            · intro wZ; go_simp; first | (with_reducible rfl) | (rw [if_pos (by omega)]; with_reducible rfl) | skip
            try simp only [Act.put, List.setIfInBounds_toArray, List.set_cons_zero, List.set_cons_succ]
            refine take_dst (i := 7) (d := 37) (v := ?_) rfl rfl (by kernel_rfl) (by kernel_rfl) (by kernel_rfl) (fun _ _ _ h => h) (by rfl) ?_ ?_
            rotate_left
            · intro wZ; go_simp; first | (with_reducible rfl) | (rw [if_pos (by omega)]; with_reducible rfl) | skip
            try simp only [Act.put, List.setIfInBounds_toArray, List.set_cons_zero, List.set_cons_succ]
            refine wpAny_ready (rs := [8]) (by kernel_rfl) (by simp) ?_
            refine (AllReady.cons rfl (fun K hK => ?_) AllReady.nil)
            go_simp
            first | (refine hK _ _ ?_; clear hK K) | (clear hK K) | skip
            try simp only [Act.put, List.setIfInBounds_toArray, List.set_cons_zero, List.set_cons_succ]
            refine wpAny_done (by kernel_rfl) ?_ _
          all_goals
            rw [show IntKind.u32.wrap ((xi : Int) + (hi' : Int)) = (((xi + hi') % 4294967296 : Nat) : Int) by rw [IntKind.wrap_u32']; omega]
            go_wp2
            go_roundg (8 - i)
            case measure => omega
            case rel =>
              refine ⟨i + 1, by go_num, by omega, by omega, ?_⟩
              have h2 := HR.out.2.2.2.1.set i (.int .u32 (((xi + hi') % 4294967296 : Nat) : Int))
              rw [u32s_set, HSET.out] at h2
              exact HR.out.take (grown_drew (grown_set wr _ i _)) (arr_drew h2)
        · have e : i = 8 := by omega
          subst e
          rw [addTo_full _ _ XL.out] at hR
          have HX2 := hide hR.2.2.2.1
          have HR6 := hide hR.2.2.1
          have HBL := hide hR.2.2.2.2.2.2
          have bl : (addW xx hs).length = 8 := by simp [addW]
          have HI8 : Hid ((Tryd.prog.info? 51).map (·.size) = some (u32s (addW xx hs)).toArray.size) := by show _ = _; rw [info26]; simp [u32s, bl]
          have HO8 : Hid ((u32s (List.replicate 8 0)).toArray.size = (u32s (addW xx hs)).toArray.size) := by show _ = _; simp [u32s, bl]
          clear hR HR bl
          go_wp2_with (first
            | (refine wpList_load_row rfl 51 _ rfl (w.heap.size + 1 + 1 + 1) rfl 51 _ (0, 0) _ HX2.out Tryd.underlying51 rfl HI8.out ?_)
            | (refine wpList_store_row rfl 51 _ _ rfl (w.heap.size + 1 + 1) _ rfl rfl 51 _ HR6.out HI8.out HO8.out (one_u32s _) ?_))
          exact bodyPost_ret (v := .agg (u32s (addW xx hs)).toArray) (results_cell_row Tryd.results24 _ _ (w.heap.size + 1 + 1) 51 _ (0, 0) _ rfl (HR6.out.row _) Tryd.underlying51 rfl HI8.out) rfl ⟨by rw [HXX.out], below_setRow HBL.out (by omega) HR6.out.lt _⟩

theorem block_any (hs b : List Nat) (w : World) (hl : hs.length = 8) (hw : Words hs) (bl : b.length = 64) (hb : ∀ x ∈ b, x < 256) (hL : Laid w) :
    Calls Tryd.prog 24 #[.agg (u32s hs).toArray, .agg (u8s b).toArray] w fun e w' => e = .returned (.agg (u32s (blockF hs b)).toArray) ∧ Below w.heap.size w w' :=
  block_of hs b (spreadF b) (turnsF hs b) w hl hw bl hL (spread_length b) (fun i => spread_lt hb i) (fun w => spread_any b w bl hb) rfl (fun i => turnsF_length hl i) (fun i => turnsF_words hw i) (fun _ => rfl)

end Go.Proofs.YtfopjobcjafgaabDoor
