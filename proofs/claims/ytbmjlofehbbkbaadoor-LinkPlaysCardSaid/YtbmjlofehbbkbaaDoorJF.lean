/-
  Several texts, joined: HB, HC, HD, HK, HG, HP, MA, MB.
-/
import Derived.Test.YtbmjlofehbbkbaaDoorJA
import Derived.Test.YtbmjlofehbbkbaaDoorJE
import Derived.Laws.CopyRow
import Derived.Lib.SlBytesConst
import Derived.Laws.BitsAllLaws

/- A walk: Write: a piece is put behind what a hash has. -/
namespace Go.Proofs.YtbmjlofehbbkbaaDoor
open Go.RowKit

theorem wp_copy_dst {P : Program} (w : World) {o : Oper} {a : Act} {K : Act → World → Prop} {Q : Exit → Act → World → Prop} {dd : Nat} (hdd : o.dst = some dd) (d s : Operand) (t t' : TypeId)
    (ho : o.op = .call { callee := .builtin .copy, args := #[d, s], argTypes := #[t, t'] }) (v u : Value) (hd : a.eval d = v) (hs : a.eval s = u) {v' : Value} {w' : World}
    (hr : (Builtin.copy_ #[t, t'] o.type #[v, u]).run P w = .ok v' w') (h : K (a.put (some dd) v') w') : o.wp P a w K Q := by
  unfold Oper.wp execOp
  simp only [ho, resolve, invoke, builtin, Sem.run_bind, Sem.run_pure, Result.andThen_ok, List.map_toArray, List.map_cons, List.map_nil, hd, hs, hr]
  show K (a.put o.dst v') w'
  rw [hdd]
  exact h

theorem wp_load_mid_dst {P : Program} {op : Oper} {a : Act} {w : World} {K : Act → World → Prop} {Q : Exit → Act → World → Prop} {dd : Nat} (hdd : op.dst = some dd) (ty : TypeId) (x : Operand) (ho : op.op = .load ty x)
    (b o : Nat) (hx : a.eval x = .pointer (some ⟨b, o, none⟩)) (cs : List Value) (d : TypeDesc) (hc : w.rangeAt b o cs)
    (hu : P.underlying ty = some d) (hd : d.isRow = true) (hi : (P.info? ty).map (·.size) = some cs.length)
    (h : K (a.put (some dd) (.agg cs.toArray)) w) : op.wp P a w K Q := wp_load_mid ty x ho b o hx cs d hc hu hd hi (by rw [hdd]; exact h)

theorem wp_store_head {P : Program} {o : Oper} {a : Act} {w : World} {K : Act → World → Prop} {Q : Exit → Act → World → Prop} (hdd : o.dst = none) (ty : TypeId) (x y : Operand) (ho : o.op = .store ty x y)
    (g : Nat) (cells : Array Value) (hx : a.eval x = .pointer (some ⟨g, 0, none⟩)) (hy : a.eval y = .agg cells)
    (t : TypeId) (cur : Array Value) (hg : w.heap[g]? = some (.cells cur t (0, 0))) (hi : (P.info? ty).map (·.size) = some cells.size)
    (hfit : cells.size ≤ cur.size) (h1 : cells.all (·.oneCell') = true)
    (h : K a (w.setRow g (cells.toList ++ cur.toList.drop cells.size).toArray)) : o.wp P a w K Q := by
  have hst := run_storeCells_at P g 0 t cells.toList 0 cur w hg (by simpa using hfit) (fun v hv => (Array.all_eq_true_iff_forall_mem.1 h1) v (by simpa using hv))
  have hrun : (storeVar ty ⟨g, 0, none⟩ (.agg cells)).run P w = .ok () (w.setRow g (cells.toList ++ cur.toList.drop cells.size).toArray) := by
    cases hq : P.info? ty with
    | none => simp [hq] at hi
    | some i =>
      have hs : cells.size = i.size := by simp [hq] at hi; omega
      simp [storeVar, sizeOf, typeInfo, hq, Value.cells, hs] at hst ⊢
      exact hst
  unfold Oper.wp execOp
  simp only [ho, hx, hy, Instr.storeAt, Instr.sureAddr, Sem.run_bind, Sem.run_pure, Result.andThen_ok, hrun]
  show K (a.put o.dst undef) _
  rw [hdd]
  exact h

theorem hash_headed {ws rest ws' : List Nat} {n : Nat} (h8 : ws.length = 8) (_h8 : ws'.length = 8) : u32s ws' ++ (hCells ws rest n).drop 8 = hCells ws' rest n := by
  unfold hCells
  rw [List.append_assoc, List.drop_append, List.drop_eq_nil_of_le (by simp [u32s, h8]), List.nil_append]
  simp [u32s, h8]

theorem Laid.grown {w w' : World} {g : Nat} (h : Laid w) (hg : w.grownBy w' (some g)) (h2 : 2 ≤ g) : Laid w' :=
  ⟨fun j v hv => hg.cell (h.1 j v hv) (by simp; omega), fun j v hv => hg.cell (h.2 j v hv) (by simp; omega)⟩

theorem hash_sized {ws rest : List Nat} {n : Nat} (h8 : ws.length = 8) (h64 : rest.length = 64) (m : Nat) : (hCells ws rest n).set 72 (.int .i64 (m : Int)) = hCells ws rest m := by
  unfold hCells
  rw [List.set_append, if_neg (by simp [u32s, u8s, h8, h64])]
  simp [u32s, u8s, h8, h64]

theorem hash_copied {ws rest b : List Nat} {n r m : Nat} (h8 : ws.length = 8) (h64 : rest.length = 64) (_hm : m ≤ b.length) (hr : r + m ≤ 64) :
    (hCells ws rest n).take (8 + r) ++ u8s (b.take m) ++ (hCells ws rest n).drop (8 + r + m) = hCells ws (restTo rest b r m) n := by
  unfold hCells
  have l1 : (u32s ws).length = 8 := by simp [u32s, h8]
  have l2 : (u8s rest).length = 64 := by simp [u8s, h64]
  rw [List.append_assoc (u32s ws) (u8s rest), List.take_append, l1, List.take_of_length_le (by omega), show 8 + r - 8 = r by omega, List.take_append_of_le_length (by omega),
    List.drop_append, l1, List.drop_eq_nil_of_le (by omega), List.nil_append, show 8 + r + m - 8 = r + m by omega, List.drop_append_of_le_length (by omega)]
  simp [restTo, u8s, List.map_take, List.map_drop]

theorem info8 : (Tryd.prog.info? 5).map (·.size) = some 1 := by kernel_rfl

theorem run_rest (w : World) (g r : Nat) (hr : r < 64) :
    (Instr.sliceAt 105 (.pointer (some ⟨g, 8, none⟩)) (some (.int .i64 (r : Int))) none none).run Tryd.prog w = .ok (.slice (some ⟨g, 8 + r, none⟩) (64 - r) (64 - r)) w := by
  have hl : Tryd.prog.arrayLen 105 = 64 := by simp [Program.arrayLen, Tryd.underlying105]
  have he : Tryd.prog.elem 105 = 5 := by simp [Program.elem, Tryd.underlying105]
  have ht : Tryd.prog.underlying 105 = some (.array (Tryd.prog.arrayLen 105) (Tryd.prog.elem 105)) := by rw [hl, he]; exact Tryd.underlying105
  rw [run_sliceAt_array_l w 105 ⟨g, 8, none⟩ ht .i64 _ (by omega) (by rw [hl]; omega), he, size5, hl]
  simp [Result.andThen, slicedAt, show ¬ 64 = r by omega, Addr.add_mid]

theorem run_from (w : World) (p : Option Addr) (n cap l : Nat) (h : l ≤ n) :
    (Instr.slice 42 (.slice p n cap) (some (.int .i64 (l : Int))) none none).run Tryd.prog w = .ok (.slice (cutP p l cap) (n - l) (cap - l)) w := by
  have ht' : Tryd.prog.underlying 42 = some (.slice (Tryd.prog.elem 42)) := by simp [Program.elem, Tryd.underlying42]
  have he : Tryd.prog.elem 42 = 5 := by simp [Program.elem, Tryd.underlying42]
  rw [run_slice_l w 42 _ _ _ ht' .i64 _ (by omega) (by omega), he, size5]
  simp [Result.andThen, sliced, cutP]

/-- bytes that are there lie in memory -/
theorem bi_lt {w : World} {p : Option Addr} {bs : List Nat} (h : BI w p bs) (hn : bs ≠ []) (a : Addr) (ha : p = some a) : a.block < w.heap.size := by
  rcases h with h0 | ⟨b, o, rfl, hc⟩
  · exact absurd h0 hn
  · cases ha
    exact block_lt_of_cell (hc 0 (List.length_pos_iff.2 hn))

set_option maxHeartbeats 4000000 in
set_option maxRecDepth 100000 in
theorem write_in (g : Nat) (l : List Nat) (p : Option Addr) (c : Nat) (bs : List Nat) (w : World) (hM : MadeH w g l ∨ l = [] ∧ Arr w g 123 zeroH)
    (hb : BI w p bs) (hp : p = none → c = 0) (hpg : ∀ a, p = some a → bs ≠ [] → a.block ≠ g) (hby : BytesN bs) (hbc : bs.length ≤ c) (hcm : c ≤ maxLen) (hsz : l.length + bs.length ≤ 1000000) (hL : Laid w) (hg2 : 2 ≤ g) :
    Calls Tryd.prog 52 #[.pointer (some ⟨g, 0, none⟩), .slice p bs.length c] w fun e w' => e = .returned (.tuple #[]) ∧ MadeH w' g (l ++ bs) ∧ w.grownBy w' (some g) := by
  have HM : Hid (∃ b, (b = true ∧ MadeH w g l ∨ b = false ∧ l = [] ∧ Arr w g 123 zeroH) ∧ Calls Tryd.prog 65 #[.pointer (some ⟨g, 0, none⟩)] w fun e w' => e = .returned (.bool b) ∧ w' = w.drew) := by
    rcases hM with h | ⟨h0, h⟩
    · obtain ⟨ws, rest, hA, hR⟩ := h
      exact ⟨true, Or.inl ⟨rfl, ws, rest, hA, hR⟩, made_any g ws rest l w hA hR hL⟩
    · exact ⟨false, Or.inr ⟨rfl, h0, h⟩, made_zero g w h hL⟩
  have HB0 := hide hb
  have HP := hide hp
  have HPG := hide hpg
  have HBY := hide hby
  have HL0 := hide hL
  clear hM hb hp hpg hby hL
  obtain ⟨b, hbm, hcm0⟩ := HM.out
  have HBM := hide hbm
  have HMC := hide hcm0
  clear HM hbm hcm0
  go_enter Tryd.func52, Tryd.ntmps52
  go_upto_if 9 with fail
  refine HMC.out.mono ?_
  rintro e w0 ⟨rfl, hw0⟩
  have B0 := hide (show Below w.heap.size w w0 from by rw [hw0]; exact (Below.refl _ _).drew)
  clear hw0 HMC
  go_upto_if 9 with fail
  go_cut [9] (fun _ wc => MadeH wc g l ∧ w.grownBy wc (some g))
  case first =>
    rcases HBM.out with ⟨rfl, hM⟩ | ⟨rfl, h0, hA⟩
    · have HM := hide hM
      clear hM
      go_wp2
      go_meet
      case rel => exact ⟨HM.out.kept B0.out, below_grown B0.out _⟩
    · have HL1 := hide (HL0.out.kept B0.out)
      have HA0 := hide (hA.kept B0.out)
      have H0 := hide h0
      clear hA h0
      go_wp2_with fail
      refine (s_new_any w0 HL1.out).mono ?_
      rintro e w1 ⟨rfl, hw1⟩
      have N1 := hide (show Arr w1 w0.heap.size 123 (hCells startT (List.replicate 64 0) 0) from by rw [hw1]; exact Arr.new w0 _ _)
      have A1 := hide (show Arr w1 g 123 zeroH from by rw [hw1]; exact HA0.out.alloc _)
      have G1 := hide (show w.grownBy w1 (some g) from by rw [hw1]; exact grown_trans (below_grown B0.out _) (below_grown ((Below.refl _ _).alloc (Nat.le_refl _) _) _))
      have HI : Hid ((Tryd.prog.info? 123).map (·.size) = some (hCells startT (List.replicate 64 0) 0).toArray.size) := by show _ = _; rw [info49]; rfl
      have HO : Hid (zeroH.toArray.size = (hCells startT (List.replicate 64 0) 0).toArray.size) := rfl
      clear hw1 HA0
      have HR0 : Hid (RepH [] startT (List.replicate 64 0)) := RepH.none
      have H1C : Hid ((hCells startT (List.replicate 64 0) 0).toArray.all (·.oneCell') = true) := one_hCells _ _ _
      generalize zeroH = Z at *
      generalize hNC : hCells startT (List.replicate 64 0) 0 = NC at *
      have HNC := hide hNC
      clear hNC
      go_wp2_with (first
        | (refine wpList_load_row rfl 123 _ rfl w0.heap.size rfl 123 _ (0, 0) _ N1.out Tryd.underlying123 rfl HI.out ?_)
        | (refine wpList_store_row rfl 123 _ _ rfl g _ rfl rfl 123 _ A1.out HI.out HO.out H1C.out ?_))
      go_meet
      case rel =>
        refine ⟨⟨startT, List.replicate 64 0, ?_, by rw [H0.out]; exact HR0.out⟩, grown_trans G1.out (grown_row _ g _)⟩
        rw [H0.out]
        show Arr _ _ _ (hCells startT (List.replicate 64 0) 0)
        rw [HNC.out]
        exact A1.out.row _
  case rest =>
    obtain ⟨⟨ws, rest, hA, hR⟩, hG0⟩ := hcut
    have HA := hide hA
    have HR := hide hR
    have HB := hide (bi_grown HB0.out hG0 HPG.out)
    have HL := hide (HL0.out.grown hG0 hg2)
    have HG0 := hide hG0
    clear hA hR hG0 HB0 HL0 HBM B0
    go_wp2
    go_loopg [1, 4] (bs.length + 1) (fun f s1 _ wr => ∃ (br : List Nat) (p' : Option Addr) (c' : Nat) (l' ws' rest' : List Nat), s1 = .slice p' br.length c' ∧ br.length < f ∧ BI wr p' br ∧ (p' = none → c' = 0) ∧ (∀ a, p' = some a → br ≠ [] → a.block ≠ g) ∧ BytesN br ∧ br.length ≤ c' ∧ c' ≤ maxLen ∧ l' ++ br = l ++ bs ∧
      Arr wr g 123 (hCells ws' rest' l'.length) ∧ RepH l' ws' rest' ∧ wc.grownBy wr (some g))
    case atStart => exact ⟨bs, p, c, l, ws, rest, rfl, by omega, HB.out, HP.out, HPG.out, HBY.out, hbc, hcm, rfl, HA.out, HR.out, grown_refl _ _⟩
    case round =>
      clear HA HR HB HP HPG HBY
      obtain ⟨br, p', c', l', ws', rest', rfl, hf, hb, hp, hpg, hby, hbc', hcm', hlb, hA, hR, hG⟩ := hrel
      have HLB := hide hlb
      have HG := hide hG
      have hll : l'.length + br.length = l.length + bs.length := by have := congrArg List.length hlb; simpa using this
      by_cases hbr : br.length = 0
      · have hbn : br = [] := List.eq_nil_of_length_eq_zero hbr
        subst hbn
        rw [List.append_nil] at hlb
        have HA := hide hA
        have HR := hide hR
        clear hA hR hlb hb hp hpg hby hG hll
        go_wp2
        go_end0
        exact ⟨rfl, ⟨ws', rest', by rw [← HLB.out, List.append_nil]; exact HA.out, by rw [← HLB.out, List.append_nil]; exact HR.out⟩, grown_trans HG0.out HG.out⟩
      · have h8 : ws'.length = 8 := by rw [hR.1]; exact hashTo_length _ _
        have hww : Words ws' := by rw [hR.1]; exact hashTo_words _ _
        have h64 : rest'.length = 64 := hR.2.1
        have hrb : BytesN rest' := hR.2.2.1
        obtain ⟨r, hr⟩ : ∃ r, r = l'.length % 64 := ⟨_, rfl⟩
        obtain ⟨m, hm⟩ : ∃ m, m = Nat.min br.length (64 - r) := ⟨_, rfl⟩
        have hmd : m = if br.length ≤ 64 - r then br.length else 64 - r := by rw [hm]; exact Nat.min_def
        have hmb : m ≤ br.length := by rw [hmd]; split <;> omega
        have hmr : r + m ≤ 64 := by rw [hmd]; split <;> omega
        have hm1 : 1 ≤ m := by rw [hmd]; split <;> omega
        have hc72 := hash_size h8 h64 hA
        have hrlt : r < 64 := by omega
        have hri : ((l'.length : Nat) : Int) % 64 = (r : Int) := by omega
        have hsl := fun v => run_rest v g r hrlt
        rcases hb with hb0 | ⟨pb, po, hpe, hbt⟩
        · subst hb0; simp at hbr
        subst hpe
        have hpbg : pb ≠ g := hpg _ rfl (fun e => hbr (by rw [e]; rfl))
        have HCP : Hid ((Builtin.copy_ #[42, 42] 3 #[.slice (some ⟨g, 8 + r, none⟩) (64 - r) (64 - r), .slice (some ⟨pb, po, none⟩) br.length c']).run Tryd.prog wr.drew = .ok (.int .i64 (m : Int)) (wr.drew.setRow g (hCells ws' (restTo rest' br r m) l'.length).toArray)) := by
          show _ = _
          have hlen : (u8s (br.take m)).length = m := by simp [u8s]; omega
          have h := run_copy_row (P := Tryd.prog) wr.drew 42 42 3 5 g (8 + r) (64 - r) (64 - r) ⟨pb, po, none⟩ br.length c' (hCells ws' rest' l'.length).toArray 123 (u8s (br.take m)) Tryd.underlying42 info8 hA (by rw [hlen]; exact hm)
            (fun j v hv => by
              have hj : j < (br.take m).length := by have := (List.getElem?_eq_some_iff.1 hv).1; simpa [u8s] using this
              rw [u8s_at hj] at hv
              cases hv
              have hj' : j < br.length := by simp at hj; omega
              rw [Addr.add_mid]
              refine (hbt j hj').trans ?_
              rw [getD_take br m j (by simp at hj; omega)])
            (by rw [hlen]; simp [hCells, u32s, u8s, h8, h64]; omega) (one_mem _)
          rw [hlen] at h
          have hc := hash_copied (n := l'.length) h8 h64 hmb hmr
          rw [show (hCells ws' rest' l'.length).toArray.toList = hCells ws' rest' l'.length from rfl, hc] at h
          exact h
        have HA := hide hA
        have HR := hide hR
        have HBT := hide hbt
        have HRS := hide hr
        have HMM := hide hm
        have HW := hide hww
        have h8H := hide h8
        have h64H := hide h64
        have HHP := hide hpg
        have HBY := hide hby
        have HRB := hide hrb
        have hlen6 : l'.length ≤ 1000000 := by omega
        have hbpos : 0 < br.length := by omega
        have hbrb : br.length ≤ 1000000 := by omega
        unfold maxLen at hcm'
        clear hA hR hbt hr hm hmd hww h8 h64 hlb hG hp hpg hby hrb hbr
        generalize hn : l'.length = n at *
        have HN := hide hn
        generalize hk : br.length = k at *
        have HK := hide hk
        clear hn hk
        have htm : Int.tmod (n : Int) 64 = (r : Int) := by rw [Int.tmod_eq_emod_of_nonneg (by omega)]; exact hri
        go_upto_region 4 with fail
        go_cut [4] (fun s4 wc => s4 = .int .i64 (m : Int) ∧ Arr wc g 123 (hCells ws' (restTo rest' br r m) n) ∧ wr.grownBy wc (some g))
        case first =>
          refine wp_region_any (by kernel_rfl) ?_
          try (change wpAny _ _ _ _ _ _ _ (World.drew _))
          refine take_dst (i := 0) (d := 18) (v := ?_) rfl rfl (by kernel_rfl) (by kernel_rfl) (by kernel_rfl) (fun _ _ _ h => h) (by rfl) ?_ ?_
          rotate_left
          · intro wZ; go_simp; first | (with_reducible rfl) | (rw [if_pos (by omega)]; with_reducible rfl) | skip
          try simp only [Act.put, List.setIfInBounds_toArray, List.set_cons_zero, List.set_cons_succ]
          refine take_dst (i := 1) (d := 19) (v := ?_) rfl rfl (by kernel_rfl) (by kernel_rfl) (by kernel_rfl) (fun _ _ _ h => h) (by rfl) ?_ ?_
          rotate_left
          · intro wZ; go_simp; first | (with_reducible rfl) | (rw [if_pos (by omega)]; with_reducible rfl) | skip
          try simp only [Act.put, List.setIfInBounds_toArray, List.set_cons_zero, List.set_cons_succ]
          refine take_dst (i := 2) (d := 20) (v := ?_) rfl rfl (by kernel_rfl) (by kernel_rfl) (by kernel_rfl) (fun _ _ _ h => h) (by rfl) ?_ ?_
          rotate_left
          · intro wZ; go_simp; first | (with_reducible rfl) | (rw [if_pos (by omega)]; with_reducible rfl) | skip
          try simp only [Act.put, List.setIfInBounds_toArray, List.set_cons_zero, List.set_cons_succ]
          refine take_dst (i := 3) (d := 21) (v := ?_) rfl rfl (by kernel_rfl) (by kernel_rfl) (by kernel_rfl) (fun _ _ _ h => h) (by rfl) ?_ ?_
          rotate_left
          · intro wZ; go_simp; first | (with_reducible rfl) | (rw [if_pos (by omega)]; with_reducible rfl) | skip
          try simp only [Act.put, List.setIfInBounds_toArray, List.set_cons_zero, List.set_cons_succ]
          refine take_dst (i := 4) (d := 22) (v := ?_) rfl rfl (by kernel_rfl) (by kernel_rfl) (by kernel_rfl) (fun _ _ _ h => h) (by rfl) ?_ ?_
          rotate_left
          · intro wZ; go_simp; first | (with_reducible rfl) | (rw [if_pos (by omega)]; with_reducible rfl) | skip
          try simp only [Act.put, List.setIfInBounds_toArray, List.set_cons_zero, List.set_cons_succ]
          refine take_dst (i := 5) (d := 23) (v := ?_) rfl rfl (by kernel_rfl) (by kernel_rfl) (by kernel_rfl) (fun _ _ _ h => h) (by rfl) ?_ ?_
          rotate_left
          · intro wZ; go_simp; first | (with_reducible rfl) | (rw [if_pos (by omega)]; with_reducible rfl) | skip
          try simp only [Act.put, List.setIfInBounds_toArray, List.set_cons_zero, List.set_cons_succ]
          refine take_dst (i := 9) (d := 27) (v := ?_) rfl rfl (by kernel_rfl) (by kernel_rfl) (by kernel_rfl) (fun _ _ _ h => h) (by rfl) ?_ ?_
          rotate_left
          · intro wZ; go_simp; first | (with_reducible rfl) | (rw [if_pos (by omega)]; with_reducible rfl) | skip
          try simp only [Act.put, List.setIfInBounds_toArray, List.set_cons_zero, List.set_cons_succ]
          refine wpAny_ready (rs := [6]) (by kernel_rfl) (by simp) ?_
          refine (AllReady.cons rfl (fun K hK => ?_) AllReady.nil)
          go_simp
          first | (refine hK _ _ ?_; clear hK K) | (clear hK K) | skip
          try simp only [Act.put, List.setIfInBounds_toArray, List.set_cons_zero, List.set_cons_succ]
          refine take_dst (i := 7) (d := 25) (v := ?_) rfl rfl (by kernel_rfl) (by kernel_rfl) (by kernel_rfl) (fun _ _ _ h => h) (by rfl) ?_ ?_
          rotate_left
          · intro wZ; go_simp; first | (with_reducible rfl) | (rw [if_pos (by omega)]; with_reducible rfl) | skip
          try simp only [Act.put, List.setIfInBounds_toArray, List.set_cons_zero, List.set_cons_succ]
          refine take_dst (i := 8) (d := 26) (v := ?_) rfl rfl (by kernel_rfl) (by kernel_rfl) (by kernel_rfl) (fun _ _ _ h => h) (by rfl) ?_ ?_
          rotate_left
          · intro wZ; go_simp; first | (with_reducible rfl) | (rw [if_pos (by omega)]; with_reducible rfl) | skip
          try simp only [Act.put, List.setIfInBounds_toArray, List.set_cons_zero, List.set_cons_succ]
          refine wpAny_ready (rs := [10]) (by kernel_rfl) (by simp) ?_
          refine (AllReady.cons rfl (fun K hK => ?_) AllReady.nil)
          refine wp_copy_dst _ (dd := 28) rfl (.tmp 26) (.tmp 27) 42 42 rfl _ _ rfl rfl HCP.out ?_
          first | (refine hK _ _ ?_; clear hK K) | (clear hK K) | skip
          try simp only [Act.put, List.setIfInBounds_toArray, List.set_cons_zero, List.set_cons_succ]
          refine take_dst (i := 11) (d := 4) (v := ?_) rfl rfl (by kernel_rfl) (by kernel_rfl) (by kernel_rfl) (fun _ _ _ h => h) (by rfl) ?_ ?_
          rotate_left
          · intro wZ; go_simp; first | (with_reducible rfl) | (rw [if_pos (by omega)]; with_reducible rfl) | skip
          try simp only [Act.put, List.setIfInBounds_toArray, List.set_cons_zero, List.set_cons_succ]
          refine wpAny_done (by kernel_rfl) ?_ _
          go_wp2_with fail
          go_meet
          case rel => exact ⟨rfl, HA.out.row _, grown_trans (grown_drew (grown_refl _ _)) (grown_row _ g _)⟩
        case rest =>
          obtain ⟨rfl, hA4, hG4⟩ := hcut
          have hrl : (restTo rest' br r m).length = 64 := restTo_length h64H.out (by rw [HK.out]; exact hmb) hmr
          have d72 := hash_size h8H.out hrl hA4
          have f72 := hA4.frozen 72
          have hfr := fun v => run_from v (some ⟨pb, po, none⟩) k c' m hmb
          obtain ⟨nm, hnmv⟩ : ∃ x, x = n + m := ⟨_, rfl⟩
          have HNM := hide hnmv
          have hA5 := hA4.set 72 (.int .i64 ((nm : Nat) : Int))
          rw [hash_sized h8H.out hrl] at hA5
          have HA5 := hide hA5
          have HG5 := hide (grown_trans hG4 (s_grown_set wc g 72 (.int .i64 ((nm : Nat) : Int))))
          have hnm : (n : Int) + (m : Int) = (nm : Int) := by omega
          have HBI := hide (bi_from (w := wr) (p := some ⟨pb, po, none⟩) (bs := br) (Or.inr ⟨pb, po, rfl, HBT.out⟩) m c' (by rw [HK.out]; exact hbc'))
          have hnpg : Hid (∀ a, cutP (some ⟨pb, po, none⟩) m c' = some a → br.drop m ≠ [] → a.block ≠ g) := fun a ha _ => by
            obtain ⟨a0, h0, he⟩ := cutP_block ha
            cases h0; rw [he]; exact hpbg
          have hnil : Hid (cutP (some ⟨pb, po, none⟩) m c' = none → c' - m = 0) := fun h => by
            unfold cutP at h; split at h <;> simp at h
          have hcat : Hid (l' ++ br.take m ++ br.drop m = l ++ bs) := by show _ = _; rw [List.append_assoc, List.take_append_drop]; exact HLB.out
          have hdl : Hid ((br.drop m).length = k - m) := by show _ = _; rw [List.length_drop, HK.out]
          have htl : Hid ((l' ++ br.take m).length = nm) := by show _ = _; rw [hnmv]; simp [HN.out, HK.out]; omega
          have hdb : Hid (BytesN (br.drop m)) := fun x hx => HBY.out x (List.mem_of_mem_drop hx)
          clear hA4 hA5 hG4 HA HCP
          generalize cutP (some ⟨pb, po, none⟩) m c' = pn at *
          by_cases hwh : r + m = 64
          · have hz0 : (nm : Int) % 64 = 0 := by omega
            have hz0' : Int.tmod (nm : Int) 64 = 0 := by rw [Int.tmod_eq_emod_of_nonneg (by omega)]; exact hz0
            clear hnmv
            go_upto_region 8 with fail
            have hLn := (HL.out.grown HG.out hg2).grown HG5.out hg2
            generalize wc.setCell ⟨g, 72, none⟩ (.int .i64 (nm : Int)) = w5 at *
            have hRB : BytesN (restTo rest' br r m) := restTo_bytes HRB.out HBY.out
            have HCB := hide (fun (v : World) (hv : Laid v) => s_block_any ws' (restTo rest' br r m) v h8H.out HW.out hrl hRB hv)
            have HREP := hide (show RepH (l' ++ br.take m) (blockF ws' (restTo rest' br r m)) (restTo rest' br r m) from by
              have h := HR.out.whole HBY.out (m := m) (by rw [HK.out]; exact hmb) (by rw [HN.out, ← HRS.out]; exact hwh)
              rw [HN.out, ← HRS.out] at h
              exact h)
            have HWR := hide (hash_range HA5.out)
            have HRR := hide (hash_rest h8H.out HA5.out)
            have HLn := hide hLn
            have I26 : Hid ((Tryd.prog.info? 121).map (·.size) = some (u32s ws').length) := by show _ = _; rw [info26]; simp [u32s, h8H.out]
            have I27 : Hid ((Tryd.prog.info? 105).map (·.size) = some (u8s (restTo rest' br r m)).length) := by show _ = _; rw [info27]; simp [u8s, hrl]
            have hbl := blockF_length ws' (restTo rest' br r m)
            have I26' : Hid ((Tryd.prog.info? 121).map (·.size) = some (u32s (blockF ws' (restTo rest' br r m))).toArray.size) := by show _ = _; rw [info26]; simp [u32s, hbl]
            have HFT : Hid ((u32s (blockF ws' (restTo rest' br r m))).toArray.size ≤ (hCells ws' (restTo rest' br r m) nm).toArray.size) := by show _ ≤ _; simp [hCells, u32s, u8s, hbl, hrl, h8H.out]
            have HHD := hide (hash_headed (rest := restTo rest' br r m) (n := nm) h8H.out hbl)
            have HSZ : Hid ((u32s (blockF ws' (restTo rest' br r m))).toArray.size = 8) := by show _ = _; simp [u32s, hbl]
            clear hLn hRB hrl hbl
            generalize blockF ws' (restTo rest' br r m) = bw at *
            generalize restTo rest' br r m = R at *
            refine wp_region_any (by kernel_rfl) ?_
            try (change wpAny _ _ _ _ _ _ _ (World.drew _))
            refine take_dst (i := 0) (d := 46) (v := ?_) rfl rfl (by kernel_rfl) (by kernel_rfl) (by kernel_rfl) (fun _ _ _ h => h) (by rfl) ?_ ?_
            rotate_left
            · intro wZ; go_simp; first | (with_reducible rfl) | (rw [if_pos (by omega)]; with_reducible rfl) | skip
            try simp only [Act.put, List.setIfInBounds_toArray, List.set_cons_zero, List.set_cons_succ]
            refine take_dst (i := 1) (d := 47) (v := ?_) rfl rfl (by kernel_rfl) (by kernel_rfl) (by kernel_rfl) (fun _ _ _ h => h) (by rfl) ?_ ?_
            rotate_left
            · intro wZ; go_simp; first | (with_reducible rfl) | (rw [if_pos (by omega)]; with_reducible rfl) | skip
            try simp only [Act.put, List.setIfInBounds_toArray, List.set_cons_zero, List.set_cons_succ]
            refine take_dst (i := 2) (d := 48) (v := ?_) rfl rfl (by kernel_rfl) (by kernel_rfl) (by kernel_rfl) (fun _ _ _ h => h) (by rfl) ?_ ?_
            rotate_left
            · intro wZ; go_simp; first | (with_reducible rfl) | (rw [if_pos (by omega)]; with_reducible rfl) | skip
            try simp only [Act.put, List.setIfInBounds_toArray, List.set_cons_zero, List.set_cons_succ]
            refine take_dst (i := 3) (d := 49) (v := ?_) rfl rfl (by kernel_rfl) (by kernel_rfl) (by kernel_rfl) (fun _ _ _ h => h) (by rfl) ?_ ?_
            rotate_left
            · intro wZ; go_simp; first | (with_reducible rfl) | (rw [if_pos (by omega)]; with_reducible rfl) | skip
            try simp only [Act.put, List.setIfInBounds_toArray, List.set_cons_zero, List.set_cons_succ]
            refine take_dst (i := 5) (d := 51) (v := ?_) rfl rfl (by kernel_rfl) (by kernel_rfl) (by kernel_rfl) (fun _ _ _ h => h) (by rfl) ?_ ?_
            rotate_left
            · intro wZ; go_simp; first | (with_reducible rfl) | (rw [if_pos (by omega)]; with_reducible rfl) | skip
            try simp only [Act.put, List.setIfInBounds_toArray, List.set_cons_zero, List.set_cons_succ]
            refine take_dst (i := 6) (d := 52) (v := ?_) rfl rfl (by kernel_rfl) (by kernel_rfl) (by kernel_rfl) (fun _ _ _ h => h) (by rfl) ?_ ?_
            rotate_left
            · intro wZ; go_simp; first | (with_reducible rfl) | (rw [if_pos (by omega)]; with_reducible rfl) | skip
            try simp only [Act.put, List.setIfInBounds_toArray, List.set_cons_zero, List.set_cons_succ]
            refine take_dst (i := 7) (d := 53) (v := ?_) rfl rfl (by kernel_rfl) (by kernel_rfl) (by kernel_rfl) (fun _ _ _ h => h) (by rfl) ?_ ?_
            rotate_left
            · intro wZ; go_simp; first | (with_reducible rfl) | (rw [if_pos (by omega)]; with_reducible rfl) | skip
            try simp only [Act.put, List.setIfInBounds_toArray, List.set_cons_zero, List.set_cons_succ]
            refine wpAny_ready (rs := [4, 8]) (by kernel_rfl) (by simp) ?_
            refine (AllReady.cons rfl (fun K hK => ?_) (AllReady.cons rfl (fun K hK => ?_) AllReady.nil))
            focus
              refine wp_load_mid_dst (dd := 50) rfl 121 (.tmp 49) rfl g 0 rfl (u32s ws') _ HWR.out Tryd.underlying121 rfl I26.out ?_
              first | (refine hK _ _ ?_; clear hK K) | (clear hK K) | skip
              try simp only [Act.put, List.setIfInBounds_toArray, List.set_cons_zero, List.set_cons_succ]
              refine wpAny_ready (rs := [8]) (by kernel_rfl) (by simp) ?_
              refine (AllReady.cons rfl (fun K hK => ?_) AllReady.nil)
              refine wp_load_mid_dst (dd := 54) rfl 105 (.tmp 53) rfl g 8 rfl (u8s R) _ HRR.out Tryd.underlying105 rfl I27.out ?_
              first | (refine hK _ _ ?_; clear hK K) | (clear hK K) | skip
              try simp only [Act.put, List.setIfInBounds_toArray, List.set_cons_zero, List.set_cons_succ]
              refine wpAny_ready (rs := [9]) (by kernel_rfl) (by simp) ?_
              refine (AllReady.cons rfl (fun K hK => ?_) AllReady.nil)
              go_simp
              go_wp2_with ((go_at_call 66; refine (HCB.out _ (show Laid w5.drew from HLn.out)).mono ?_; rintro e w9 ⟨rfl, hb9⟩; have HA9 := hide ((show Arr w5.drew g 123 (hCells ws' R nm) from HA5.out).kept hb9); have HG9 := hide (grown_trans (grown_drew HG5.out) (below_grown hb9 (some g))); clear hb9))
              first | (refine hK _ _ ?_; clear hK K) | (clear hK K) | skip
              try simp only [Act.put, List.setIfInBounds_toArray, List.set_cons_zero, List.set_cons_succ]
              refine take_dst (i := 10) (d := 56) (v := ?_) rfl rfl (by kernel_rfl) (by kernel_rfl) (by kernel_rfl) (fun _ _ _ h => h) (by rfl) ?_ ?_
              rotate_left
              · intro wZ; go_simp; first | (with_reducible rfl) | (rw [if_pos (by omega)]; with_reducible rfl) | skip
              try simp only [Act.put, List.setIfInBounds_toArray, List.set_cons_zero, List.set_cons_succ]
              refine take_dst (i := 11) (d := 57) (v := ?_) rfl rfl (by kernel_rfl) (by kernel_rfl) (by kernel_rfl) (fun _ _ _ h => h) (by rfl) ?_ ?_
              rotate_left
              · intro wZ; go_simp; first | (with_reducible rfl) | (rw [if_pos (by omega)]; with_reducible rfl) | skip
              try simp only [Act.put, List.setIfInBounds_toArray, List.set_cons_zero, List.set_cons_succ]
              refine wpAny_ready (rs := [12]) (by kernel_rfl) (by simp) ?_
              refine (AllReady.cons rfl (fun K hK => ?_) AllReady.nil)
              refine wp_store_head rfl 121 (.tmp 57) (.tmp 55) rfl g _ rfl rfl 123 _ HA9.out I26'.out HFT.out (one_u32s _) ?_
              first | (refine hK _ _ ?_; clear hK K) | (clear hK K) | skip
              refine wpAny_done (by kernel_rfl) ?_ _
            rotate_left 1
            focus
              refine wp_load_mid_dst (dd := 54) rfl 105 (.tmp 53) rfl g 8 rfl (u8s R) _ HRR.out Tryd.underlying105 rfl I27.out ?_
              first | (refine hK _ _ ?_; clear hK K) | (clear hK K) | skip
              try simp only [Act.put, List.setIfInBounds_toArray, List.set_cons_zero, List.set_cons_succ]
              refine wpAny_ready (rs := [4]) (by kernel_rfl) (by simp) ?_
              refine (AllReady.cons rfl (fun K hK => ?_) AllReady.nil)
              refine wp_load_mid_dst (dd := 50) rfl 121 (.tmp 49) rfl g 0 rfl (u32s ws') _ HWR.out Tryd.underlying121 rfl I26.out ?_
              first | (refine hK _ _ ?_; clear hK K) | (clear hK K) | skip
              try simp only [Act.put, List.setIfInBounds_toArray, List.set_cons_zero, List.set_cons_succ]
              refine wpAny_ready (rs := [9]) (by kernel_rfl) (by simp) ?_
              refine (AllReady.cons rfl (fun K hK => ?_) AllReady.nil)
              go_simp
              go_wp2_with ((go_at_call 66; refine (HCB.out _ (show Laid w5.drew from HLn.out)).mono ?_; rintro e w9 ⟨rfl, hb9⟩; have HA9 := hide ((show Arr w5.drew g 123 (hCells ws' R nm) from HA5.out).kept hb9); have HG9 := hide (grown_trans (grown_drew HG5.out) (below_grown hb9 (some g))); clear hb9))
              first | (refine hK _ _ ?_; clear hK K) | (clear hK K) | skip
              try simp only [Act.put, List.setIfInBounds_toArray, List.set_cons_zero, List.set_cons_succ]
              refine take_dst (i := 10) (d := 56) (v := ?_) rfl rfl (by kernel_rfl) (by kernel_rfl) (by kernel_rfl) (fun _ _ _ h => h) (by rfl) ?_ ?_
              rotate_left
              · intro wZ; go_simp; first | (with_reducible rfl) | (rw [if_pos (by omega)]; with_reducible rfl) | skip
              try simp only [Act.put, List.setIfInBounds_toArray, List.set_cons_zero, List.set_cons_succ]
              refine take_dst (i := 11) (d := 57) (v := ?_) rfl rfl (by kernel_rfl) (by kernel_rfl) (by kernel_rfl) (fun _ _ _ h => h) (by rfl) ?_ ?_
              rotate_left
              · intro wZ; go_simp; first | (with_reducible rfl) | (rw [if_pos (by omega)]; with_reducible rfl) | skip
              try simp only [Act.put, List.setIfInBounds_toArray, List.set_cons_zero, List.set_cons_succ]
              refine wpAny_ready (rs := [12]) (by kernel_rfl) (by simp) ?_
              refine (AllReady.cons rfl (fun K hK => ?_) AllReady.nil)
              refine wp_store_head rfl 121 (.tmp 57) (.tmp 55) rfl g _ rfl rfl 123 _ HA9.out I26'.out HFT.out (one_u32s _) ?_
              first | (refine hK _ _ ?_; clear hK K) | (clear hK K) | skip
              refine wpAny_done (by kernel_rfl) ?_ _
            all_goals
              rw [HSZ.out, HHD.out]
              go_wp2
              go_roundg k
              case measure => omega
              case rel =>
                have hgg := grown_trans HG9.out (grown_row w9 g (hCells bw R nm).toArray)
                refine ⟨br.drop m, pn, c' - m, l' ++ br.take m, bw, R, by rw [hdl.out], by rw [hdl.out]; omega, bi_grown HBI.out hgg hnpg.out, hnil.out, hnpg.out, hdb.out, by rw [hdl.out]; omega, by unfold maxLen; omega, hcat.out, ?_, HREP.out, grown_trans HG.out hgg⟩
                rw [htl.out]
                exact HA9.out.row _
          · have hz0 : ¬ (nm : Int) % 64 = 0 := by omega
            have hz0' : ¬ Int.tmod (nm : Int) 64 = 0 := by rw [Int.tmod_eq_emod_of_nonneg (by omega)]; exact hz0
            have HREP := hide (show RepH (l' ++ br.take m) ws' (restTo rest' br r m) from by
              have h := HR.out.part HBY.out (m := m) (by rw [HK.out]; exact hmb) (by rw [HN.out, ← HRS.out]; omega)
              rw [HN.out, ← HRS.out] at h
              exact h)
            clear hnmv hrl
            generalize restTo rest' br r m = R at *
            go_wp2
            go_roundg k
            case measure => omega
            case rel =>
              refine ⟨br.drop m, pn, c' - m, l' ++ br.take m, ws', R, by rw [hdl.out], by rw [hdl.out]; omega, bi_grown HBI.out HG5.out hnpg.out, hnil.out, hnpg.out, hdb.out, by rw [hdl.out]; omega, by unfold maxLen; omega, hcat.out, ?_, HREP.out, grown_trans HG.out HG5.out⟩
              rw [htl.out]
              exact HA5.out

theorem write_any (g : Nat) (l : List Nat) (p : Option Addr) (c : Nat) (bs : List Nat) (w : World) (hM : MadeH w g l)
    (hb : BI w p bs) (hp : p = none → c = 0) (hpg : ∀ a, p = some a → bs ≠ [] → a.block ≠ g) (hby : BytesN bs) (hbc : bs.length ≤ c) (hcm : c ≤ maxLen) (hsz : l.length + bs.length ≤ 1000000) (hL : Laid w) (hg2 : 2 ≤ g) :
    Calls Tryd.prog 52 #[.pointer (some ⟨g, 0, none⟩), .slice p bs.length c] w fun e w' => e = .returned (.tuple #[]) ∧ MadeH w' g (l ++ bs) ∧ w.grownBy w' (some g) :=
  write_in g l p c bs w (Or.inl hM) hb hp hpg hby hbc hcm hsz hL hg2

/-- a hash that is not there stays so -/
theorem write_nil (v : Value) (w : World) :
    Calls Tryd.prog 52 #[.pointer none, v] w fun e w' => e = .returned (.tuple #[]) ∧ w' = w := by
  go_enter Tryd.func52, Tryd.ntmps52
  go_wp2
  refine bodyPost_ret (results_none rfl _ _ _) rfl ?_
  exact ⟨rfl, rfl⟩

end Go.Proofs.YtbmjlofehbbkbaaDoor

/- A walk: Sum of a hash: the digest of all that it has, which stays. -/
namespace Go.Proofs.YtbmjlofehbbkbaaDoor
open Go.RowKit

theorem run_index26 (T : List Nat) (i x : Nat) (w : World) (hi : i < 8) (hx : (u32s T)[i]? = some (.int .u32 ((x : Nat) : Int))) :
    (Instr.index 121 (Value.agg (u32s T).toArray) (Value.int IntKind.i64 (i : Int))).run Tryd.prog w = .ok (.int .u32 ((x : Nat) : Int)) w := by
  obtain ⟨i0, hi0, hz0, hz1, hz2⟩ := info_parts info22s
  unfold Instr.index
  simp [asIntOf, run_underlying Tryd.underlying121 w, hi, Go.sizeOf, typeInfo, hi0, hz1, Go.part, hx]

theorem own_bi {w : World} {B : Nat} {v : Value} {xs : List Nat} (h : w.ownsRow B 5 1 v xs.length (u8s xs)) (hn : 0 < xs.length) :
    ∃ e cap, v = .slice (some ⟨e, 0, none⟩) xs.length cap ∧ B ≤ e ∧ xs.length ≤ cap ∧ cap ≤ maxLen ∧ BI w (some ⟨e, 0, none⟩) xs := by
  obtain ⟨e, cap, rfl, hB, _, hc, hm⟩ := own_shape h hn
  exact ⟨e, cap, rfl, hB, hc, hm, Or.inr ⟨e, 0, rfl, fun i hi => by rw [Nat.zero_add]; exact (h.cellAt i (by omega)).trans (u8s_at hi)⟩⟩

set_option maxHeartbeats 4000000 in
set_option maxRecDepth 100000 in
theorem hsum_of (hv : Value) (l D : List Nat) (w : World) (hI : IsH w hv l) (hln : l.length ≤ 100000) (hL : Laid w) (hD : sumF l = D) :
    Calls Tryd.prog 53 #[hv] w fun e w' => e = .returned (.agg (u8s D).toArray) ∧ Below w.heap.size w w' := by
  have hel : (endF l.length).length = 9 + padZ l.length := by simp [endF, be8_length]; omega
  have hz64 : padZ l.length < 64 := Nat.mod_lt _ (by omega)
  have heb : BytesN (endF l.length) := by
    intro x hx
    simp only [endF, List.mem_append] at hx
    rcases hx with (hx | hx) | hx
    · simp at hx; omega
    · rw [List.eq_of_mem_replicate hx]; omega
    · exact be8_bytes _ _ x hx
  have hpe := padF_end l
  have hpw := padF_whole l
  have hDl : D.length = 32 := by rw [← hD]; exact digestF_length _
  have hDa : ∀ i, i < 32 → D.getD i 0 = (hashTo (padF l) ((padF l).length / 64)).getD (i / 4) 0 / 2 ^ (24 - 8 * (i % 4)) % 256 := fun i hi => by rw [← hD]; exact digestF_at _ i hi
  have HCopy := hide (fun (u : World) (h1 : IsH u hv l) (h2 : Laid u) => copy_is hv l u h1 h2)
  have HEnd := hide (fun (v : World) => ending_any l.length v (by omega))
  have HWr := hide (fun (x : Nat) (p : Option Addr) (c : Nat) (v : World) (h1 : MadeH v x l) (h2 : BI v p (endF l.length)) (h3 : p = none → c = 0) (h4 : ∀ a, p = some a → a.block ≠ x) (h5 : (endF l.length).length ≤ c) (h6 : c ≤ maxLen) (h7 : Laid v) (h8 : 2 ≤ x) =>
    write_any x l p c (endF l.length) v h1 h2 h3 (fun a ha _ => h4 a ha) heb h5 h6 (by omega) h7 h8)
  have HSZ : Hid (∀ (v : World) (x : Nat), MadeH v x l → v.cell? ⟨x, 72, none⟩ = some (.int .i64 (l.length : Int))) := fun v x hM => by
    obtain ⟨ws, rest, hA, hR⟩ := hM
    exact hash_size hR.h8 hR.2.1 hA
  rw [← hpe] at HWr
  have HA := hide hI
  have HL := hide hL
  have hL2 := hL.size
  have DL := hide hDl
  have DA := hide hDa
  have HPW := hide hpw
  have HEL := hide hel
  clear hI hL hD hDl hDa hpe hpw hel heb
  generalize padF l = PF at *
  generalize endF l.length = E at *
  generalize hnn : l.length = n at *
  clear hnn
  go_enter Tryd.func53, Tryd.ntmps53
  go_upto_region 1 with fail
  rw [← u8s_zeros]
  have B1 : Hid (Below w.heap.size w (w.alloc Z32)) := (Below.refl _ _).alloc (Nat.le_refl _) _
  have A1 := hide (Arr.new w 23 (u8s (List.replicate 32 0)))
  have hs1 : Hid ((w.alloc Z32).heap.size = w.heap.size + 1) := by show _ = _; simp
  generalize w.alloc Z32 = w1 at *
  go_wp2_with fail
  refine (HCopy.out w1 (HA.out.kept B1.out) (HL.out.keptB (B := w.heap.size) hL2 B1.out)).mono ?_
  rintro e w2 ⟨rfl, hX2, hb2⟩
  have B2 : Hid (Below w.heap.size w w2) := B1.out.trans (hb2.mono B1.out.size)
  have A2 := hide (A1.out.kept hb2)
  have X2 := hide hX2
  have c72 := HSZ.out _ _ hX2
  have hXw2 := hX2.lt
  have HXW2 := hide hXw2
  have HLd2 := hide (HL.out.keptB (B := w.heap.size) hL2 B2.out)
  clear hX2 hb2 hXw2 HCopy A1 B1
  have hs1' := hs1.out
  generalize w1.heap.size = X at *
  have HX1 := hide hs1'
  clear hs1' hs1
  go_wp2_with fail
  refine (HEnd.out w2).mono ?_
  rintro e w3 ⟨ve, rfl, hown3, hb3⟩
  have hElen : 0 < E.length := by rw [HEL.out]; omega
  obtain ⟨eb, ec, rfl, heB, hec, hem, hbi⟩ := own_bi hown3 hElen
  have B3 : Hid (Below w.heap.size w w3) := B2.out.trans (hb3.mono B2.out.size)
  have A3 := hide (A2.out.kept hb3)
  have X3 := hide (X2.out.kept hb3)
  have HLd3 := hide (HL.out.keptB (B := w.heap.size) hL2 B3.out)
  have HBI := hide hbi
  have hne : Hid (eb ≠ X) := by have := HXW2.out; show _ ≠ _; omega
  have HEC := hide hec
  have HEM := hide hem
  clear hown3 hb3 hbi A2 X2 c72 HEnd B2 hec hem
  go_wp2_with fail
  refine (HWr.out X (some ⟨eb, 0, none⟩) ec w3 X3.out HBI.out (fun h => by cases h) (fun a ha => by cases ha; exact hne.out) HEC.out HEM.out HLd3.out (by have := HX1.out; omega)).mono ?_
  rintro e w4 ⟨rfl, ⟨ws', rest', hX4, hR4⟩, hg4⟩
  have hwX : w.heap.size ≠ X := by have := HX1.out; omega
  have A4 := hide (A3.out.grown' hg4 hwX)
  have B4 : Hid (Below w.heap.size w w4) := B3.out.grown hg4 B3.out.size (by intro k hk; cases hk; have := HX1.out; omega)
  have h8' : ws'.length = 8 := by rw [hR4.1]; exact hashTo_length _ _
  have hww' : Words ws' := by rw [hR4.1]; exact hashTo_words _ _
  have hDa := DA.out
  rw [← hR4.1] at hDa
  have DA' := hide hDa
  have XR := hide (hash_range hX4)
  have H8' := hide h8'
  have HW' := hide hww'
  have I26 : Hid ((Tryd.prog.info? 121).map (·.size) = some (u32s ws').length) := by show _ = _; rw [info26]; simp [u32s, h8']
  clear hX4 hR4 hg4 hDa DA A3 B3 X3 HWr HLd3 HLd2 h8' hww' HPW
  go_upto_region 4 with fail
  rw [← u8s_zeros]
  have B5 : Hid (Below w.heap.size w (w4.alloc Z32)) := B4.out.alloc B4.out.size _
  have A5 := hide (A4.out.alloc Z32)
  have XR5 := hide (World.rangeAt_alloc XR.out Z32)
  have O5 := hide (Arr.new w4 23 (u8s (List.replicate 32 0)))
  have HO5 : Hid (w.heap.size < w4.heap.size) := A4.out.lt
  clear A4 B4 XR
  generalize w4.alloc Z32 = w5 at *
  generalize w4.heap.size = O at *
  go_wp2_with (refine wpList_load_mid rfl 121 _ rfl X 0 rfl (u32s ws') _ XR5.out Tryd.underlying121 rfl I26.out ?_)
  go_loopg [21] 9 (fun f s21 wr => ∃ (i : Nat), s21 = .int .i64 i ∧ i ≤ 8 ∧ 8 - i < f ∧ Arr wr w.heap.size 23 (u8s (List.replicate 32 0)) ∧ Arr wr O 23 (u8s (part D 32 (4 * i))) ∧ Below w.heap.size w wr)
  case atStart => exact ⟨0, rfl, by omega, by omega, A5.out, O5.out, B5.out⟩
  case round =>
    clear A5 O5 B5 XR5
    obtain ⟨i, rfl, hi, hf, hA, hO, hB⟩ := hrel
    by_cases hi8 : i < 8
    · have hix := run_index26 ws' i (ws'.getD i 0) wr hi8 (u32s_at (by rw [H8'.out]; exact hi8))
      have ly := HW'.out.getD i
      have DI : Hid (∀ j, j < 4 → D.getD (4 * i + j) 0 = ws'.getD i 0 / 2 ^ (24 - 8 * j) % 256) := fun j hj => by
        rw [DA'.out (4 * i + j) (by omega), show (4 * i + j) / 4 = i by omega, show (4 * i + j) % 4 = j by omega]
      have HA := hide hA
      have HO := hide hO
      have HB := hide hB
      clear hA hO hB
      have hi8' : (i : Int) < 8 := by omega
      generalize ws'.getD i 0 = y at *
      go_wp2
      go_loopg [25] 5 (fun f s25 wr => ∃ (j : Nat), s25 = .int .i64 j ∧ j ≤ 4 ∧ 4 - j < f ∧ Arr wr w.heap.size 23 (u8s (List.replicate 32 0)) ∧ Arr wr O 23 (u8s (part D 32 (4 * i + j))) ∧ Below w.heap.size w wr)
      case atStart => exact ⟨0, rfl, by omega, by omega, HA.out, HO.out, HB.out⟩
      case round =>
        clear HA HO HB hix
        obtain ⟨j, rfl, hj, hfj, hA, hO, hB⟩ := hrel
        by_cases hj4 : j < 4
        · obtain ⟨q, hq⟩ : ∃ q, q = 4 * i + j := ⟨_, rfl⟩
          obtain ⟨sf, hsf⟩ : ∃ q, q = 24 - 8 * j := ⟨_, rfl⟩
          have hdv := DI.out j hj4
          rw [← hq, ← hsf] at hdv
          have ez : ∃ x, wr.cell? ⟨O, q, none⟩ = some (.int .u8 x) := ⟨_, (hO.cell q).trans (u8s_at (by rw [part_length _ _ _ DL.out (by omega)]; omega))⟩
          obtain ⟨xz, cz⟩ := ez
          have fz := hO.frozen q
          have HST := hide (hO.set q (.int .u8 ((D.getD q 0 : Nat) : Int)))
          rw [← hq, u8s_set, part_set _ _ _ DL.out (by omega)] at HST
          have e1 : (4 : Int) * (i : Int) + (j : Int) = (q : Int) := by omega
          have e2 : (24 : Int) - 8 * (j : Int) = (sf : Int) := by omega
          have pq : (q : Int) < 32 := by omega
          have pj : (j : Int) < 4 := by omega
          have hs24 : sf ≤ 24 := by omega
          have e3 : ((y : Int) / 2 ^ sf) % 256 = ((D.getD q 0 : Nat) : Int) := by rw [hdv]; simp
          have HA := hide hA
          have HB := hide hB
          have HQ := hide hq
          clear hA hO hB hsf hdv hq
          generalize D.getD q 0 = dv at *
          go_wp2
          go_roundg (4 - j)
          case measure => omega
          case rel =>
            refine ⟨j + 1, by go_num, by omega, by omega, HA.out.other _ _ (Nat.ne_of_lt HO5.out), ?_, HB.out.setCell (Nat.le_of_lt HO5.out) _⟩
            rw [show 4 * i + (j + 1) = q + 1 by have := HQ.out; omega]
            exact HST.out
        · have e : j = 4 := by omega
          subst e
          have HA := hide hA
          have HO := hide hO
          have HB := hide hB
          clear hA hO hB
          go_wp2
          go_roundg (8 - i)
          case measure => omega
          case rel => exact ⟨i + 1, by go_num, by omega, by omega, HA.out, HO.out, HB.out⟩
    · have e : i = 8 := by omega
      subst e
      have hO' := hO
      rw [show 4 * 8 = 32 from rfl, part_full _ _ DL.out] at hO'
      have HZ2 := hide hO'
      have HG0 := hide hA
      have HB := hide hB
      have HI32 : Hid ((Tryd.prog.info? 23).map (·.size) = some (u8s D).toArray.size) := by show _ = _; rw [info35]; simp [u8s, DL.out]
      have HO32 : Hid ((u8s (List.replicate 32 0)).toArray.size = (u8s D).toArray.size) := by show _ = _; simp [u8s, DL.out]
      clear hO hO' hA hB
      go_wp2_with (first
        | (refine wpList_load_row rfl 23 _ rfl O rfl 23 _ (0, 0) _ HZ2.out Tryd.underlying23 rfl HI32.out ?_)
        | (refine wpList_store_row rfl 23 _ _ rfl w.heap.size _ rfl rfl 23 _ HG0.out HI32.out HO32.out (all_u8s _) ?_))
      exact bodyPost_ret (v := .agg (u8s D).toArray) (results_cell_row Tryd.results53 _ _ w.heap.size 23 _ (0, 0) _ rfl (HG0.out.row _) Tryd.underlying23 rfl HI32.out) rfl ⟨rfl, below_setRow HB.out (Nat.le_refl _) HG0.out.lt _⟩

end Go.Proofs.YtbmjlofehbbkbaaDoor

/- A walk: Sum of the package: the digest of pieces, one behind the other. -/
namespace Go.Proofs.YtbmjlofehbbkbaaDoor
open Go.RowKit

/-- so many pieces, one behind the other -/
def joinF (B : Nat → List Nat) : Nat → List Nat
  | 0 => []
  | i + 1 => joinF B i ++ B i

theorem joinF_mono (B : Nat → List Nat) {i k : Nat} (h : i ≤ k) : (joinF B i).length ≤ (joinF B k).length := by
  induction k with
  | zero => have : i = 0 := by omega
            subst this; exact Nat.le_refl _
  | succ k ih =>
    by_cases e : i = k + 1
    · subst e; exact Nat.le_refl _
    · have := ih (by omega); simp [joinF]; omega

set_option maxHeartbeats 4000000 in
set_option maxRecDepth 100000 in
theorem ssum_of (sp : Option Addr) (k cc : Nat) (P : Nat → Option Addr) (C : Nat → Nat) (B : Nat → List Nat) (D : List Nat) (w : World)
    (hsl : k = 0 ∨ ∃ q o, sp = some ⟨q, o, none⟩ ∧ ∀ i, i < k → w.cell? ⟨q, o + i, none⟩ = some (.slice (P i) (B i).length (C i)))
    (hpc : ∀ i, i < k → Piece w (P i) (C i) (B i)) (htot : (joinF B k).length ≤ 100000) (hk : k ≤ 100000) (hL : Laid w)
    (hD : sumF (joinF B k) = D) :
    Calls Tryd.prog 63 #[.slice sp k cc] w fun e w' => e = .returned (.agg (u8s D).toArray) ∧ Below w.heap.size w w' := by
  have HPC := hide hpc
  have HSL := hide hsl
  have HL := hide hL
  have hL2 := hL.size
  have HT := hide htot
  have hDl : D.length = 32 := by rw [← hD]; exact digestF_length _
  have DL := hide hDl
  have HD := hide (fun (g : Nat) (v : World) (h1 : MadeH v g (joinF B k)) (h4 : Laid v) => hsum_of (.pointer (some ⟨g, 0, none⟩)) (joinF B k) D v (Or.inl ⟨g, rfl, h1⟩) htot h4 hD)
  have HJM : Hid (∀ i, i ≤ k → (joinF B i).length ≤ 100000) := fun i hi => Nat.le_trans (joinF_mono B hi) htot
  have HJS : Hid (∀ i, joinF B (i + 1) = joinF B i ++ B i) := fun i => rfl
  have HJ0 : Hid (joinF B 0 = []) := rfl
  clear hpc hsl hL htot hD hDl
  generalize joinF B = J at *
  go_enter Tryd.func63, Tryd.ntmps63
  go_upto_region 1 with fail
  rw [← u8s_zeros]
  have B1 : Hid (Below w.heap.size w (w.alloc Z32)) := (Below.refl _ _).alloc (Nat.le_refl _) _
  have A1 := hide (Arr.new w 23 (u8s (List.replicate 32 0)))
  have hs1 : Hid ((w.alloc Z32).heap.size = w.heap.size + 1) := by show _ = _; simp
  generalize w.alloc Z32 = w1 at *
  go_wp2_with fail
  refine (s_new_any w1 (HL.out.keptB (B := w.heap.size) hL2 B1.out)).mono ?_
  rintro e w2 ⟨rfl, hw2⟩
  have X2 := hide (show MadeH w2 w1.heap.size [] from by rw [hw2]; exact made_new)
  have A2 := hide (show Arr w2 w.heap.size 23 (u8s (List.replicate 32 0)) from by rw [hw2]; exact A1.out.alloc _)
  have B2 := hide (show Below w.heap.size w w2 from by rw [hw2]; exact B1.out.alloc B1.out.size _)
  clear hw2 A1 B1
  have hs1' := hs1.out
  generalize w1.heap.size = X at *
  have HX1 := hide hs1'
  clear hs1' hs1
  go_wp2
  go_loopg [9, 5] (k + 1) (fun f s9 _ wr => ∃ (i : Nat), s9 = .int .i64 i ∧ i ≤ k ∧ k - i < f ∧ MadeH wr X (J i) ∧ Arr wr w.heap.size 23 (u8s (List.replicate 32 0)) ∧ Below w.heap.size w wr)
  case atStart => exact ⟨0, rfl, by omega, by omega, by rw [HJ0.out]; exact X2.out, A2.out, B2.out⟩
  case round =>
    clear X2 A2 B2
    obtain ⟨i, rfl, hi, hf, hX, hA, hB⟩ := hrel
    have HX := hide hX
    have HA := hide hA
    have HB := hide hB
    clear hX hA hB
    by_cases hik : i < k
    · rcases HSL.out with h0 | ⟨q, o, rfl, hcell⟩
      · omega
      have hq := hcell i hik
      have hq' := (HB.out.cell (block_lt_of_cell hq)).trans hq
      obtain ⟨pb1, pb2, pb3, pb4, pb5⟩ := HPC.out i hik
      have HW := hide (write_any X (J i) (P i) (C i) (B i) wr HX.out (pb1.kept HB.out) pb2 (fun a ha hne => by have h1 := bi_lt pb1 hne a ha; have h2 := HX1.out; omega) pb3 pb4 pb5
        (by have h1 := HJM.out (i + 1) (by omega); rw [HJS.out, List.length_append] at h1; omega) (HL.out.keptB (B := w.heap.size) hL2 HB.out) (by have := HX1.out; omega))
      clear hq hcell pb1 pb2 pb3 pb4 pb5
      have hik' : (i : Int) < (k : Int) := by omega
      go_wp2_with fail
      refine HW.out.mono ?_
      rintro e w5 ⟨rfl, hX5, hg5⟩
      rw [← HJS.out] at hX5
      have X5 := hide hX5
      have A5 := hide (HA.out.grown' hg5 (by have := HX1.out; omega))
      have B5 : Hid (Below w.heap.size w w5) := HB.out.grown hg5 HB.out.size (by intro k hk; cases hk; have := HX1.out; omega)
      clear hX5 hg5 HW hq'
      go_wp2
      go_roundg (k - i)
      case measure => omega
      case rel => exact ⟨i + 1, by go_num, by omega, by omega, X5.out, A5.out, B5.out⟩
    · have e : i = k := by omega
      subst e
      have hik' : ¬ (i : Int) < (i : Int) := by omega
      go_wp2_with fail
      refine (HD.out X wr HX.out (HL.out.keptB (B := w.heap.size) hL2 HB.out)).mono ?_
      rintro e w6 ⟨rfl, hb6⟩
      have A6 := hide (HA.out.kept hb6)
      have B6 : Hid (Below w.heap.size w w6) := HB.out.trans (hb6.mono HB.out.size)
      have HI32 : Hid ((Tryd.prog.info? 23).map (·.size) = some (u8s D).toArray.size) := by show _ = _; rw [info35]; simp [u8s, DL.out]
      have HO32 : Hid ((u8s (List.replicate 32 0)).toArray.size = (u8s D).toArray.size) := by show _ = _; simp [u8s, DL.out]
      clear hb6 HA HB HX
      go_wp2_with (refine wpList_store_row rfl 23 _ _ rfl w.heap.size _ rfl rfl 23 _ A6.out HI32.out HO32.out (all_u8s _) ?_)
      exact bodyPost_ret (v := .agg (u8s D).toArray) (results_cell_row Tryd.results63 _ _ w.heap.size 23 _ (0, 0) _ rfl (A6.out.row _) Tryd.underlying23 rfl HI32.out) rfl ⟨rfl, below_setRow B6.out (Nat.le_refl _) A6.out.lt _⟩

end Go.Proofs.YtbmjlofehbbkbaaDoor

/- Small laws: blocks that are laid one after the other; parts of a digest, as a string. -/
namespace Go.Proofs.YtbmjlofehbbkbaaDoor
open Go.RowKit

theorem heap_keep (w : World) (o : Obj) (g : Nat) (h : g < w.heap.size) : (w.alloc o).heap[g]? = w.heap[g]? := by
  show (w.heap.push o)[g]? = _
  rw [Array.getElem?_push, if_neg (Nat.ne_of_lt h)]
theorem heap_at (w : World) (o : Obj) (n : Nat) (h : w.heap.size = n) : (w.alloc o).heap[n]? = some o := by
  rw [← h]
  show (w.heap.push o)[w.heap.size]? = _
  simp

theorem alloc3 (v : World) (A B C : Obj) : (((v.alloc A).alloc B).alloc C).heap[v.heap.size]? = some A ∧ (((v.alloc A).alloc B).alloc C).heap[v.heap.size + 1]? = some B ∧ (((v.alloc A).alloc B).alloc C).heap[v.heap.size + 1 + 1]? = some C := by
  refine ⟨?_, ?_, ?_⟩
  · rw [heap_keep _ _ _ (by simp; omega), heap_keep _ _ _ (by simp), heap_at _ _ _ rfl]
  · rw [heap_keep _ _ _ (by simp), heap_at _ _ _ (by simp)]
  · rw [heap_at _ _ _ (by simp)]

theorem str_of (w : World) (g o : Nat) (D : List Nat) (n c : Nat) (hA : Arr w g 23 (u8s D)) (hn : o + n ≤ D.length) :
    (convert 42 9 (.slice (some ⟨g, o, none⟩) n c)).run Tryd.prog w = .ok (.string (strOfNums (((D.drop o).take n).map Int.ofNat))) w := by
  refine run_convert_bytes_arg w 42 5 Tryd.underlying42 Tryd.underlying5 g o n c (((D.drop o).take n).map Int.ofNat) (by simp; omega) (fun i hi => ?_) _ Tryd.underlying9
  have hi' : i < n := hi
  have := (hA.cell (o + i)).trans (u8s_at (by omega))
  rw [this]
  congr 2
  simp [List.getD, hi', show o + i < D.length by omega]

theorem run_d4 (w : World) (g : Nat) : (Instr.sliceAt 23 (.pointer (some ⟨g, 0, none⟩)) none (some (.int .i64 4)) none).run Tryd.prog w = .ok (.slice (some ⟨g, 0, none⟩) 4 32) w := by
  have hl : Tryd.prog.arrayLen 23 = 32 := by simp [Program.arrayLen, Tryd.underlying23]
  have he : Tryd.prog.elem 23 = 5 := by simp [Program.elem, Tryd.underlying23]
  have ht : Tryd.prog.underlying 23 = some (.array (Tryd.prog.arrayLen 23) (Tryd.prog.elem 23)) := by rw [hl, he]; exact Tryd.underlying23
  rw [run_sliceAt_array_h w 23 ⟨g, 0, none⟩ ht .i64 _ (by omega) (by rw [hl]; omega), he, size5, hl]
  simp [Result.andThen, slicedAt, Addr.add_mid]

theorem run_d28 (w : World) (g : Nat) : (Instr.sliceAt 23 (.pointer (some ⟨g, 0, none⟩)) (some (.int .i64 28)) none none).run Tryd.prog w = .ok (.slice (some ⟨g, 28, none⟩) 4 4) w := by
  have hl : Tryd.prog.arrayLen 23 = 32 := by simp [Program.arrayLen, Tryd.underlying23]
  have he : Tryd.prog.elem 23 = 5 := by simp [Program.elem, Tryd.underlying23]
  have ht : Tryd.prog.underlying 23 = some (.array (Tryd.prog.arrayLen 23) (Tryd.prog.elem 23)) := by rw [hl, he]; exact Tryd.underlying23
  rw [run_sliceAt_array_l w 23 ⟨g, 0, none⟩ ht .i64 _ (by omega) (by rw [hl]; omega), he, size5, hl]
  simp [Result.andThen, slicedAt, Addr.add_mid]

end Go.Proofs.YtbmjlofehbbkbaaDoor

/- Small facts on digests: how many bytes, which, and that one is the same as itself. -/
namespace Go.Proofs.YtbmjlofehbbkbaaDoor
open Go.RowKit

theorem sumF_length (l : List Nat) : (sumF l).length = 32 := digestF_length _
theorem digestF_bytes (h : List Nat) : BytesN (digestF h) := by
  intro x hx
  simp only [digestF, List.mem_map] at hx
  obtain ⟨i, _, rfl⟩ := hx
  exact Nat.mod_lt _ (by omega)
theorem sumF_bytes (l : List Nat) : BytesN (sumF l) := digestF_bytes _

theorem guard35 (x y : Operand) (u v : Array Value) (w : World) : (eqGuard .eql 23 x y (.agg u) (.agg v)).run Tryd.prog w = .ok () w := by kernel_rfl

/-- a digest is the same as itself -/
theorem eq_self (D : List Nat) (h : D.length = 32) (hb : BytesN D) (w : World) : (Op.equalIn 10000 23 (.agg (u8s D).toArray) (.agg (u8s D).toArray)).run Tryd.prog w = .ok true w := by
  have := run_eq_digest D D h h hb hb w
  rwa [decide_eq_true rfl] at this

theorem MadeH.grown {w w' : World} {g X : Nat} {l : List Nat} (h : MadeH w g l) (hg : w.grownBy w' (some X)) (hne : g ≠ X) : MadeH w' g l := by
  obtain ⟨ws, rest, hA, hR⟩ := h
  exact ⟨ws, rest, hA.grown' hg hne, hR⟩

/-- the zero value, built -/
theorem wpList_build_zero {P : Program} {ops : Array Oper} {rest : List Oper} {o : Oper} {a : Act} {w : World} {Q : Exit → Act → World → Prop} (hg : o.guard = none) (t : TypeId) (ho : o.op = .build t #[]) (C : Array Value) (hb : P.built t [] = some C)
    (h : wpList P ops Q rest (a.put o.dst (.agg C)) w) : wpList P ops Q (o :: rest) a w :=
  wpList_build hg t #[] ho (by simp [hb]) (by simpa [hb] using h)

theorem builtZ : Tryd.prog.built 123 [] = some zeroH.toArray := by kernel_rfl

/-- two arrays held against each other, as one operation -/
theorem wpList_eql_agg {P : Program} {ops : Array Oper} {rest : List Oper} {o : Oper} {a : Act} {w : World} {Q : Exit → Act → World → Prop} (hg : o.guard = none) (t tt : TypeId) (x y : Operand) (ho : o.op = .binOp .eql t x y tt) (xs ys : Array Value) (hx : a.eval x = .agg xs) (hy : a.eval y = .agg ys) (r : Bool)
    (hgd : (eqGuard .eql t x y (.agg xs) (.agg ys)).run P w = .ok () w) (he : (Op.equalIn 10000 t (.agg xs) (.agg ys)).run P w = .ok r w)
    (h : wpList P ops Q rest (a.put o.dst (.bool r)) w) : wpList P ops Q (o :: rest) a w :=
  wpList_plain hg fun K hK => by
    unfold Oper.wp
    rw [s_exec_eql_agg t tt x y ho xs ys hx hy r hgd he]
    exact hK _ _ h

theorem s_exec_neq_agg {P : Program} {o : Oper} {a : Act} {w : World} (t tt : TypeId) (x y : Operand) (ho : o.op = .binOp .neq t x y tt) (xs ys : Array Value) (hx : a.eval x = .agg xs) (hy : a.eval y = .agg ys) (r : Bool)
    (hgd : (eqGuard .neq t x y (.agg xs) (.agg ys)).run P w = .ok () w) (he : (Op.equalIn 10000 t (.agg xs) (.agg ys)).run P w = .ok r w) : (execOp a.eval o).run P w = .ok (.value (.bool (!r))) w := by
  unfold execOp
  simp only [ho, hx, hy, Sem.run_bind, hgd, run_neq_struct, he, Result.andThen_ok, Sem.run_pure]

theorem wpList_neq_agg {P : Program} {ops : Array Oper} {rest : List Oper} {o : Oper} {a : Act} {w : World} {Q : Exit → Act → World → Prop} (hg : o.guard = none) (t tt : TypeId) (x y : Operand) (ho : o.op = .binOp .neq t x y tt) (xs ys : Array Value) (hx : a.eval x = .agg xs) (hy : a.eval y = .agg ys) (r : Bool)
    (hgd : (eqGuard .neq t x y (.agg xs) (.agg ys)).run P w = .ok () w) (he : (Op.equalIn 10000 t (.agg xs) (.agg ys)).run P w = .ok r w)
    (h : wpList P ops Q rest (a.put o.dst (.bool (!r))) w) : wpList P ops Q (o :: rest) a w :=
  wpList_plain hg fun K hK => by
    unfold Oper.wp
    rw [s_exec_neq_agg t tt x y ho xs ys hx hy r hgd he]
    exact hK _ _ h

theorem guard35n (x y : Operand) (u v : Array Value) (w : World) : (eqGuard .neq 23 x y (.agg u) (.agg v)).run Tryd.prog w = .ok () w := by kernel_rfl

theorem joinF_bytes {B : Nat → List Nat} {k : Nat} (h : ∀ i, i < k → BytesN (B i)) : ∀ i, i ≤ k → BytesN (joinF B i) := by
  intro i
  induction i with
  | zero => intro _ x hx; cases hx
  | succ i ih => intro hi; exact bytes_append (ih (by omega)) (h i (by omega))

end Go.Proofs.YtbmjlofehbbkbaaDoor

/- Parts of a slice of bytes: up to a place, from one on, between two. -/
namespace Go.Proofs.YtbmjlofehbbkbaaDoor
open Go.RowKit

/-- a hash is no row of bytes -/
theorem own_ne {w : World} {B X : Nat} {v : Value} {n : Nat} {xs : List Value} {l : List Nat} (h : w.ownsRow B 5 1 v n xs) (hM : MadeH w X l) : v.ownBlock ≠ some X := by
  obtain ⟨ws, rest, hA, _⟩ := hM
  exact own_ne_arr h hA (by decide)

theorem MadeH.keptR {w w' : World} {g : Nat} {l : List Nat} {r : Option Nat} (h : MadeH w g l) (hg : w.grownBy w' r) (hne : r ≠ some g) : MadeH w' g l := by
  obtain ⟨ws, rest, hA, hR⟩ := h
  exact ⟨ws, rest, (hg.block g hA.lt (fun e => hne e.symm)).trans hA, hR⟩
/-- a hash and an array are two -/
theorem made_ne_arr {w : World} {X Y : Nat} {l : List Nat} {t : TypeId} {vs : List Value} (h : MadeH w X l) (hA : Arr w Y t vs) (ht : t ≠ 123) : X ≠ Y := by
  intro e
  subst e
  obtain ⟨ws, rest, hA', _⟩ := h
  unfold Arr at hA hA'
  rw [hA] at hA'
  simp at hA'
  exact ht hA'.2

/-- a row that is laid anew -/
theorem bi_row (w : World) (l : List Nat) : BI (w.alloc (Obj.cells (u8s l).toArray 5)) (some ⟨w.heap.size, 0, none⟩) l :=
  Or.inr ⟨w.heap.size, 0, rfl, fun i hi => by rw [Nat.zero_add]; exact ((Arr.new w 5 (u8s l)).cell i).trans (u8s_at hi)⟩

/-- the digest of pieces that stand in a slice which is laid anew -/
theorem ssum_one (p : Option Addr) (c : Nat) (xs D : List Nat) (v : World) (hp : Piece v p c xs) (hs : xs.length ≤ 100000) (hL : Laid v) (hv : 2 ≤ v.heap.size) (hD : sumF xs = D) :
    Calls Tryd.prog 63 #[.slice (some ⟨v.heap.size, 0, none⟩) 1 1] (v.alloc (Obj.cells #[.slice p xs.length c] 42)) fun e w' => e = .returned (.agg (u8s D).toArray) ∧ Below v.heap.size v w' := by
  have hb : Below v.heap.size v (v.alloc (Obj.cells #[.slice p xs.length c] 42)) := (Below.refl _ _).alloc (Nat.le_refl _) _
  have h := ssum_of (some ⟨v.heap.size, 0, none⟩) 1 1 (fun _ => p) (fun _ => c) (fun _ => xs) D (v.alloc (Obj.cells #[.slice p xs.length c] 42))
    (Or.inr ⟨v.heap.size, 0, rfl, fun i hi => by
      have : i = 0 := by omega
      subst this
      exact cell_of_row _ _ 0 _ _ _ (heap_at v _ _ rfl)⟩)
    (fun i hi => hp.kept hb) (by simpa [joinF] using hs) (by omega) (hL.keptB (B := v.heap.size) hv hb) (by simpa [joinF] using hD)
  exact h.mono fun e w' h => ⟨h.1, hb.trans (h.2.mono hb.size)⟩

def three {α : Type} (a b c : α) : Nat → α
  | 0 => a
  | 1 => b
  | _ => c

theorem ssum_three (p1 p2 p3 : Option Addr) (c1 c2 c3 : Nat) (x1 x2 x3 D : List Nat) (v : World) (h1 : Piece v p1 c1 x1) (h2 : Piece v p2 c2 x2) (h3 : Piece v p3 c3 x3) (hs : x1.length + x2.length + x3.length ≤ 100000) (hL : Laid v) (hv : 2 ≤ v.heap.size) (hD : sumF (x1 ++ x2 ++ x3) = D) :
    Calls Tryd.prog 63 #[.slice (some ⟨v.heap.size, 0, none⟩) 3 3] (v.alloc (Obj.cells #[.slice p1 x1.length c1, .slice p2 x2.length c2, .slice p3 x3.length c3] 42)) fun e w' => e = .returned (.agg (u8s D).toArray) ∧ Below v.heap.size v w' := by
  have hb : Below v.heap.size v (v.alloc (Obj.cells #[.slice p1 x1.length c1, .slice p2 x2.length c2, .slice p3 x3.length c3] 42)) := (Below.refl _ _).alloc (Nat.le_refl _) _
  have h := ssum_of (some ⟨v.heap.size, 0, none⟩) 3 3 (three p1 p2 p3) (three c1 c2 c3) (three x1 x2 x3) D (v.alloc (Obj.cells #[.slice p1 x1.length c1, .slice p2 x2.length c2, .slice p3 x3.length c3] 42))
    (Or.inr ⟨v.heap.size, 0, rfl, fun i hi => by
      match i, hi with
      | 0, _ => exact cell_of_row _ _ 0 _ _ _ (heap_at v _ _ rfl)
      | 1, _ => exact cell_of_row _ _ 1 _ _ _ (heap_at v _ _ rfl)
      | 2, _ => exact cell_of_row _ _ 2 _ _ _ (heap_at v _ _ rfl)⟩)
    (fun i hi => by
      match i, hi with
      | 0, _ => exact h1.kept hb
      | 1, _ => exact h2.kept hb
      | 2, _ => exact h3.kept hb) (by simp [joinF, three]; omega) (by omega) (hL.keptB (B := v.heap.size) hv hb) (by simpa [joinF, three] using hD)
  exact h.mono fun e w' h => ⟨h.1, hb.trans (h.2.mono hb.size)⟩

end Go.Proofs.YtbmjlofehbbkbaaDoor

/- Plain facts on marks: a key's block, turned by a byte; a mark is two digests. Texts held against each other byte by byte. -/
namespace Go.Proofs.YtbmjlofehbbkbaaDoor
open Go.RowKit

/-- what two texts differ in, as far as that -/
def unlF (xs ys : List Nat) : Nat → Nat
  | 0 => 0
  | i + 1 => unlF xs ys i ||| (xs.getD i 0 ^^^ ys.getD i 0)

theorem xor_zero_iff (a b : Nat) : a ^^^ b = 0 ↔ a = b := by
  constructor
  · intro h
    have h2 : (a ^^^ b) ^^^ b = 0 ^^^ b := by rw [h]
    rw [Nat.xor_assoc, Nat.xor_self, Nat.xor_zero, Nat.zero_xor] at h2
    exact h2
  · intro h; rw [h, Nat.xor_self]

theorem or_zero_iff (a b : Nat) : a ||| b = 0 ↔ a = 0 ∧ b = 0 := by
  constructor
  · intro h
    have h1 : a ≤ a ||| b := Nat.left_le_or
    have h2 : b ≤ a ||| b := Nat.right_le_or
    omega
  · rintro ⟨rfl, rfl⟩; rfl

theorem unlF_zero (xs ys : List Nat) : ∀ i, unlF xs ys i = 0 ↔ ∀ j, j < i → xs.getD j 0 = ys.getD j 0 := by
  intro i
  induction i with
  | zero => exact ⟨fun _ j hj => absurd hj (Nat.not_lt_zero _), fun _ => rfl⟩
  | succ i ih =>
    rw [unlF, or_zero_iff, xor_zero_iff, ih]
    constructor
    · rintro ⟨h1, h2⟩ j hj
      by_cases e : j = i
      · rw [e]; exact h2
      · exact h1 j (by omega)
    · intro h
      exact ⟨fun j hj => h j (by omega), h i (by omega)⟩

theorem s_xor_lt8 {a b : Nat} (ha : a < 256) (hb : b < 256) : a ^^^ b < 256 := Nat.xor_lt_two_pow (n := 8) ha hb
theorem or_lt8 {a b : Nat} (ha : a < 256) (hb : b < 256) : a ||| b < 256 := Nat.or_lt_two_pow (n := 8) ha hb

theorem BytesN.getD {l : List Nat} (h : BytesN l) (i : Nat) : l.getD i 0 < 256 := by
  by_cases hi : i < l.length
  · have := h l[i] (List.getElem_mem hi)
    simpa [List.getD, hi] using this
  · simp [List.getD, List.getElem?_eq_none (show l.length ≤ i by omega)]

theorem unlF_lt {xs ys : List Nat} (hx : BytesN xs) (hy : BytesN ys) : ∀ i, unlF xs ys i < 256 := by
  intro i
  induction i with
  | zero => simp [unlF]
  | succ i ih => exact or_lt8 ih (s_xor_lt8 (hx.getD i) (hy.getD i))

theorem unlF_same (xs ys : List Nat) (h : xs.length = ys.length) : decide (unlF xs ys xs.length = 0) = decide (xs = ys) := by
  apply decide_eq_decide.2
  rw [unlF_zero]
  constructor
  · intro hj
    apply List.ext_getElem h
    intro i h1 h2
    have := hj i h1
    simpa [List.getD, h1, h2] using this
  · intro e j _; rw [e]

/-- a key's block -/
def kblockF (key : List Nat) : List Nat := let k := if 64 < key.length then sumF key else key
  k ++ List.replicate (64 - k.length) 0

theorem kblockF_long {key : List Nat} (h : 64 < key.length) : kblockF key = sumF key ++ List.replicate 32 0 := by
  simp [kblockF, h, sumF_length]
theorem kblockF_short {key : List Nat} (h : ¬ 64 < key.length) : kblockF key = key ++ List.replicate (64 - key.length) 0 := by
  simp [kblockF, h]
theorem kblockF_length (key : List Nat) : (kblockF key).length = 64 := by
  by_cases h : 64 < key.length
  · rw [kblockF_long h]; simp [sumF_length]
  · rw [kblockF_short h]; simp; omega
theorem zeros_bytes (n : Nat) : BytesN (List.replicate n 0) := fun x hx => by rw [List.eq_of_mem_replicate hx]; omega
theorem kblockF_bytes {key : List Nat} (hk : BytesN key) : BytesN (kblockF key) := by
  by_cases h : 64 < key.length
  · rw [kblockF_long h]; exact bytes_append (sumF_bytes _) (zeros_bytes _)
  · rw [kblockF_short h]; exact bytes_append hk (zeros_bytes _)

/-- each byte turned -/
def xorF (b : List Nat) (x : Nat) : List Nat := b.map (· ^^^ x)
theorem xorF_length (b : List Nat) (x : Nat) : (xorF b x).length = b.length := by simp [xorF]
theorem xorF_bytes {b : List Nat} {x : Nat} (h : BytesN b) (hx : x < 256) : BytesN (xorF b x) := fun y hy => by
  obtain ⟨z, hz, rfl⟩ := List.mem_map.1 hy
  exact s_xor_lt8 (h z hz) hx
theorem xorF_at (b : List Nat) (x i : Nat) (h : i < b.length) : (xorF b x).getD i 0 = b.getD i 0 ^^^ x := by
  simp [xorF, List.getD, h]

/-- a mark -/
def macF (key text : List Nat) : List Nat := sumF (xorF (kblockF key) 92 ++ sumF (xorF (kblockF key) 54 ++ text))
theorem macF_length (key text : List Nat) : (macF key text).length = 32 := sumF_length _
theorem macF_bytes (key text : List Nat) : BytesN (macF key text) := sumF_bytes _

/-- so many bytes turned, the rest as it was -/
def xorTo (b : List Nat) (x i : Nat) : List Nat := (xorF b x).take i ++ b.drop i
theorem xorTo_zero (b : List Nat) (x : Nat) : xorTo b x 0 = b := by simp [xorTo]
theorem xorTo_full (b : List Nat) (x : Nat) : xorTo b x b.length = xorF b x := by
  rw [xorTo, List.take_of_length_le (by simp [xorF]), List.drop_length, List.append_nil]
theorem xorTo_length (b : List Nat) (x i : Nat) (h : i ≤ b.length) : (xorTo b x i).length = b.length := by simp [xorTo, xorF]; omega
theorem xorTo_at (b : List Nat) (x i : Nat) (h : i < b.length) : (xorTo b x i).getD i 0 = b.getD i 0 := by
  simp [xorTo, xorF, List.getD, List.getElem?_append, h, Nat.min_eq_left (Nat.le_of_lt h)]
theorem xorTo_set (b : List Nat) (x i : Nat) (h : i < b.length) : (xorTo b x i).set i (b.getD i 0 ^^^ x) = xorTo b x (i + 1) := by
  apply List.ext_getElem
  · simp [xorTo, xorF]; omega
  · intro k h1 h2
    have hk : k < b.length := by simp [xorTo, xorF] at h2; omega
    simp only [xorTo, xorF, List.getElem_set, List.getElem_append, List.length_take, List.length_map]
    by_cases e : i = k
    · subst e
      simp [List.getD, h, show i < min (i + 1) b.length by omega]
    · by_cases hki : k < i
      · simp [e, show k < min i b.length by omega, show k < min (i + 1) b.length by omega]
      · simp [e, show ¬ k < min i b.length by omega, show ¬ k < min (i + 1) b.length by omega]
        congr 1
        omega

end Go.Proofs.YtbmjlofehbbkbaaDoor

/- A walk: Same: whether two texts have the same bytes, as many. -/
namespace Go.Proofs.YtbmjlofehbbkbaaDoor
open Go.RowKit

set_option maxHeartbeats 4000000 in
set_option maxRecDepth 100000 in
theorem same_any (p q : Option Addr) (c d : Nat) (xs ys : List Nat) (w : World) (h1 : Piece w p c xs) (h2 : Piece w q d ys) :
    Calls Tryd.prog 25 #[.slice p xs.length c, .slice q ys.length d] w fun e w' => e = .returned (.bool (decide (xs = ys))) ∧ Below w.heap.size w w' := by
  by_cases hl : xs.length = ys.length
  · have HD := hide (unlF_same xs ys hl)
    have hxc := h1.2.2.2.1
    have hcm := h1.2.2.2.2
    unfold maxLen at hcm
    have HU : Hid (∀ i, unlF xs ys (i + 1) = unlF xs ys i ||| (xs.getD i 0 ^^^ ys.getD i 0)) := fun i => rfl
    have HU0 : Hid (unlF xs ys 0 = 0) := rfl
    have HUL := hide (unlF_lt h1.2.2.1 h2.2.2.1)
    have HXB := hide h1.2.2.1
    have HYB := hide h2.2.2.1
    have H1 := hide h1.1
    have H2 := hide h2.1
    rw [← hl]
    generalize hn : xs.length = n at *
    have HN := hide hn
    have HM := hide hl
    clear hn hl h1 h2
    generalize decide (xs = ys) = r at *
    generalize unlF xs ys = U at *
    go_enter Tryd.func25, Tryd.ntmps25
    go_wp2
    go_loopg [14, 5] (n + 1) (fun f s14 s5 wr => ∃ (i : Nat), s14 = .int .i64 i ∧ s5 = .int .u8 ((U i : Nat) : Int) ∧ i ≤ n ∧ n - i < f ∧ Below w.heap.size w wr)
    case atStart => exact ⟨0, rfl, by rw [HU0.out]; rfl, by omega, by omega, Below.refl _ _⟩
    case round =>
      obtain ⟨i, rfl, rfl, hi, hf, hB⟩ := hrel
      have HB := hide hB
      clear hB
      by_cases hin : i < n
      · have hin' : (i : Int) < (n : Int) := by omega
        rcases H1.out with h0 | ⟨g, o, rfl, hc1⟩
        · have h := HN.out; rw [h0] at h; simp at h; omega
        rcases H2.out with h0 | ⟨g2, o2, rfl, hc2⟩
        · have h := HM.out; rw [h0] at h; simp at h; omega
        have x1 := hc1 i (by rw [HN.out]; exact hin)
        have y1 := hc2 i (by rw [← HM.out]; exact hin)
        have KX : Hid (∀ v : World, Hid (Below w.heap.size w v) → v.cell? ⟨g, o + i, none⟩ = some (.int .u8 ((xs.getD i 0 : Nat) : Int))) := fun v hv => (hv.out.cell (block_lt_of_cell x1)).trans x1
        have KY : Hid (∀ v : World, Hid (Below w.heap.size w v) → v.cell? ⟨g2, o2 + i, none⟩ = some (.int .u8 ((ys.getD i 0 : Nat) : Int))) := fun v hv => (hv.out.cell (block_lt_of_cell y1)).trans y1
        have bx := u8_xor_nat (xs.getD i 0) (ys.getD i 0) (HXB.out.getD i) (HYB.out.getD i)
        have bo := u8_or_nat (U i) (xs.getD i 0 ^^^ ys.getD i 0) (HUL.out i) (s_xor_lt8 (HXB.out.getD i) (HYB.out.getD i))
        rw [← HU.out] at bo
        have hu1 := HUL.out (i + 1)
        have hui := HUL.out i
        clear x1 y1 hc1 hc2
        generalize xs.getD i 0 = x at *
        generalize ys.getD i 0 = y at *
        generalize x ^^^ y = xy at *
        generalize hu2 : U (i + 1) = u2 at *
        have HU2 := hide hu2
        clear hu2
        generalize U i = u at *
        go_upto_region 7 with fail
        refine wp_region_held_drew (S := fun v => Hid (Below w.heap.size w v)) (by kernel_rfl) (hide HB.out.drew) (fun hHeld => ?_)
        refine take_dstH (i := 0) (d := 17) (v := ?_) rfl rfl (by kernel_rfl) (by kernel_rfl) (by kernel_rfl) (fun _ _ _ h => h) (by rfl) hHeld ?_ ?_
        rotate_left
        · intro wZ hSw; clear hSw; go_simp; first | (with_reducible rfl) | (rw [if_pos (by omega)]; with_reducible rfl) | skip
        try simp only [Act.put, List.setIfInBounds_toArray, List.set_cons_zero, List.set_cons_succ]
        refine take_dstH (i := 1) (d := 18) (v := ?_) rfl rfl (by kernel_rfl) (by kernel_rfl) (by kernel_rfl) (fun _ _ _ h => h) (by rfl) hHeld ?_ ?_
        rotate_left
        · intro wZ hSw; clear hSw; go_simp; first | (with_reducible rfl) | (rw [if_pos (by omega)]; with_reducible rfl) | skip
        try simp only [Act.put, List.setIfInBounds_toArray, List.set_cons_zero, List.set_cons_succ]
        refine take_dstH (i := 2) (d := 19) (v := ?_) rfl rfl (by kernel_rfl) (by kernel_rfl) (by kernel_rfl) (fun _ _ _ h => h) (by rfl) hHeld ?_ ?_
        rotate_left
        · intro wZ hSw; clear hSw; go_simp; first | (with_reducible rfl) | (rw [if_pos (by omega)]; with_reducible rfl) | skip
        try simp only [Act.put, List.setIfInBounds_toArray, List.set_cons_zero, List.set_cons_succ]
        refine take_dstH (i := 3) (d := 20) (v := ?_) rfl rfl (by kernel_rfl) (by kernel_rfl) (by kernel_rfl) (fun _ _ _ h => h) (by rfl) hHeld ?_ ?_
        rotate_left
        · intro wZ hSw; clear hSw; go_simp; first | (with_reducible rfl) | (rw [if_pos (by omega)]; with_reducible rfl) | skip
        try simp only [Act.put, List.setIfInBounds_toArray, List.set_cons_zero, List.set_cons_succ]
        refine take_dstH (i := 4) (d := 21) (v := ?_) rfl rfl (by kernel_rfl) (by kernel_rfl) (by kernel_rfl) (fun _ _ _ h => h) (by rfl) hHeld ?_ ?_
        rotate_left
        · intro wZ hSw; have hfS := KX.out wZ hSw; clear hSw; go_simp; first | (with_reducible rfl) | (rw [if_pos (by omega)]; with_reducible rfl) | skip
        try simp only [Act.put, List.setIfInBounds_toArray, List.set_cons_zero, List.set_cons_succ]
        refine take_dstH (i := 5) (d := 22) (v := ?_) rfl rfl (by kernel_rfl) (by kernel_rfl) (by kernel_rfl) (fun _ _ _ h => h) (by rfl) hHeld ?_ ?_
        rotate_left
        · intro wZ hSw; clear hSw; go_simp; first | (with_reducible rfl) | (rw [if_pos (by omega)]; with_reducible rfl) | skip
        try simp only [Act.put, List.setIfInBounds_toArray, List.set_cons_zero, List.set_cons_succ]
        refine take_dstH (i := 6) (d := 23) (v := ?_) rfl rfl (by kernel_rfl) (by kernel_rfl) (by kernel_rfl) (fun _ _ _ h => h) (by rfl) hHeld ?_ ?_
        rotate_left
        · intro wZ hSw; clear hSw; go_simp; first | (with_reducible rfl) | (rw [if_pos (by omega)]; with_reducible rfl) | skip
        try simp only [Act.put, List.setIfInBounds_toArray, List.set_cons_zero, List.set_cons_succ]
        refine take_dstH (i := 7) (d := 24) (v := ?_) rfl rfl (by kernel_rfl) (by kernel_rfl) (by kernel_rfl) (fun _ _ _ h => h) (by rfl) hHeld ?_ ?_
        rotate_left
        · intro wZ hSw; clear hSw; go_simp; first | (with_reducible rfl) | (rw [if_pos (by omega)]; with_reducible rfl) | skip
        try simp only [Act.put, List.setIfInBounds_toArray, List.set_cons_zero, List.set_cons_succ]
        refine take_dstH (i := 8) (d := 25) (v := ?_) rfl rfl (by kernel_rfl) (by kernel_rfl) (by kernel_rfl) (fun _ _ _ h => h) (by rfl) hHeld ?_ ?_
        rotate_left
        · intro wZ hSw; have hfS := KY.out wZ hSw; clear hSw; go_simp; first | (with_reducible rfl) | (rw [if_pos (by omega)]; with_reducible rfl) | skip
        try simp only [Act.put, List.setIfInBounds_toArray, List.set_cons_zero, List.set_cons_succ]
        refine take_dstH (i := 9) (d := 26) (v := ?_) rfl rfl (by kernel_rfl) (by kernel_rfl) (by kernel_rfl) (fun _ _ _ h => h) (by rfl) hHeld ?_ ?_
        rotate_left
        · intro wZ hSw; clear hSw; go_simp; first | (with_reducible rfl) | (rw [if_pos (by omega)]; with_reducible rfl) | skip
        try simp only [Act.put, List.setIfInBounds_toArray, List.set_cons_zero, List.set_cons_succ]
        refine take_dstH (i := 10) (d := 27) (v := ?_) rfl rfl (by kernel_rfl) (by kernel_rfl) (by kernel_rfl) (fun _ _ _ h => h) (by rfl) hHeld ?_ ?_
        rotate_left
        · intro wZ hSw; clear hSw; go_simp; first | (with_reducible rfl) | (rw [if_pos (by omega)]; with_reducible rfl) | skip
        try simp only [Act.put, List.setIfInBounds_toArray, List.set_cons_zero, List.set_cons_succ]
        refine take_dstH (i := 11) (d := 5) (v := ?_) rfl rfl (by kernel_rfl) (by kernel_rfl) (by kernel_rfl) (fun _ _ _ h => h) (by rfl) hHeld ?_ ?_
        rotate_left
        · intro wZ hSw; clear hSw; go_simp; first | (with_reducible rfl) | (rw [if_pos (by omega)]; with_reducible rfl) | skip
        try simp only [Act.put, List.setIfInBounds_toArray, List.set_cons_zero, List.set_cons_succ]
        refine wpAnyH_done (by kernel_rfl) ?_ _
        go_wp2
        go_roundg (n - i)
        case measure => omega
        case rel => exact ⟨i + 1, by go_num, by rw [HU2.out], by omega, by omega, HB.out.drew⟩
      · have e : i = n := by omega
        subst e
        have hin' : ¬ (i : Int) < (i : Int) := by omega
        go_wp2
        go_ret
        refine ⟨?_, HB.out⟩
        have hz : (((U i : Nat) : Int) == 0) = decide (U i = 0) := by
          by_cases h : U i = 0
          · simp [h]
          · simp [h]
        rw [← HD.out, ← hz]
        rfl
  · have hne : ¬ (xs.length : Int) = (ys.length : Int) := by omega
    have HR : Hid (decide (xs = ys) = false) := decide_eq_false (fun e => hl (by rw [e]))
    have hl' : (xs.length == ys.length) = false := by simpa using hl
    clear h1 h2
    generalize decide (xs = ys) = r at *
    generalize xs.length = n at *
    generalize ys.length = m at *
    go_enter Tryd.func25, Tryd.ntmps25
    go_wp2
    go_ret
    exact ⟨by rw [HR.out]; rfl, Below.refl _ _⟩

end Go.Proofs.YtbmjlofehbbkbaaDoor
