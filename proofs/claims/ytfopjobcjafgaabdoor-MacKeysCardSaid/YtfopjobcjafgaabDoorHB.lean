/-
  A walk: Write: a piece is put behind what a hash has.
-/
import Derived.Test.YtfopjobcjafgaabDoorHA
import Derived.Laws.CopyRow
namespace Go.Proofs.YtfopjobcjafgaabDoor
open Go.RowKit

theorem wp_copy_dst {P : Program} (w : World) {o : Oper} {a : Act} {K : Act → World → Prop} {Q : Exit → Act → World → Prop} {dd : Nat} (hdd : o.dst = some dd) (d s : Operand) (t t' : TypeId)
    (ho : o.op = .call { callee := .builtin .copy, args := #[d, s], argTypes := #[t, t'] }) (v u : Value) (hd : a.eval d = v) (hs : a.eval s = u) {v' : Value} {w' : World}
    (hr : (Builtin.copy_ #[t, t'] o.type #[v, u]).run P w = .ok v' w') (h : K (a.put (some dd) v') w') : o.wp P a w K Q := by
  unfold Oper.wp execOp
  simp only [ho, resolve, invoke, builtin, Sem.run_bind, Sem.run_pure, Result.andThen_ok, List.map_toArray, List.map_cons, List.map_nil, hd, hs, hr]
  show K (a.put o.dst v') w'
  rw [hdd]
  exact h

theorem wp_load_mid_dst {P : Program} {op : Oper} {a : Act} {w : World} {K : Act → World → Prop} {Q : Exit → Act → World → Prop} {dd : Nat} (hdd : op.dst = some dd) (ty : TypeId) (x : Operand) (ho : op.op = .load ty x)
    (b o : Nat) (hx : a.eval x = .pointer (some ⟨b, o, none⟩)) (cs : List Value) (d : TypeDesc) (hc : w.rangeAt b o cs)
    (hu : P.underlying ty = some d) (hd : d.isRow = true) (hi : (P.info? ty).map (·.size) = some cs.length)
    (h : K (a.put (some dd) (.agg cs.toArray)) w) : op.wp P a w K Q := wp_load_mid ty x ho b o hx cs d hc hu hd hi (by rw [hdd]; exact h)

theorem wp_store_head {P : Program} {o : Oper} {a : Act} {w : World} {K : Act → World → Prop} {Q : Exit → Act → World → Prop} (hdd : o.dst = none) (ty : TypeId) (x y : Operand) (ho : o.op = .store ty x y)
    (g : Nat) (cells : Array Value) (hx : a.eval x = .pointer (some ⟨g, 0, none⟩)) (hy : a.eval y = .agg cells)
    (t : TypeId) (cur : Array Value) (hg : w.heap[g]? = some (.cells cur t (0, 0))) (hi : (P.info? ty).map (·.size) = some cells.size)
    (hfit : cells.size ≤ cur.size) (h1 : cells.all (·.oneCell') = true)
    (h : K a (w.setRow g (cells.toList ++ cur.toList.drop cells.size).toArray)) : o.wp P a w K Q := by
  have hst := run_storeCells_at P g 0 t cells.toList 0 cur w hg (by simpa using hfit) (fun v hv => (Array.all_eq_true_iff_forall_mem.1 h1) v (by simpa using hv))
  have hrun : (storeVar ty ⟨g, 0, none⟩ (.agg cells)).run P w = .ok () (w.setRow g (cells.toList ++ cur.toList.drop cells.size).toArray) := by
    cases hq : P.info? ty with
    | none => simp [hq] at hi
    | some i =>
      have hs : cells.size = i.size := by simp [hq] at hi; omega
      simp [storeVar, sizeOf, typeInfo, hq, Value.cells, hs] at hst ⊢
      exact hst
  unfold Oper.wp execOp
  simp only [ho, hx, hy, Instr.storeAt, Instr.sureAddr, Sem.run_bind, Sem.run_pure, Result.andThen_ok, hrun]
  show K (a.put o.dst undef) _
  rw [hdd]
  exact h

theorem hash_headed {ws rest ws' : List Nat} {n : Nat} (h8 : ws.length = 8) (_h8 : ws'.length = 8) : u32s ws' ++ (hCells ws rest n).drop 8 = hCells ws' rest n := by
  unfold hCells
  rw [List.append_assoc, List.drop_append, List.drop_eq_nil_of_le (by simp [u32s, h8]), List.nil_append]
  simp [u32s, h8]

theorem Laid.grown {w w' : World} {g : Nat} (h : Laid w) (hg : w.grownBy w' (some g)) (h2 : 2 ≤ g) : Laid w' :=
  ⟨fun j v hv => hg.cell (h.1 j v hv) (by simp; omega), fun j v hv => hg.cell (h.2 j v hv) (by simp; omega)⟩

theorem hash_sized {ws rest : List Nat} {n : Nat} (h8 : ws.length = 8) (h64 : rest.length = 64) (m : Nat) : (hCells ws rest n).set 72 (.int .i64 (m : Int)) = hCells ws rest m := by
  unfold hCells
  rw [List.set_append, if_neg (by simp [u32s, u8s, h8, h64])]
  simp [u32s, u8s, h8, h64]

theorem hash_copied {ws rest b : List Nat} {n r m : Nat} (h8 : ws.length = 8) (h64 : rest.length = 64) (_hm : m ≤ b.length) (hr : r + m ≤ 64) :
    (hCells ws rest n).take (8 + r) ++ u8s (b.take m) ++ (hCells ws rest n).drop (8 + r + m) = hCells ws (restTo rest b r m) n := by
  unfold hCells
  have l1 : (u32s ws).length = 8 := by simp [u32s, h8]
  have l2 : (u8s rest).length = 64 := by simp [u8s, h64]
  rw [List.append_assoc (u32s ws) (u8s rest), List.take_append, l1, List.take_of_length_le (by omega), show 8 + r - 8 = r by omega, List.take_append_of_le_length (by omega),
    List.drop_append, l1, List.drop_eq_nil_of_le (by omega), List.nil_append, show 8 + r + m - 8 = r + m by omega, List.drop_append_of_le_length (by omega)]
  simp [restTo, u8s, List.map_take, List.map_drop]

theorem info8 : (Tryd.prog.info? 5).map (·.size) = some 1 := by kernel_rfl

theorem run_rest (w : World) (g r : Nat) (hr : r < 64) :
    (Instr.sliceAt 39 (.pointer (some ⟨g, 8, none⟩)) (some (.int .i64 (r : Int))) none none).run Tryd.prog w = .ok (.slice (some ⟨g, 8 + r, none⟩) (64 - r) (64 - r)) w := by
  have hl : Tryd.prog.arrayLen 39 = 64 := by simp [Program.arrayLen, Tryd.underlying39]
  have he : Tryd.prog.elem 39 = 5 := by simp [Program.elem, Tryd.underlying39]
  have ht : Tryd.prog.underlying 39 = some (.array (Tryd.prog.arrayLen 39) (Tryd.prog.elem 39)) := by rw [hl, he]; exact Tryd.underlying39
  rw [run_sliceAt_array_l w 39 ⟨g, 8, none⟩ ht .i64 _ (by omega) (by rw [hl]; omega), he, size5, hl]
  simp [Result.andThen, slicedAt, show ¬ 64 = r by omega, Addr.add_mid]

/-- 'b[m:]' -/
def cutP (p : Option Addr) (l cap : Nat) : Option Addr := if cap = l then p else p.map (·.add l)

theorem run_from (w : World) (p : Option Addr) (n cap l : Nat) (h : l ≤ n) :
    (Instr.slice 22 (.slice p n cap) (some (.int .i64 (l : Int))) none none).run Tryd.prog w = .ok (.slice (cutP p l cap) (n - l) (cap - l)) w := by
  have ht' : Tryd.prog.underlying 22 = some (.slice (Tryd.prog.elem 22)) := by simp [Program.elem, Tryd.underlying22]
  have he : Tryd.prog.elem 22 = 5 := by simp [Program.elem, Tryd.underlying22]
  rw [run_slice_l w 22 _ _ _ ht' .i64 _ (by omega) (by omega), he, size5]
  simp [Result.andThen, sliced, cutP]

theorem bi_from {w : World} {p : Option Addr} {bs : List Nat} (h : BI w p bs) (l cap : Nat) (hc : bs.length ≤ cap) : BI w (cutP p l cap) (bs.drop l) := by
  by_cases hl : bs.length ≤ l
  · exact Or.inl (List.drop_eq_nil_of_le hl)
  · rcases h with h0 | ⟨b, o, rfl, hcl⟩
    · subst h0; simp at hl
    · refine Or.inr ⟨b, o + l, ?_, fun i hi => ?_⟩
      · simp [cutP, show cap ≠ l by omega, Addr.add_mid]
      · have hi' : l + i < bs.length := by simp at hi; omega
        have := hcl (l + i) hi'
        rw [Nat.add_assoc, this]
        simp [List.getD]

theorem cutP_block {p : Option Addr} {l cap : Nat} {a : Addr} (h : cutP p l cap = some a) : ∃ a0, p = some a0 ∧ a.block = a0.block := by
  cases p with
  | none => simp [cutP] at h
  | some a0 =>
    refine ⟨a0, rfl, ?_⟩
    unfold cutP at h
    split at h
    · cases h; rfl
    · simp at h; subst h; unfold Addr.add; split <;> rfl

theorem bi_grown {w w' : World} {p : Option Addr} {bs : List Nat} {g : Nat} (h : BI w p bs) (hg : w.grownBy w' (some g)) (hne : ∀ a, p = some a → bs ≠ [] → a.block ≠ g) : BI w' p bs := by
  by_cases hn : bs = []
  · exact Or.inl hn
  rcases h with h0 | ⟨b, o, rfl, hc⟩
  · exact Or.inl h0
  · exact Or.inr ⟨b, o, rfl, fun i hi => hg.cell (hc i hi) (by have := hne _ rfl hn; simpa using this)⟩

/-- bytes that are there lie in memory -/
theorem bi_lt {w : World} {p : Option Addr} {bs : List Nat} (h : BI w p bs) (hn : bs ≠ []) (a : Addr) (ha : p = some a) : a.block < w.heap.size := by
  rcases h with h0 | ⟨b, o, rfl, hc⟩
  · exact absurd h0 hn
  · cases ha
    exact block_lt_of_cell (hc 0 (List.length_pos_iff.2 hn))

set_option maxHeartbeats 4000000 in
set_option maxRecDepth 100000 in
theorem write_in (g : Nat) (l : List Nat) (p : Option Addr) (c : Nat) (bs : List Nat) (w : World) (hM : MadeH w g l ∨ l = [] ∧ Arr w g 53 zeroH)
    (hb : BI w p bs) (hp : p = none → c = 0) (hpg : ∀ a, p = some a → bs ≠ [] → a.block ≠ g) (hby : BytesN bs) (hbc : bs.length ≤ c) (hcm : c ≤ maxLen) (hsz : l.length + bs.length ≤ 1000000) (hL : Laid w) (hg2 : 2 ≤ g) :
    Calls Tryd.prog 16 #[.pointer (some ⟨g, 0, none⟩), .slice p bs.length c] w fun e w' => e = .returned (.tuple #[]) ∧ MadeH w' g (l ++ bs) ∧ w.grownBy w' (some g) := by
  have HM : Hid (∃ b, (b = true ∧ MadeH w g l ∨ b = false ∧ l = [] ∧ Arr w g 53 zeroH) ∧ Calls Tryd.prog 23 #[.pointer (some ⟨g, 0, none⟩)] w fun e w' => e = .returned (.bool b) ∧ w' = w.drew) := by
    rcases hM with h | ⟨h0, h⟩
    · obtain ⟨ws, rest, hA, hR⟩ := h
      exact ⟨true, Or.inl ⟨rfl, ws, rest, hA, hR⟩, made_any g ws rest l w hA hR hL⟩
    · exact ⟨false, Or.inr ⟨rfl, h0, h⟩, made_zero g w h hL⟩
  have HB0 := hide hb
  have HP := hide hp
  have HPG := hide hpg
  have HBY := hide hby
  have HL0 := hide hL
  clear hM hb hp hpg hby hL
  obtain ⟨b, hbm, hcm0⟩ := HM.out
  have HBM := hide hbm
  have HMC := hide hcm0
  clear HM hbm hcm0
  go_enter Tryd.func16, Tryd.ntmps16
  go_upto_if 9 with fail
  refine HMC.out.mono ?_
  rintro e w0 ⟨rfl, hw0⟩
  have B0 := hide (show Below w.heap.size w w0 from by rw [hw0]; exact (Below.refl _ _).drew)
  clear hw0 HMC
  go_upto_if 9 with fail
  go_cut [9] (fun _ wc => MadeH wc g l ∧ w.grownBy wc (some g))
  case first =>
    rcases HBM.out with ⟨rfl, hM⟩ | ⟨rfl, h0, hA⟩
    · have HM := hide hM
      clear hM
      go_wp2
      go_meet
      case rel => exact ⟨HM.out.kept B0.out, below_grown B0.out _⟩
    · have HL1 := hide (HL0.out.kept B0.out)
      have HA0 := hide (hA.kept B0.out)
      have H0 := hide h0
      clear hA h0
      go_wp2_with fail
      refine (new_any w0 HL1.out).mono ?_
      rintro e w1 ⟨rfl, hw1⟩
      have N1 := hide (show Arr w1 w0.heap.size 53 (hCells startT (List.replicate 64 0) 0) from by rw [hw1]; exact Arr.new w0 _ _)
      have A1 := hide (show Arr w1 g 53 zeroH from by rw [hw1]; exact HA0.out.alloc _)
      have G1 := hide (show w.grownBy w1 (some g) from by rw [hw1]; exact grown_trans (below_grown B0.out _) (below_grown ((Below.refl _ _).alloc (Nat.le_refl _) _) _))
      have HI : Hid ((Tryd.prog.info? 53).map (·.size) = some (hCells startT (List.replicate 64 0) 0).toArray.size) := by show _ = _; rw [info49]; rfl
      have HO : Hid (zeroH.toArray.size = (hCells startT (List.replicate 64 0) 0).toArray.size) := rfl
      clear hw1 HA0
      have HR0 : Hid (RepH [] startT (List.replicate 64 0)) := RepH.none
      have H1C : Hid ((hCells startT (List.replicate 64 0) 0).toArray.all (·.oneCell') = true) := one_hCells _ _ _
      generalize zeroH = Z at *
      generalize hNC : hCells startT (List.replicate 64 0) 0 = NC at *
      have HNC := hide hNC
      clear hNC
      go_wp2_with (first
        | (refine wpList_load_row rfl 53 _ rfl w0.heap.size rfl 53 _ (0, 0) _ N1.out Tryd.underlying53 rfl HI.out ?_)
        | (refine wpList_store_row rfl 53 _ _ rfl g _ rfl rfl 53 _ A1.out HI.out HO.out H1C.out ?_))
      go_meet
      case rel =>
        refine ⟨⟨startT, List.replicate 64 0, ?_, by rw [H0.out]; exact HR0.out⟩, grown_trans G1.out (grown_row _ g _)⟩
        rw [H0.out]
        show Arr _ _ _ (hCells startT (List.replicate 64 0) 0)
        rw [HNC.out]
        exact A1.out.row _
  case rest =>
    obtain ⟨⟨ws, rest, hA, hR⟩, hG0⟩ := hcut
    have HA := hide hA
    have HR := hide hR
    have HB := hide (bi_grown HB0.out hG0 HPG.out)
    have HL := hide (HL0.out.grown hG0 hg2)
    have HG0 := hide hG0
    clear hA hR hG0 HB0 HL0 HBM B0
    go_wp2
    go_loopg [1, 4] (bs.length + 1) (fun f s1 _ wr => ∃ (br : List Nat) (p' : Option Addr) (c' : Nat) (l' ws' rest' : List Nat), s1 = .slice p' br.length c' ∧ br.length < f ∧ BI wr p' br ∧ (p' = none → c' = 0) ∧ (∀ a, p' = some a → br ≠ [] → a.block ≠ g) ∧ BytesN br ∧ br.length ≤ c' ∧ c' ≤ maxLen ∧ l' ++ br = l ++ bs ∧
      Arr wr g 53 (hCells ws' rest' l'.length) ∧ RepH l' ws' rest' ∧ wc.grownBy wr (some g))
    case atStart => exact ⟨bs, p, c, l, ws, rest, rfl, by omega, HB.out, HP.out, HPG.out, HBY.out, hbc, hcm, rfl, HA.out, HR.out, grown_refl _ _⟩
    case round =>
      clear HA HR HB HP HPG HBY
      obtain ⟨br, p', c', l', ws', rest', rfl, hf, hb, hp, hpg, hby, hbc', hcm', hlb, hA, hR, hG⟩ := hrel
      have HLB := hide hlb
      have HG := hide hG
      have hll : l'.length + br.length = l.length + bs.length := by have := congrArg List.length hlb; simpa using this
      by_cases hbr : br.length = 0
      · have hbn : br = [] := List.eq_nil_of_length_eq_zero hbr
        subst hbn
        rw [List.append_nil] at hlb
        have HA := hide hA
        have HR := hide hR
        clear hA hR hlb hb hp hpg hby hG hll
        go_wp2
        go_end0
        exact ⟨rfl, ⟨ws', rest', by rw [← HLB.out, List.append_nil]; exact HA.out, by rw [← HLB.out, List.append_nil]; exact HR.out⟩, grown_trans HG0.out HG.out⟩
      · have h8 : ws'.length = 8 := by rw [hR.1]; exact hashTo_length _ _
        have hww : Words ws' := by rw [hR.1]; exact hashTo_words _ _
        have h64 : rest'.length = 64 := hR.2.1
        have hrb : BytesN rest' := hR.2.2.1
        obtain ⟨r, hr⟩ : ∃ r, r = l'.length % 64 := ⟨_, rfl⟩
        obtain ⟨m, hm⟩ : ∃ m, m = Nat.min br.length (64 - r) := ⟨_, rfl⟩
        have hmd : m = if br.length ≤ 64 - r then br.length else 64 - r := by rw [hm]; exact Nat.min_def
        have hmb : m ≤ br.length := by rw [hmd]; split <;> omega
        have hmr : r + m ≤ 64 := by rw [hmd]; split <;> omega
        have hm1 : 1 ≤ m := by rw [hmd]; split <;> omega
        have hc72 := hash_size h8 h64 hA
        have hrlt : r < 64 := by omega
        have hri : ((l'.length : Nat) : Int) % 64 = (r : Int) := by omega
        have hsl := fun v => run_rest v g r hrlt
        rcases hb with hb0 | ⟨pb, po, hpe, hbt⟩
        · subst hb0; simp at hbr
        subst hpe
        have hpbg : pb ≠ g := hpg _ rfl (fun e => hbr (by rw [e]; rfl))
        have HCP : Hid ((Builtin.copy_ #[22, 22] 3 #[.slice (some ⟨g, 8 + r, none⟩) (64 - r) (64 - r), .slice (some ⟨pb, po, none⟩) br.length c']).run Tryd.prog wr.drew = .ok (.int .i64 (m : Int)) (wr.drew.setRow g (hCells ws' (restTo rest' br r m) l'.length).toArray)) := by
          show _ = _
          have hlen : (u8s (br.take m)).length = m := by simp [u8s]; omega
          have h := run_copy_row (P := Tryd.prog) wr.drew 22 22 3 5 g (8 + r) (64 - r) (64 - r) ⟨pb, po, none⟩ br.length c' (hCells ws' rest' l'.length).toArray 53 (u8s (br.take m)) Tryd.underlying22 info8 hA (by rw [hlen]; exact hm)
            (fun j v hv => by
              have hj : j < (br.take m).length := by have := (List.getElem?_eq_some_iff.1 hv).1; simpa [u8s] using this
              rw [u8s_at hj] at hv
              cases hv
              have hj' : j < br.length := by simp at hj; omega
              rw [Addr.add_mid]
              refine (hbt j hj').trans ?_
              rw [getD_take br m j (by simp at hj; omega)])
            (by rw [hlen]; simp [hCells, u32s, u8s, h8, h64]; omega) (one_u8s _)
          rw [hlen] at h
          have hc := hash_copied (n := l'.length) h8 h64 hmb hmr
          rw [show (hCells ws' rest' l'.length).toArray.toList = hCells ws' rest' l'.length from rfl, hc] at h
          exact h
        have HA := hide hA
        have HR := hide hR
        have HBT := hide hbt
        have HRS := hide hr
        have HMM := hide hm
        have HW := hide hww
        have h8H := hide h8
        have h64H := hide h64
        have HHP := hide hpg
        have HBY := hide hby
        have HRB := hide hrb
        have hlen6 : l'.length ≤ 1000000 := by omega
        have hbpos : 0 < br.length := by omega
        have hbrb : br.length ≤ 1000000 := by omega
        unfold maxLen at hcm'
        clear hA hR hbt hr hm hmd hww h8 h64 hlb hG hp hpg hby hrb hbr
        generalize hn : l'.length = n at *
        have HN := hide hn
        generalize hk : br.length = k at *
        have HK := hide hk
        clear hn hk
        have htm : Int.tmod (n : Int) 64 = (r : Int) := by rw [Int.tmod_eq_emod_of_nonneg (by omega)]; exact hri
        go_upto_region 4 with fail
        go_cut [4] (fun s4 wc => s4 = .int .i64 (m : Int) ∧ Arr wc g 53 (hCells ws' (restTo rest' br r m) n) ∧ wr.grownBy wc (some g))
        case first =>
          refine wp_region_any (by kernel_rfl) ?_
          try (change wpAny _ _ _ _ _ _ _ (World.drew _))
          refine take_dst (i := 0) (d := 18) (v := ?_) rfl rfl (by kernel_rfl) (by kernel_rfl) (by kernel_rfl) (fun _ _ _ h => h) (by rfl) ?_ ?_
          rotate_left
          · intro wZ; go_simp; first | (with_reducible rfl) | (rw [if_pos (by omega)]; with_reducible rfl) | skip
          try simp only [Act.put, List.setIfInBounds_toArray, List.set_cons_zero, List.set_cons_succ]
          refine take_dst (i := 1) (d := 19) (v := ?_) rfl rfl (by kernel_rfl) (by kernel_rfl) (by kernel_rfl) (fun _ _ _ h => h) (by rfl) ?_ ?_
          rotate_left
          · intro wZ; go_simp; first | (with_reducible rfl) | (rw [if_pos (by omega)]; with_reducible rfl) | skip
          try simp only [Act.put, List.setIfInBounds_toArray, List.set_cons_zero, List.set_cons_succ]
          refine take_dst (i := 2) (d := 20) (v := ?_) rfl rfl (by kernel_rfl) (by kernel_rfl) (by kernel_rfl) (fun _ _ _ h => h) (by rfl) ?_ ?_
          rotate_left
          · intro wZ; go_simp; first | (with_reducible rfl) | (rw [if_pos (by omega)]; with_reducible rfl) | skip
          try simp only [Act.put, List.setIfInBounds_toArray, List.set_cons_zero, List.set_cons_succ]
          refine take_dst (i := 3) (d := 21) (v := ?_) rfl rfl (by kernel_rfl) (by kernel_rfl) (by kernel_rfl) (fun _ _ _ h => h) (by rfl) ?_ ?_
          rotate_left
          · intro wZ; go_simp; first | (with_reducible rfl) | (rw [if_pos (by omega)]; with_reducible rfl) | skip
          try simp only [Act.put, List.setIfInBounds_toArray, List.set_cons_zero, List.set_cons_succ]
          refine take_dst (i := 4) (d := 22) (v := ?_) rfl rfl (by kernel_rfl) (by kernel_rfl) (by kernel_rfl) (fun _ _ _ h => h) (by rfl) ?_ ?_
          rotate_left
          · intro wZ; go_simp; first | (with_reducible rfl) | (rw [if_pos (by omega)]; with_reducible rfl) | skip
          try simp only [Act.put, List.setIfInBounds_toArray, List.set_cons_zero, List.set_cons_succ]
          refine take_dst (i := 5) (d := 23) (v := ?_) rfl rfl (by kernel_rfl) (by kernel_rfl) (by kernel_rfl) (fun _ _ _ h => h) (by rfl) ?_ ?_
          rotate_left
          · intro wZ; go_simp; first | (with_reducible rfl) | (rw [if_pos (by omega)]; with_reducible rfl) | skip
          try simp only [Act.put, List.setIfInBounds_toArray, List.set_cons_zero, List.set_cons_succ]
          refine take_dst (i := 9) (d := 27) (v := ?_) rfl rfl (by kernel_rfl) (by kernel_rfl) (by kernel_rfl) (fun _ _ _ h => h) (by rfl) ?_ ?_
          rotate_left
          · intro wZ; go_simp; first | (with_reducible rfl) | (rw [if_pos (by omega)]; with_reducible rfl) | skip
          try simp only [Act.put, List.setIfInBounds_toArray, List.set_cons_zero, List.set_cons_succ]
          refine wpAny_ready (rs := [6]) (by kernel_rfl) (by simp) ?_
          refine (AllReady.cons rfl (fun K hK => ?_) AllReady.nil)
          go_simp
          first | (refine hK _ _ ?_; clear hK K) | (clear hK K) | skip
          try simp only [Act.put, List.setIfInBounds_toArray, List.set_cons_zero, List.set_cons_succ]
          refine take_dst (i := 7) (d := 25) (v := ?_) rfl rfl (by kernel_rfl) (by kernel_rfl) (by kernel_rfl) (fun _ _ _ h => h) (by rfl) ?_ ?_
          rotate_left
          · intro wZ; go_simp; first | (with_reducible rfl) | (rw [if_pos (by omega)]; with_reducible rfl) | skip
          try simp only [Act.put, List.setIfInBounds_toArray, List.set_cons_zero, List.set_cons_succ]
          refine take_dst (i := 8) (d := 26) (v := ?_) rfl rfl (by kernel_rfl) (by kernel_rfl) (by kernel_rfl) (fun _ _ _ h => h) (by rfl) ?_ ?_
          rotate_left
          · intro wZ; go_simp; first | (with_reducible rfl) | (rw [if_pos (by omega)]; with_reducible rfl) | skip
          try simp only [Act.put, List.setIfInBounds_toArray, List.set_cons_zero, List.set_cons_succ]
          refine wpAny_ready (rs := [10]) (by kernel_rfl) (by simp) ?_
          refine (AllReady.cons rfl (fun K hK => ?_) AllReady.nil)
          refine wp_copy_dst _ (dd := 28) rfl (.tmp 26) (.tmp 27) 22 22 rfl _ _ rfl rfl HCP.out ?_
          first | (refine hK _ _ ?_; clear hK K) | (clear hK K) | skip
          try simp only [Act.put, List.setIfInBounds_toArray, List.set_cons_zero, List.set_cons_succ]
          refine take_dst (i := 11) (d := 4) (v := ?_) rfl rfl (by kernel_rfl) (by kernel_rfl) (by kernel_rfl) (fun _ _ _ h => h) (by rfl) ?_ ?_
          rotate_left
          · intro wZ; go_simp; first | (with_reducible rfl) | (rw [if_pos (by omega)]; with_reducible rfl) | skip
          try simp only [Act.put, List.setIfInBounds_toArray, List.set_cons_zero, List.set_cons_succ]
          refine wpAny_done (by kernel_rfl) ?_ _
          go_wp2_with fail
          go_meet
          case rel => exact ⟨rfl, HA.out.row _, grown_trans (grown_drew (grown_refl _ _)) (grown_row _ g _)⟩
        case rest =>
          obtain ⟨rfl, hA4, hG4⟩ := hcut
          have hrl : (restTo rest' br r m).length = 64 := restTo_length h64H.out (by rw [HK.out]; exact hmb) hmr
          have d72 := hash_size h8H.out hrl hA4
          have f72 := hA4.frozen 72
          have hfr := fun v => run_from v (some ⟨pb, po, none⟩) k c' m hmb
          obtain ⟨nm, hnmv⟩ : ∃ x, x = n + m := ⟨_, rfl⟩
          have HNM := hide hnmv
          have hA5 := hA4.set 72 (.int .i64 ((nm : Nat) : Int))
          rw [hash_sized h8H.out hrl] at hA5
          have HA5 := hide hA5
          have HG5 := hide (grown_trans hG4 (grown_set wc g 72 (.int .i64 ((nm : Nat) : Int))))
          have hnm : (n : Int) + (m : Int) = (nm : Int) := by omega
          have HBI := hide (bi_from (w := wr) (p := some ⟨pb, po, none⟩) (bs := br) (Or.inr ⟨pb, po, rfl, HBT.out⟩) m c' (by rw [HK.out]; exact hbc'))
          have hnpg : Hid (∀ a, cutP (some ⟨pb, po, none⟩) m c' = some a → br.drop m ≠ [] → a.block ≠ g) := fun a ha _ => by
            obtain ⟨a0, h0, he⟩ := cutP_block ha
            cases h0; rw [he]; exact hpbg
          have hnil : Hid (cutP (some ⟨pb, po, none⟩) m c' = none → c' - m = 0) := fun h => by
            unfold cutP at h; split at h <;> simp at h
          have hcat : Hid (l' ++ br.take m ++ br.drop m = l ++ bs) := by show _ = _; rw [List.append_assoc, List.take_append_drop]; exact HLB.out
          have hdl : Hid ((br.drop m).length = k - m) := by show _ = _; rw [List.length_drop, HK.out]
          have htl : Hid ((l' ++ br.take m).length = nm) := by show _ = _; rw [hnmv]; simp [HN.out, HK.out]; omega
          have hdb : Hid (BytesN (br.drop m)) := fun x hx => HBY.out x (List.mem_of_mem_drop hx)
          clear hA4 hA5 hG4 HA HCP
          generalize cutP (some ⟨pb, po, none⟩) m c' = pn at *
          by_cases hwh : r + m = 64
          · have hz0 : (nm : Int) % 64 = 0 := by omega
            have hz0' : Int.tmod (nm : Int) 64 = 0 := by rw [Int.tmod_eq_emod_of_nonneg (by omega)]; exact hz0
            clear hnmv
            go_upto_region 8 with fail
            have hLn := (HL.out.grown HG.out hg2).grown HG5.out hg2
            generalize wc.setCell ⟨g, 72, none⟩ (.int .i64 (nm : Int)) = w5 at *
            have hRB : BytesN (restTo rest' br r m) := restTo_bytes HRB.out HBY.out
            have HCB := hide (fun (v : World) (hv : Laid v) => block_any ws' (restTo rest' br r m) v h8H.out HW.out hrl hRB hv)
            have HREP := hide (show RepH (l' ++ br.take m) (blockF ws' (restTo rest' br r m)) (restTo rest' br r m) from by
              have h := HR.out.whole HBY.out (m := m) (by rw [HK.out]; exact hmb) (by rw [HN.out, ← HRS.out]; exact hwh)
              rw [HN.out, ← HRS.out] at h
              exact h)
            have HWR := hide (hash_range HA5.out)
            have HRR := hide (hash_rest h8H.out HA5.out)
            have HLn := hide hLn
            have I26 : Hid ((Tryd.prog.info? 51).map (·.size) = some (u32s ws').length) := by show _ = _; rw [info26]; simp [u32s, h8H.out]
            have I27 : Hid ((Tryd.prog.info? 39).map (·.size) = some (u8s (restTo rest' br r m)).length) := by show _ = _; rw [info27]; simp [u8s, hrl]
            have hbl := blockF_length ws' (restTo rest' br r m)
            have I26' : Hid ((Tryd.prog.info? 51).map (·.size) = some (u32s (blockF ws' (restTo rest' br r m))).toArray.size) := by show _ = _; rw [info26]; simp [u32s, hbl]
            have HFT : Hid ((u32s (blockF ws' (restTo rest' br r m))).toArray.size ≤ (hCells ws' (restTo rest' br r m) nm).toArray.size) := by show _ ≤ _; simp [hCells, u32s, u8s, hbl, hrl, h8H.out]
            have HHD := hide (hash_headed (rest := restTo rest' br r m) (n := nm) h8H.out hbl)
            have HSZ : Hid ((u32s (blockF ws' (restTo rest' br r m))).toArray.size = 8) := by show _ = _; simp [u32s, hbl]
            clear hLn hRB hrl hbl
            generalize blockF ws' (restTo rest' br r m) = bw at *
            generalize restTo rest' br r m = R at *
            refine wp_region_any (by kernel_rfl) ?_
            try (change wpAny _ _ _ _ _ _ _ (World.drew _))
            refine take_dst (i := 0) (d := 46) (v := ?_) rfl rfl (by kernel_rfl) (by kernel_rfl) (by kernel_rfl) (fun _ _ _ h => h) (by rfl) ?_ ?_
            rotate_left
            · intro wZ; go_simp; first | (with_reducible rfl) | (rw [if_pos (by omega)]; with_reducible rfl) | skip
            try simp only [Act.put, List.setIfInBounds_toArray, List.set_cons_zero, List.set_cons_succ]
            refine take_dst (i := 1) (d := 47) (v := ?_) rfl rfl (by kernel_rfl) (by kernel_rfl) (by kernel_rfl) (fun _ _ _ h => h) (by rfl) ?_ ?_
            rotate_left
            · intro wZ; go_simp; first | (with_reducible rfl) | (rw [if_pos (by omega)]; with_reducible rfl) | skip
            try simp only [Act.put, List.setIfInBounds_toArray, List.set_cons_zero, List.set_cons_succ]
            refine take_dst (i := 2) (d := 48) (v := ?_) rfl rfl (by kernel_rfl) (by kernel_rfl) (by kernel_rfl) (fun _ _ _ h => h) (by rfl) ?_ ?_
            rotate_left
            · intro wZ; go_simp; first | (with_reducible rfl) | (rw [if_pos (by omega)]; with_reducible rfl) | skip
            try simp only [Act.put, List.setIfInBounds_toArray, List.set_cons_zero, List.set_cons_succ]
            refine take_dst (i := 3) (d := 49) (v := ?_) rfl rfl (by kernel_rfl) (by kernel_rfl) (by kernel_rfl) (fun _ _ _ h => h) (by rfl) ?_ ?_
            rotate_left
            · intro wZ; go_simp; first | (with_reducible rfl) | (rw [if_pos (by omega)]; with_reducible rfl) | skip
            try simp only [Act.put, List.setIfInBounds_toArray, List.set_cons_zero, List.set_cons_succ]
            refine take_dst (i := 5) (d := 51) (v := ?_) rfl rfl (by kernel_rfl) (by kernel_rfl) (by kernel_rfl) (fun _ _ _ h => h) (by rfl) ?_ ?_
            rotate_left
            · intro wZ; go_simp; first | (with_reducible rfl) | (rw [if_pos (by omega)]; with_reducible rfl) | skip
            try simp only [Act.put, List.setIfInBounds_toArray, List.set_cons_zero, List.set_cons_succ]
            refine take_dst (i := 6) (d := 52) (v := ?_) rfl rfl (by kernel_rfl) (by kernel_rfl) (by kernel_rfl) (fun _ _ _ h => h) (by rfl) ?_ ?_
            rotate_left
            · intro wZ; go_simp; first | (with_reducible rfl) | (rw [if_pos (by omega)]; with_reducible rfl) | skip
            try simp only [Act.put, List.setIfInBounds_toArray, List.set_cons_zero, List.set_cons_succ]
            refine take_dst (i := 7) (d := 53) (v := ?_) rfl rfl (by kernel_rfl) (by kernel_rfl) (by kernel_rfl) (fun _ _ _ h => h) (by rfl) ?_ ?_
            rotate_left
            · intro wZ; go_simp; first | (with_reducible rfl) | (rw [if_pos (by omega)]; with_reducible rfl) | skip
            try simp only [Act.put, List.setIfInBounds_toArray, List.set_cons_zero, List.set_cons_succ]
            refine wpAny_ready (rs := [4, 8]) (by kernel_rfl) (by simp) ?_
            refine (AllReady.cons rfl (fun K hK => ?_) (AllReady.cons rfl (fun K hK => ?_) AllReady.nil))
            focus
              refine wp_load_mid_dst (dd := 50) rfl 51 (.tmp 49) rfl g 0 rfl (u32s ws') _ HWR.out Tryd.underlying51 rfl I26.out ?_
              first | (refine hK _ _ ?_; clear hK K) | (clear hK K) | skip
              try simp only [Act.put, List.setIfInBounds_toArray, List.set_cons_zero, List.set_cons_succ]
              refine wpAny_ready (rs := [8]) (by kernel_rfl) (by simp) ?_
              refine (AllReady.cons rfl (fun K hK => ?_) AllReady.nil)
              refine wp_load_mid_dst (dd := 54) rfl 39 (.tmp 53) rfl g 8 rfl (u8s R) _ HRR.out Tryd.underlying39 rfl I27.out ?_
              first | (refine hK _ _ ?_; clear hK K) | (clear hK K) | skip
              try simp only [Act.put, List.setIfInBounds_toArray, List.set_cons_zero, List.set_cons_succ]
              refine wpAny_ready (rs := [9]) (by kernel_rfl) (by simp) ?_
              refine (AllReady.cons rfl (fun K hK => ?_) AllReady.nil)
              go_simp
              go_wp2_with ((go_at_call 24; refine (HCB.out _ (show Laid w5.drew from HLn.out)).mono ?_; rintro e w9 ⟨rfl, hb9⟩; have HA9 := hide ((show Arr w5.drew g 53 (hCells ws' R nm) from HA5.out).kept hb9); have HG9 := hide (grown_trans (grown_drew HG5.out) (below_grown hb9 (some g))); clear hb9))
              first | (refine hK _ _ ?_; clear hK K) | (clear hK K) | skip
              try simp only [Act.put, List.setIfInBounds_toArray, List.set_cons_zero, List.set_cons_succ]
              refine take_dst (i := 10) (d := 56) (v := ?_) rfl rfl (by kernel_rfl) (by kernel_rfl) (by kernel_rfl) (fun _ _ _ h => h) (by rfl) ?_ ?_
              rotate_left
              · intro wZ; go_simp; first | (with_reducible rfl) | (rw [if_pos (by omega)]; with_reducible rfl) | skip
              try simp only [Act.put, List.setIfInBounds_toArray, List.set_cons_zero, List.set_cons_succ]
              refine take_dst (i := 11) (d := 57) (v := ?_) rfl rfl (by kernel_rfl) (by kernel_rfl) (by kernel_rfl) (fun _ _ _ h => h) (by rfl) ?_ ?_
              rotate_left
              · intro wZ; go_simp; first | (with_reducible rfl) | (rw [if_pos (by omega)]; with_reducible rfl) | skip
              try simp only [Act.put, List.setIfInBounds_toArray, List.set_cons_zero, List.set_cons_succ]
              refine wpAny_ready (rs := [12]) (by kernel_rfl) (by simp) ?_
              refine (AllReady.cons rfl (fun K hK => ?_) AllReady.nil)
              refine wp_store_head rfl 51 (.tmp 57) (.tmp 55) rfl g _ rfl rfl 53 _ HA9.out I26'.out HFT.out (one_u32s _) ?_
              first | (refine hK _ _ ?_; clear hK K) | (clear hK K) | skip
              refine wpAny_done (by kernel_rfl) ?_ _
            rotate_left 1
            focus
              refine wp_load_mid_dst (dd := 54) rfl 39 (.tmp 53) rfl g 8 rfl (u8s R) _ HRR.out Tryd.underlying39 rfl I27.out ?_
              first | (refine hK _ _ ?_; clear hK K) | (clear hK K) | skip
              try simp only [Act.put, List.setIfInBounds_toArray, List.set_cons_zero, List.set_cons_succ]
              refine wpAny_ready (rs := [4]) (by kernel_rfl) (by simp) ?_
              refine (AllReady.cons rfl (fun K hK => ?_) AllReady.nil)
              refine wp_load_mid_dst (dd := 50) rfl 51 (.tmp 49) rfl g 0 rfl (u32s ws') _ HWR.out Tryd.underlying51 rfl I26.out ?_
              first | (refine hK _ _ ?_; clear hK K) | (clear hK K) | skip
              try simp only [Act.put, List.setIfInBounds_toArray, List.set_cons_zero, List.set_cons_succ]
              refine wpAny_ready (rs := [9]) (by kernel_rfl) (by simp) ?_
              refine (AllReady.cons rfl (fun K hK => ?_) AllReady.nil)
              go_simp
              go_wp2_with ((go_at_call 24; refine (HCB.out _ (show Laid w5.drew from HLn.out)).mono ?_; rintro e w9 ⟨rfl, hb9⟩; have HA9 := hide ((show Arr w5.drew g 53 (hCells ws' R nm) from HA5.out).kept hb9); have HG9 := hide (grown_trans (grown_drew HG5.out) (below_grown hb9 (some g))); clear hb9))
              first | (refine hK _ _ ?_; clear hK K) | (clear hK K) | skip
              try simp only [Act.put, List.setIfInBounds_toArray, List.set_cons_zero, List.set_cons_succ]
              refine take_dst (i := 10) (d := 56) (v := ?_) rfl rfl (by kernel_rfl) (by kernel_rfl) (by kernel_rfl) (fun _ _ _ h => h) (by rfl) ?_ ?_
              rotate_left
              · intro wZ; go_simp; first | (with_reducible rfl) | (rw [if_pos (by omega)]; with_reducible rfl) | skip
              try simp only [Act.put, List.setIfInBounds_toArray, List.set_cons_zero, List.set_cons_succ]
              refine take_dst (i := 11) (d := 57) (v := ?_) rfl rfl (by kernel_rfl) (by kernel_rfl) (by kernel_rfl) (fun _ _ _ h => h) (by rfl) ?_ ?_
              rotate_left
              · intro wZ; go_simp; first | (with_reducible rfl) | (rw [if_pos (by omega)]; with_reducible rfl) | skip
              try simp only [Act.put, List.setIfInBounds_toArray, List.set_cons_zero, List.set_cons_succ]
              refine wpAny_ready (rs := [12]) (by kernel_rfl) (by simp) ?_
              refine (AllReady.cons rfl (fun K hK => ?_) AllReady.nil)
              refine wp_store_head rfl 51 (.tmp 57) (.tmp 55) rfl g _ rfl rfl 53 _ HA9.out I26'.out HFT.out (one_u32s _) ?_
              first | (refine hK _ _ ?_; clear hK K) | (clear hK K) | skip
              refine wpAny_done (by kernel_rfl) ?_ _
            all_goals
              rw [HSZ.out, HHD.out]
              go_wp2
              go_roundg k
              case measure => omega
              case rel =>
                have hgg := grown_trans HG9.out (grown_row w9 g (hCells bw R nm).toArray)
                refine ⟨br.drop m, pn, c' - m, l' ++ br.take m, bw, R, by rw [hdl.out], by rw [hdl.out]; omega, bi_grown HBI.out hgg hnpg.out, hnil.out, hnpg.out, hdb.out, by rw [hdl.out]; omega, by unfold maxLen; omega, hcat.out, ?_, HREP.out, grown_trans HG.out hgg⟩
                rw [htl.out]
                exact HA9.out.row _
          · have hz0 : ¬ (nm : Int) % 64 = 0 := by omega
            have hz0' : ¬ Int.tmod (nm : Int) 64 = 0 := by rw [Int.tmod_eq_emod_of_nonneg (by omega)]; exact hz0
            have HREP := hide (show RepH (l' ++ br.take m) ws' (restTo rest' br r m) from by
              have h := HR.out.part HBY.out (m := m) (by rw [HK.out]; exact hmb) (by rw [HN.out, ← HRS.out]; omega)
              rw [HN.out, ← HRS.out] at h
              exact h)
            clear hnmv hrl
            generalize restTo rest' br r m = R at *
            go_wp2
            go_roundg k
            case measure => omega
            case rel =>
              refine ⟨br.drop m, pn, c' - m, l' ++ br.take m, ws', R, by rw [hdl.out], by rw [hdl.out]; omega, bi_grown HBI.out HG5.out hnpg.out, hnil.out, hnpg.out, hdb.out, by rw [hdl.out]; omega, by unfold maxLen; omega, hcat.out, ?_, HREP.out, grown_trans HG.out HG5.out⟩
              rw [htl.out]
              exact HA5.out

theorem write_any (g : Nat) (l : List Nat) (p : Option Addr) (c : Nat) (bs : List Nat) (w : World) (hM : MadeH w g l)
    (hb : BI w p bs) (hp : p = none → c = 0) (hpg : ∀ a, p = some a → bs ≠ [] → a.block ≠ g) (hby : BytesN bs) (hbc : bs.length ≤ c) (hcm : c ≤ maxLen) (hsz : l.length + bs.length ≤ 1000000) (hL : Laid w) (hg2 : 2 ≤ g) :
    Calls Tryd.prog 16 #[.pointer (some ⟨g, 0, none⟩), .slice p bs.length c] w fun e w' => e = .returned (.tuple #[]) ∧ MadeH w' g (l ++ bs) ∧ w.grownBy w' (some g) :=
  write_in g l p c bs w (Or.inl hM) hb hp hpg hby hbc hcm hsz hL hg2

/-- a hash that is not there stays so -/
theorem write_nil (v : Value) (w : World) :
    Calls Tryd.prog 16 #[.pointer none, v] w fun e w' => e = .returned (.tuple #[]) ∧ w' = w := by
  go_enter Tryd.func16, Tryd.ntmps16
  go_wp2
  refine bodyPost_ret (results_none rfl _ _ _) rfl ?_
  exact ⟨rfl, rfl⟩

end Go.Proofs.YtfopjobcjafgaabDoor
