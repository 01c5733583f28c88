/-
  A walk: a key's rounds.
-/
import Derived.Test.YtflakgigekfgcaaEG
import Derived.Laws.CopyRow
namespace Go.Proofs.Ytflakgigekfgcaa
open Go.RowKit

/-- what the first column of a round has added -/
def rcF : Nat → Nat
  | 0 => 1
  | j + 1 => dblF (rcF j)
theorem rcF_lt : ∀ j, rcF j < 256
  | 0 => by decide
  | j + 1 => dblF_lt (rcF_lt j)
/-- a key's rounds -/
def rdF (s key : List Nat) : Nat → List Nat
  | 0 => key
  | j + 1 => nxL s (rdF s key j) (rcF j)
/-- rows, one behind the other -/
def flF (f : Nat → List Nat) : Nat → List Nat
  | 0 => []
  | j + 1 => flF f j ++ f j
theorem flF_length {f : Nat → List Nat} (h : ∀ j, (f j).length = 16) : ∀ j, (flF f j).length = 16 * j
  | 0 => rfl
  | j + 1 => by rw [flF, List.length_append, flF_length h j, h]; omega
/-- .. and noughts behind them -/
def flZ (f : Nat → List Nat) (j : Nat) : List Nat := flF f j ++ List.replicate (176 - 16 * j) 0
theorem flZ_length {f : Nat → List Nat} (h : ∀ j, (f j).length = 16) (j : Nat) (hj : j ≤ 11) : (flZ f j).length = 176 := by rw [flZ, List.length_append, flF_length h, List.length_replicate]; omega
theorem flZ_all {f : Nat → List Nat} : flZ f 11 = flF f 11 := by simp [flZ]
theorem flZ_next {f : Nat → List Nat} (h : ∀ j, (f j).length = 16) (j : Nat) (hj : j < 11) : (flZ f j).take (16 * j) ++ f j ++ (flZ f j).drop (16 * j + 16) = flZ f (j + 1) := by
  have h1 := flF_length h j
  rw [flZ, flZ, flF, List.take_append_of_le_length (by omega), List.take_of_length_le (by omega), ← h1, List.drop_append, List.drop_of_length_le (by omega), List.nil_append, List.drop_replicate]
  congr 2
  rw [h1]; omega
theorem flF_row {f : Nat → List Nat} (h : ∀ j, (f j).length = 16) (j t : Nat) (ht : t < 16) : ∀ n, j < n → (flF f n)[16 * j + t]? = (f j)[t]? := by
  intro n
  induction n with
  | zero => intro hn; omega
  | succ n ih =>
    intro hn
    rw [flF]
    by_cases e : j = n
    · subst e
      rw [List.getElem?_append_right (by rw [flF_length h]; omega), flF_length h]
      congr 1; omega
    · rw [List.getElem?_append_left (by rw [flF_length h]; omega)]
      exact ih (by omega)
theorem flZ_row {f : Nat → List Nat} (h : ∀ j, (f j).length = 16) (j t n : Nat) (ht : t < 16) (hn : j < n) : (flZ f n)[16 * j + t]? = (f j)[t]? := by
  rw [flZ, List.getElem?_append_left (by rw [flF_length h]; omega)]
  exact flF_row h j t ht n hn

def z176 : List Nat := List.replicate 176 0
theorem zero176 (v : World) : (zeroValue 54).run Try.prog v = .ok (.agg (u8s z176).toArray) v := by kernel_rfl
theorem z176_is (f : Nat → List Nat) : flZ f 0 = z176 := by simp [flZ, flF, z176]

/-- a row read out of the middle of a block -/
theorem exec_load_mid {P : Program} {oi : Oper} {a : Act} {w : World} (ty : TypeId) (x : Operand) (ho : oi.op = .load ty x)
    (b o : Nat) (hx : a.eval x = .pointer (some ⟨b, o, none⟩)) (cs : List Value) (d : TypeDesc) (hc : w.rangeAt b o cs)
    (hu : P.underlying ty = some d) (hd : d.isRow = true) (hi : (P.info? ty).map (·.size) = some cs.length) : (execOp a.eval oi).run P w = .ok (.value (.agg cs.toArray)) w := by
  unfold execOp
  simp only [ho, hx, Instr.loadAt, Instr.sureAddr, Sem.run_bind, Sem.run_pure, Result.andThen_ok, run_loadVar_mid w b o ty cs d hc hu hd hi]
theorem exec_load_all {P : Program} {oi : Oper} {a : Act} {w : World} (ty : TypeId) (x : Operand) (ho : oi.op = .load ty x)
    (b : Nat) (hx : a.eval x = .pointer (some ⟨b, 0, none⟩)) (t : TypeId) (vs : List Value) (d : TypeDesc) (hc : Arr w b t vs)
    (hu : P.underlying ty = some d) (hd : d.isRow = true) (hi : (P.info? ty).map (·.size) = some vs.length) : (execOp a.eval oi).run P w = .ok (.value (.agg vs.toArray)) w :=
  exec_load_mid ty x ho b 0 hx vs d hc.range hu hd hi

/-- a whole array stored into the middle of a block -/
theorem wp_store_at {P : Program} {o : Oper} {a : Act} {w : World} {K : Act → World → Prop} {Q : Exit → Act → World → Prop} (hdd : o.dst = none) (ty : TypeId) (x y : Operand) (ho : o.op = .store ty x y)
    (g off : Nat) (cells : Array Value) (hx : a.eval x = .pointer (some ⟨g, off, none⟩)) (hy : a.eval y = .agg cells)
    (t : TypeId) (cur : List Value) (hg : Arr w g t cur) (hi : (P.info? ty).map (·.size) = some cells.size)
    (hfit : off + cells.size ≤ cur.length) (h1 : cells.all (·.oneCell') = true)
    (h : K a (w.setRow g (cur.take off ++ cells.toList ++ cur.drop (off + cells.size)).toArray)) : o.wp P a w K Q := by
  have hst := run_storeCells_at (P := P) g off t cells.toList 0 cur.toArray w hg (by simpa using hfit) (fun v hv => (Array.all_eq_true_iff_forall_mem.1 h1) v (by simpa using hv))
  have hrun : (storeVar ty ⟨g, off, none⟩ (.agg cells)).run P w = .ok () (w.setRow g (cur.take off ++ cells.toList ++ cur.drop (off + cells.size)).toArray) := by
    cases hq : P.info? ty with
    | none => simp [hq] at hi
    | some i =>
      have hs : cells.size = i.size := by simp [hq] at hi; omega
      simp [storeVar, sizeOf, typeInfo, hq, Value.cells, hs] at hst ⊢
      exact hst
  unfold Oper.wp execOp
  simp only [ho, hx, hy, Instr.storeAt, Instr.sureAddr, Sem.run_bind, Sem.run_pure, Result.andThen_ok, hrun]
  show K (a.put o.dst undef) _
  rw [hdd]
  exact h

/-- what lies in memory while rounds are made -/
def StR (w wr : World) (s L : List Nat) : Prop :=
  Arr wr (w.heap.size + 1) 52 (u8s s) ∧ Arr wr (w.heap.size + 1 + 1) 54 (u8s z176) ∧ Arr wr (w.heap.size + 1 + 1 + 1) 54 (u8s L) ∧ Below w.heap.size w wr

theorem built176 (key : List Nat) (h : key.length = 16) : Try.prog.built 54 [(0, .agg (u8s key).toArray)] = some (u8s (key ++ List.replicate 160 0)).toArray := by
  obtain ⟨k0, k1, k2, k3, k4, k5, k6, k7, k8, k9, k10, k11, k12, k13, k14, k15, rfl⟩ : ∃ k0 k1 k2 k3 k4 k5 k6 k7 k8 k9 k10 k11 k12 k13 k14 k15, key = [k0, k1, k2, k3, k4, k5, k6, k7, k8, k9, k10, k11, k12, k13, k14, k15] := by
    match key, h with
    | [k0, k1, k2, k3, k4, k5, k6, k7, k8, k9, k10, k11, k12, k13, k14, k15], _ => exact ⟨k0, k1, k2, k3, k4, k5, k6, k7, k8, k9, k10, k11, k12, k13, k14, k15, rfl⟩
  kernel_rfl

set_option maxHeartbeats 8000000 in
set_option maxRecDepth 100000 in
theorem rounds_of (key s L : List Nat) (f : Nat → List Nat) (w : World) (kl : key.length = 16) (sl : s.length = 256) (hs : ∀ i, s.getD i 0 < 256) (hf0 : f 0 = key) (hfN : ∀ j, f (j + 1) = nxL s (f j) (rcF j)) (hfL : ∀ j, (f j).length = 16) (hfB : ∀ j i, (f j).getD i 0 < 256) (hL : L = flF f 11) :
    Calls Try.prog 35 #[.agg (u8s key).toArray, .agg (u8s s).toArray] w fun e w' => e = .returned (.agg (u8s L).toArray) ∧ Below w.heap.size w w' := by
  have KL := hide kl
  have SL := hide sl
  have HS := hide hs
  have F0 := hide hf0
  have FN := hide hfN
  have FL := hide hfL
  have FB := hide hfB
  have HL := hide hL
  have HBK := hide (built176 key kl)
  have Z1 := zero176
  have L1 : Hid (key ++ List.replicate 160 0 = flZ f 1) := by show _ = _; rw [← hf0]; rfl
  have FZ := hide (fun j hj => flZ_length hfL j hj)
  rw [L1.out] at HBK
  clear kl sl hs hf0 hfN hfL hfB hL L1
  have IK : Hid ((Try.prog.info? 22).map (·.size) = some (u8s key).toArray.size) := sz16 KL.out
  have I1 : Hid ((Try.prog.info? 54).map (·.size) = some (u8s (flZ f 1)).toArray.size) := by show _ = _; rw [info176]; simp [u8s, FZ.out 1 (by omega)]
  have I2 : Hid ((u8s z176).toArray.size = (u8s (flZ f 1)).toArray.size) := by show _ = _; simp [u8s, FZ.out 1 (by omega), z176]
  have O1 := hide (one_u8s (flZ f 1))
  have KA : Hid (∀ x y : Obj, Arr (((w.alloc (Obj.cells (u8s key).toArray 22)).alloc x).alloc y) w.heap.size 22 (u8s key)) := fun x y => ((Arr.new w _ (u8s key)).alloc _).alloc _
  go_enter Try.func35, Try.ntmps35
  go_wp2_with (first
    | (refine wpList_load_row rfl 22 _ rfl w.heap.size rfl 22 _ (0, 0) _ (KA.out _ _) Try.underlying22 rfl IK.out ?_
       refine wpList_build_to rfl 54 #[(0, .tmp 8)] rfl [(0, .agg (u8s key).toArray)] (by simp [Act.eval, Act.put]) _ HBK.out ?_)
    | (refine wpList_store_row rfl 54 _ _ rfl (w.heap.size + 1 + 1 + 1) _ rfl rfl 54 _ (Arr.newAt (((w.alloc _).alloc _).alloc _) 54 (u8s z176) (w.heap.size + 1 + 1 + 1) (by simp)) I1.out I2.out O1.out ?_))
  go_loopg [6, 7] 12 (fun f0 s6 s7 wr => ∃ (k j : Nat), s6 = .int .u8 (rcF k : Nat) ∧ s7 = .int .i64 j ∧ j = k + 1 ∧ k ≤ 10 ∧ 11 - k < f0 ∧ Hid (StR w wr s (flZ f j)))
  case atStart =>
    refine ⟨0, 1, rfl, rfl, rfl, by omega, by omega, ?_, ?_, ?_, ?_⟩
    · exact (((Arr.newAt (w.alloc _) _ (u8s s) (w.heap.size + 1) (by simp)).alloc _).alloc _).rowOther _ _ (by omega)
    · exact ((Arr.newAt ((w.alloc _).alloc _) _ (u8s z176) (w.heap.size + 1 + 1) (by simp)).alloc _).rowOther _ _ (by omega)
    · exact (Arr.newAt (((w.alloc _).alloc _).alloc _) _ (u8s z176) (w.heap.size + 1 + 1 + 1) (by simp)).row _
    · exact below_setRow (g := w.heap.size + 1 + 1 + 1) ((((((Below.refl _ _).alloc (Nat.le_refl _) _).alloc (by simp) _).alloc (by simp; omega) _).alloc (by simp; omega) _)) (by omega) (by simp) _
  case round =>
    clear KA HBK I1 I2 O1
    obtain ⟨k, j, rfl, rfl, hjk, hk, hf, HR⟩ := hrel
    by_cases hlt : k < 10
    · have m1 : (j : Int) - 1 = (k : Int) := by omega
      have m2 : IntKind.i64.wrap (k : Int) = (k : Int) := by simp [IntKind.wrap, IntKind.bits, IntKind.signed]; omega
      have m3 : (k : Int) < 11 := by omega
      have m4 : (j : Int) < 11 := by omega
      have m5 : (j : Int) ≤ 10 := by omega
      have RNG : Hid (∀ (v : World) (n : Nat), k < n → Arr v (w.heap.size + 1 + 1 + 1) 54 (u8s (flZ f n)) → v.rangeAt (w.heap.size + 1 + 1 + 1) (k * 16) (u8s (f k))) := fun v n hn hv t x hx => by
        have ht : t < 16 := by have := (List.getElem?_eq_some_iff.1 hx).1; rwa [u8s_length, FL.out] at this
        rw [hv.cell, ← hx, Nat.mul_comm k 16]
        simp only [u8s, List.getElem?_map, flZ_row FL.out k t n ht hn]
      have I16 : Hid ((Try.prog.info? 22).map (·.size) = some (u8s (f k)).length) := by show _ = _; rw [info16, u8s_length, FL.out]
      have I256 : Hid ((Try.prog.info? 52).map (·.size) = some (u8s s).length) := by show _ = _; rw [info256, u8s_length, SL.out]
      have HN : Hid (∀ v, Calls Try.prog 44 #[.agg (u8s (f k)).toArray, .agg (u8s s).toArray, .int .u8 ((rcF k : Nat) : Int)] v fun e w' => e = .returned (.agg (u8s (f j)).toArray) ∧ Below v.heap.size v w') := fun v => next_of (f k) s (f j) (rcF k) v (FL.out k) SL.out (FB.out k) HS.out (rcF_lt k) (by rw [hjk, FN.out])
      have HD := hide (fun v => doubled_any (rcF k) (rcF_lt k) v)
      have IJ : Hid ((Try.prog.info? 22).map (·.size) = some (u8s (f j)).toArray.size) := sz16 (FL.out j)
      have IF : Hid (j * 16 + (u8s (f j)).toArray.size ≤ (u8s (flZ f j)).length) := by show _ ≤ _; rw [List.size_toArray, u8s_length, FL.out, u8s_length, FZ.out j (by omega)]; omega
      have OJ := hide (one_u8s (f j))
      have HZ : Hid (((u8s (flZ f j)).take (j * 16) ++ (u8s (f j)).toArray.toList ++ (u8s (flZ f j)).drop (j * 16 + (u8s (f j)).toArray.size)) = u8s (flZ f (j + 1))) := by
        show _ = _
        rw [List.size_toArray, u8s_length, FL.out, Nat.mul_comm j 16, ← flZ_next FL.out j (by omega)]
        simp [u8s]
      have HP : Hid (rcF j = dblF (rcF k)) := by show _ = _; rw [hjk]; rfl
      have HJ := hide hjk
      have hkj : k < j := by omega
      clear hjk
      generalize hp : rcF k = p at *
      have HPK := hide hp
      clear hp
      go_wp2_with fail
      refine wp_region_held_drew (S := fun w' => Hid (Arr w' (w.heap.size + 1) 52 (u8s s) ∧ w'.rangeAt (w.heap.size + 1 + 1 + 1) (k * 16) (u8s (f k)))) (by kernel_rfl) (hide ⟨HR.out.1, RNG.out _ j hkj HR.out.2.2.1⟩) (fun hHeld => ?_)
      refine take_dstH (i := 0) (d := 14) (v := ?_) rfl rfl (by kernel_rfl) (by kernel_rfl) (by kernel_rfl) (fun _ _ _ h => h) (by rfl) hHeld ?_ ?_
      rotate_left
      · intro wZ hSw; clear hSw; go_simp; first | (with_reducible rfl) | (rw [if_pos (by omega)]; with_reducible rfl) | skip
      try simp only [Act.put, List.setIfInBounds_toArray, List.set_cons_zero, List.set_cons_succ]
      refine take_dstH (i := 1) (d := 15) (v := ?_) rfl rfl (by kernel_rfl) (by kernel_rfl) (by kernel_rfl) (fun _ _ _ h => h) (by rfl) hHeld ?_ ?_
      rotate_left
      · intro wZ hSw; clear hSw; go_simp; first | (with_reducible rfl) | (rw [if_pos (by omega)]; with_reducible rfl) | skip
      try simp only [Act.put, List.setIfInBounds_toArray, List.set_cons_zero, List.set_cons_succ]
      refine take_dstH (i := 2) (d := 16) (v := ?_) rfl rfl (by kernel_rfl) (by kernel_rfl) (by kernel_rfl) (fun _ _ _ h => h) (by rfl) hHeld ?_ ?_
      rotate_left
      · intro wZ hSw; clear hSw; go_simp; first | (with_reducible rfl) | (rw [if_pos (by omega)]; with_reducible rfl) | skip
      try simp only [Act.put, List.setIfInBounds_toArray, List.set_cons_zero, List.set_cons_succ]
      refine take_dstH (i := 3) (d := 17) (v := ?_) rfl rfl (by kernel_rfl) (by kernel_rfl) (by kernel_rfl) (fun _ _ _ h => h) (by rfl) hHeld ?_ ?_
      rotate_left
      · intro wZ hSw; clear hSw; go_simp; first | (with_reducible rfl) | (rw [if_pos (by omega)]; with_reducible rfl) | skip
      try simp only [Act.put, List.setIfInBounds_toArray, List.set_cons_zero, List.set_cons_succ]
      refine take_dstH (i := 4) (d := 18) (v := ?_) rfl rfl (by kernel_rfl) (by kernel_rfl) (by kernel_rfl) (fun _ _ _ h => h) (by rfl) hHeld ?_ ?_
      rotate_left
      · intro wZ hSw; refine exec_load_mid 22 (.tmp 17) ?_ (w.heap.size + 1 + 1 + 1) (k * 16) ?_ (u8s (f k)) _ hSw.out.2 Try.underlying22 rfl I16.out <;> rfl
      try simp only [Act.put, List.setIfInBounds_toArray, List.set_cons_zero, List.set_cons_succ]
      refine take_dstH (i := 5) (d := 19) (v := ?_) rfl rfl (by kernel_rfl) (by kernel_rfl) (by kernel_rfl) (fun _ _ _ h => h) (by rfl) hHeld ?_ ?_
      rotate_left
      · intro wZ hSw; refine exec_load_all 52 (.tmp 3) ?_ (w.heap.size + 1) ?_ 52 (u8s s) _ hSw.out.1 Try.underlying52 rfl I256.out <;> rfl
      try simp only [Act.put, List.setIfInBounds_toArray, List.set_cons_zero, List.set_cons_succ]
      refine take_dstH (i := 6) (d := 20) (v := ?_) rfl rfl (by kernel_rfl) (by kernel_rfl) (by kernel_rfl) (fun _ _ _ h => h) (by rfl) hHeld ?_ ?_
      rotate_left
      · intro wZ hSw; clear hSw; go_simp; first | (with_reducible rfl) | (rw [if_pos (by omega)]; with_reducible rfl) | skip
      try simp only [Act.put, List.setIfInBounds_toArray, List.set_cons_zero, List.set_cons_succ]
      refine wpAnyH_ready (rs := [7]) (by kernel_rfl) (by simp) ?_
      refine (AllReadyH.cons rfl (fun K hK => ?_) AllReadyH.nil)
      go_simp
      refine (HN.out _).mono ?_; rintro e wa ⟨rfl, hba⟩; have HBa := hide hba; clear hba
      go_wp2_with fail
      refine hK.out _ _ ?_ (fun hHeld => ?_)
      · exact (fun h : Hid _ => hide ⟨h.out.1.kept HBa.out, RNG.out _ j hkj (Arr.kept (w := World.drew wr) HR.out.2.2.1 HBa.out)⟩) hHeld
      clear hK K
      try simp only [Act.put, List.setIfInBounds_toArray, List.set_cons_zero, List.set_cons_succ]
      refine take_dstH (i := 8) (d := 22) (v := ?_) rfl rfl (by kernel_rfl) (by kernel_rfl) (by kernel_rfl) (fun _ _ _ h => h) (by rfl) hHeld ?_ ?_
      rotate_left
      · intro wZ hSw; clear hSw; go_simp; first | (with_reducible rfl) | (rw [if_pos (by omega)]; with_reducible rfl) | skip
      try simp only [Act.put, List.setIfInBounds_toArray, List.set_cons_zero, List.set_cons_succ]
      refine wpAnyH_ready (rs := [9]) (by kernel_rfl) (by simp) ?_
      refine (AllReadyH.cons rfl (fun K hK => ?_) AllReadyH.nil)
      refine wp_store_at rfl 22 (.tmp 22) (.tmp 21) rfl (w.heap.size + 1 + 1 + 1) (j * 16) _ rfl rfl 54 _ (Arr.kept (w := World.drew wr) HR.out.2.2.1 HBa.out) IJ.out IF.out OJ.out ?_; rw [HZ.out]
      refine hK.out _ _ ?_ (fun hHeld => ?_)
      · exact (fun h : Hid _ => hide ⟨h.out.1.rowOther _ _ (by omega), RNG.out _ (j + 1) (by omega) ((Arr.kept (w := World.drew wr) HR.out.2.2.1 HBa.out).row _)⟩) hHeld
      clear hK K
      try simp only [Act.put, List.setIfInBounds_toArray, List.set_cons_zero, List.set_cons_succ]
      refine wpAnyH_done (by kernel_rfl) ?_ _
      clear hHeld
      have H2 : Hid (StR w (wa.setRow (w.heap.size + 1 + 1 + 1) (u8s (flZ f (j + 1))).toArray) s (flZ f (j + 1))) := by
        obtain ⟨h0, h1, h2, h3⟩ := HR.out
        have hB := HBa.out
        have k0 := Arr.kept (w := World.drew wr) h0 hB
        have k1 := Arr.kept (w := World.drew wr) h1 hB
        have k2 := Arr.kept (w := World.drew wr) h2 hB
        exact ⟨k0.rowOther _ _ (by omega), k1.rowOther _ _ (by omega), k2.row _, below_setRow (g := w.heap.size + 1 + 1 + 1) (h3.drew.trans (hB.mono h3.drew.size)) (by omega) k2.lt _⟩
      clear HR HBa HZ IJ IF OJ HN I16 I256 RNG
      generalize wa.setRow (w.heap.size + 1 + 1 + 1) (u8s (flZ f (j + 1))).toArray = wb at *
      go_wp2_with (refine (HD.out _).mono ?_; rintro e wc ⟨rfl, hwc⟩; subst hwc)
      go_roundg (11 - k)
      case measure => omega
      case rel => exact ⟨j, j + 1, by rw [HP.out], by go_num, rfl, by omega, by omega, H2⟩
    · have e : k = 10 := by omega
      subst e
      subst hjk
      have LL : Hid (flZ f (10 + 1) = L) := by show _ = _; rw [HL.out]; exact flZ_all
      rw [LL.out] at HR
      have lL : L.length = 176 := by rw [← LL.out]; exact FZ.out 11 (by omega)
      have K0 := hide HR.out.2.2.1
      have K2 := hide HR.out.2.1
      have KB := hide HR.out.2.2.2
      have T1 : Hid ((Try.prog.info? 54).map (·.size) = some (u8s L).toArray.size) := by show _ = _; rw [info176]; simp [u8s, lL]
      have T2 : Hid ((u8s z176).toArray.size = (u8s L).toArray.size) := by show _ = _; simp [u8s, lL, z176]
      have O2 := hide (one_u8s L)
      clear HR lL
      go_wp2_with (first
        | (refine wpList_load_row rfl 54 _ rfl (w.heap.size + 1 + 1 + 1) rfl 54 _ (0, 0) _ K0.out Try.underlying54 rfl T1.out ?_)
        | (refine wpList_store_row rfl 54 _ _ rfl (w.heap.size + 1 + 1) _ rfl rfl 54 _ K2.out T1.out T2.out O2.out ?_))
      exact bodyPost_ret (v := .agg (u8s L).toArray) (results_cell_row Try.results35 _ _ (w.heap.size + 1 + 1) 54 _ (0, 0) _ rfl (K2.out.row _) Try.underlying54 rfl T1.out) rfl ⟨rfl, below_setRow KB.out (by omega) K2.out.lt _⟩

end Go.Proofs.Ytflakgigekfgcaa
