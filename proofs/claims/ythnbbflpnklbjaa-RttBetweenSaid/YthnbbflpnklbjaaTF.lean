/-
  Walks: the reference's Hear.
-/
import Derived.Test.YthnbbflpnklbjaaTD
import Derived.Test.YthnbbflpnklbjaaTE
import Derived.Test.YthnbbflpnklbjaaBT
namespace Go.Proofs.Ythnbbflpnklbjaa
open Go.RowKit

set_option maxHeartbeats 4000000 in
set_option maxRecDepth 100000 in
theorem rhear_arg (m : Me) (v : Value) (w : World) (hm : ¬ m.may) :
    Calls Try.prog 10 #[meV m, v] w fun e w' => e = .returned (.tuple #[meV Me.none, .int .i64 2]) ∧ Below w.heap.size w w' := by
  have A1 := hide (me_boxes w m)
  have HM := hide (fun v : World => rmay_any m v)
  rw [decide_eq_false hm] at HM
  clear hm
  go_enter Try.func10, Try.ntmps10
  go_upto_region 1 with fail
  generalize (w.alloc (Obj.cells #[Value.int .i64 m.a, Value.int .i64 m.b, Value.int .i64 m.c] 23)).alloc (Obj.cells #[Value.int .i64 0, Value.int .i64 0, Value.int .i64 0] 23) = w1 at *
  go_wp2_with (refine wpList_load_row rfl 23 _ rfl w.heap.size rfl 23 _ (0, 0) _ A1.out.1 Try.underlying23 rfl infoM ?_)
  refine (HM.out w1).mono ?_
  rintro e w2 ⟨rfl, hb⟩
  have A2 : Hid (Arr w2 (w.heap.size + 1) 23 (meC Me.none) ∧ Below w.heap.size w w2) := ⟨A1.out.2.1.kept hb, A1.out.2.2.trans (hb.mono A1.out.2.2.size)⟩
  clear hb A1
  go_wp2_with (refine wpList_store_row rfl 23 _ _ rfl (w.heap.size + 1) (meC Me.none).toArray rfl rfl 23 (meC Me.none).toArray A2.out.1 infoM rfl (one_meC _) ?_)
  exact bodyPost_ret (results_ct Try.results10 _ _ (w.heap.size + 1) (meC Me.none) rfl (A2.out.1.row _) Try.underlying23 rfl infoM) rfl ⟨rfl, below_setRow A2.out.2 (Nat.le_succ _) A2.out.1.lt _⟩

/-- what lies in memory while the reference hears -/
structure StJ (w wr : World) (m : Me) : Prop where
  b : Arr wr w.heap.size 23 (meC m)
  r : Arr wr (w.heap.size + 1) 23 (meC Me.none)
  w : Below w.heap.size w wr
theorem StJ.kept {w wr w' : World} {m : Me} (h : StJ w wr m) (hb : Below wr.heap.size wr w') : StJ w w' m := ⟨h.b.kept hb, h.r.kept hb, h.w.trans (hb.mono h.w.size)⟩
theorem StJ.drew {w wr : World} {m : Me} (h : StJ w wr m) : StJ w wr.drew m := ⟨h.b, h.r, h.w.drew⟩
theorem StJ.store {w wr : World} {m : Me} (h : StJ w wr m) (n : Me) : StJ w (wr.setRow w.heap.size (meC n).toArray) n :=
  ⟨h.b.row _, h.r.rowOther _ _ (by omega), below_setRow h.w (Nat.le_refl _) h.b.lt _⟩

theorem samp_next {xs : List Int} {k : Nat} (h : ∀ s ∈ xs.take k, Samp s) (hk : k < xs.length) (hs : Samp (xs.getD k 0)) : ∀ s ∈ xs.take (k + 1), Samp s := by
  intro s hm
  rw [List.take_add_one] at hm
  rcases List.mem_append.1 hm with h1 | h1
  · exact h s h1
  · have : s = xs.getD k 0 := by simp [hk] at h1; simp [List.getD, hk, h1]
    rw [this]; exact hs

set_option maxHeartbeats 8000000 in
set_option maxRecDepth 100000 in
theorem rhear_ok (m0 M : Me) (E : Int) (p : Option Addr) (c n : Nat) (xs : List Int) (w : World) (hm : m0.may) (hP : IPiece w p c xs) (hn : xs.length = n) (hM : hearM m0 xs = M) (hE : hearE m0 xs = E) :
    Calls Try.prog 10 #[meV m0, .slice p n c] w fun e w' => e = .returned (.tuple #[meV M, .int .i64 E]) ∧ Below w.heap.size w w' := by
  have A1 := hide (me_boxes w m0)
  have HM := hide (fun v : World => rmay_any m0 v)
  rw [decide_eq_true hm] at HM
  have HP := hide hP
  have HS := hide (HrR.start m0 xs hm)
  have HME := hide (And.intro hM hE)
  have HN := hide hn
  have HB := hide (fun (m : Me) (s : Int) (v : World) (hm : m.may) (hs : Samp s) => rone_any m s v hm hs)
  have HNM : Hid ((n : Int) ≤ 9223372036854775807) := by
    have h1 := hP.2.2.1
    have h2 := hP.2.2.2
    unfold maxLen at h2
    show _ ≤ _
    omega
  clear hm hP hM hE hn
  go_enter Try.func10, Try.ntmps10
  go_upto_region 1 with fail
  generalize (w.alloc (Obj.cells #[Value.int .i64 m0.a, Value.int .i64 m0.b, Value.int .i64 m0.c] 23)).alloc (Obj.cells #[Value.int .i64 0, Value.int .i64 0, Value.int .i64 0] 23) = w1 at *
  go_wp2_with (refine wpList_load_row rfl 23 _ rfl w.heap.size rfl 23 _ (0, 0) _ A1.out.1 Try.underlying23 rfl infoM ?_)
  refine (HM.out w1).mono ?_
  rintro e w2 ⟨rfl, hb⟩
  have A2 : Hid (StJ w w2 m0) := ⟨A1.out.1.kept hb, A1.out.2.1.kept hb, A1.out.2.2.trans (hb.mono A1.out.2.2.size)⟩
  clear hb A1 HM
  go_wp2_with fail
  go_loopg [6] (n + 1) (fun f s6 wr => ∃ (k : Nat), s6 = .int .i64 (k : Int) ∧ k ≤ n ∧ n - k < f ∧ Hid (∀ s ∈ xs.take k, Samp s) ∧ wr = w2)
  case atStart => exact ⟨0, rfl, by omega, by omega, (by simp : ∀ s ∈ xs.take 0, Samp s), rfl⟩
  case round =>
    obtain ⟨k, rfl, hk, hf, HT, rfl⟩ := hrel
    by_cases hkn : k < n
    · obtain ⟨g, o, rfl, hc⟩ := (HP.out.kept (A2.out.w.mono (Nat.le_refl _))).cell (by rw [HN.out]; omega)
      have hck := hc k (by rw [HN.out]; exact hkn)
      have HNX := hide (fun (hs : Samp (xs.getD k 0)) => samp_next HT.out (by rw [HN.out]; exact hkn) hs)
      have HBD : Hid (¬ Samp (xs.getD k 0) → hearM m0 xs = Me.none ∧ hearE m0 xs = 2) := fun hs => by
        have hn : ¬ (m0.may ∧ ∀ s ∈ xs, Samp s) := fun h' => hs (h'.2 _ (by simp [List.getD, show k < xs.length by rw [HN.out]; exact hkn]))
        exact ⟨if_neg hn, if_neg hn⟩
      generalize xs.getD k 0 = x at *
      clear hc HP HS HB HT
      by_cases hs1 : x < 0
      · have HE := hide (HBD.out (fun h => by omega))
        clear HBD HNX
        go_wp2_with (refine wpList_store_row rfl 23 _ _ rfl (w.heap.size + 1) (meC Me.none).toArray rfl rfl 23 (meC Me.none).toArray A2.out.r infoM rfl (one_meC _) ?_)
        obtain ⟨rfl, rfl⟩ : M = Me.none ∧ E = 2 := ⟨HME.out.1.symm.trans HE.out.1, HME.out.2.symm.trans HE.out.2⟩
        exact bodyPost_ret (results_ct Try.results10 _ _ (w.heap.size + 1) (meC Me.none) rfl (A2.out.r.row _) Try.underlying23 rfl infoM) rfl ⟨rfl, below_setRow A2.out.w (Nat.le_succ _) A2.out.r.lt _⟩
      by_cases hs2 : 60000 < x
      · have HE := hide (HBD.out (fun h => by omega))
        clear HBD HNX
        go_wp2_with (refine wpList_store_row rfl 23 _ _ rfl (w.heap.size + 1) (meC Me.none).toArray rfl rfl 23 (meC Me.none).toArray A2.out.r infoM rfl (one_meC _) ?_)
        obtain ⟨rfl, rfl⟩ : M = Me.none ∧ E = 2 := ⟨HME.out.1.symm.trans HE.out.1, HME.out.2.symm.trans HE.out.2⟩
        exact bodyPost_ret (results_ct Try.results10 _ _ (w.heap.size + 1) (meC Me.none) rfl (A2.out.r.row _) Try.underlying23 rfl infoM) rfl ⟨rfl, below_setRow A2.out.w (Nat.le_succ _) A2.out.r.lt _⟩
      · have HH := hide (HNX.out ⟨by omega, by omega⟩)
        clear HBD HNX
        go_wp2
        go_roundg (n - k)
        case measure => omega
        case rel => exact ⟨k + 1, by rw [show wrap64 ((k : Int) + 1) = ((k + 1 : Nat) : Int) from by unfold wrap64; have := HNM.out; omega], by omega, by omega, HH.out, rfl⟩
    · have hkn' : k = n := by omega
      subst hkn'
      have HA : Hid (∀ s ∈ xs, Samp s) := by
        have h := HT.out
        rw [List.take_of_length_le (by rw [HN.out]; exact Nat.le_refl _)] at h
        exact h
      clear HT hk hf hkn
      go_wp2_with fail
      go_loopg [7] (k + 1) (fun f s7 wx => ∃ (j : Nat) (m : Me), s7 = .int .i64 (j : Int) ∧ j ≤ k ∧ k - j < f ∧ Hid (HrR m0 xs j m ∧ StJ w wx m))
      case atStart => exact ⟨0, m0, rfl, by omega, by omega, HS.out, A2.out⟩
      case round =>
        obtain ⟨j, m, rfl, hj, hf, HT⟩ := hrel
        by_cases hjk : j < k
        · obtain ⟨g, o, rfl, hc⟩ := HP.out.cell (by rw [HN.out]; omega)
          have HC : Hid (∀ v, Below w.heap.size w v → v.cell? ⟨g, o + j, none⟩ = some (.int .i64 (xs.getD j 0))) := fun v hb => (hb.cell (block_lt_of_cell (hc j (by rw [HN.out]; exact hjk)))).trans (hc j (by rw [HN.out]; exact hjk))
          have hsx : Samp (xs.getD j 0) := HA.out _ (by simp [List.getD, show j < xs.length by rw [HN.out]; exact hjk])
          have HNX := hide (HT.out.1.next (by rw [HN.out]; exact hjk) hsx)
          have HO := hide (fun v => HB.out m (xs.getD j 0) v HT.out.1.may hsx)
          have AX := hide HT.out.2
          generalize xs.getD j 0 = x at *
          clear hc HP HS HB HT HA hsx A2
          go_upto_region 11 with fail
          refine wp_region_late (S := fun v => Hid (StJ w v m)) [6] (by kernel_rfl) (hide AX.out.drew) (fun hHeld => ?_)
          refine take_dstT (i := 0) (d := 37) (v := ?_) rfl rfl (by kernel_rfl) (by kernel_rfl) (by kernel_rfl) (by kernel_rfl) (fun _ _ _ h => h) (by rfl) hHeld ?_ ?_
          rotate_left
          · intro wZ hSw; refine exec_load_all 23 (.tmp 2) ?_ w.heap.size ?_ 23 (meC m) _ (Hid.out hSw).b Try.underlying23 rfl infoM <;> rfl
          try simp only [Act.put, List.setIfInBounds_toArray, List.set_cons_zero, List.set_cons_succ]
          refine take_dstT (i := 1) (d := 38) (v := ?_) rfl rfl (by kernel_rfl) (by kernel_rfl) (by kernel_rfl) (by kernel_rfl) (fun _ _ _ h => h) (by rfl) hHeld ?_ ?_
          rotate_left
          · intro wZ hSw; clear hSw; go_simp; first | (with_reducible rfl) | (rw [if_pos (by omega)]; with_reducible rfl) | skip
          try simp only [Act.put, List.setIfInBounds_toArray, List.set_cons_zero, List.set_cons_succ]
          refine take_dstT (i := 2) (d := 39) (v := ?_) rfl rfl (by kernel_rfl) (by kernel_rfl) (by kernel_rfl) (by kernel_rfl) (fun _ _ _ h => h) (by rfl) hHeld ?_ ?_
          rotate_left
          · intro wZ hSw; clear hSw; go_simp; first | (with_reducible rfl) | (rw [if_pos (by omega)]; with_reducible rfl) | skip
          try simp only [Act.put, List.setIfInBounds_toArray, List.set_cons_zero, List.set_cons_succ]
          refine take_dstT (i := 3) (d := 40) (v := ?_) rfl rfl (by kernel_rfl) (by kernel_rfl) (by kernel_rfl) (by kernel_rfl) (fun _ _ _ h => h) (by rfl) hHeld ?_ ?_
          rotate_left
          · intro wZ hSw; clear hSw; go_simp; first | (with_reducible rfl) | (rw [if_pos (by omega)]; with_reducible rfl) | skip
          try simp only [Act.put, List.setIfInBounds_toArray, List.set_cons_zero, List.set_cons_succ]
          refine take_dstT (i := 4) (d := 41) (v := ?_) rfl rfl (by kernel_rfl) (by kernel_rfl) (by kernel_rfl) (by kernel_rfl) (fun _ _ _ h => h) (by rfl) hHeld ?_ ?_
          rotate_left
          · intro wZ hSw; have hfS := (fun (v : World) (hv : Hid (StJ w v m)) => show v.cell? ⟨g, o + j, none⟩ = some (.int .i64 x) from HC.out v hv.out.w) wZ hSw; clear hSw; go_simp; first | (with_reducible rfl) | (rw [if_pos (by omega)]; with_reducible rfl) | skip
          try simp only [Act.put, List.setIfInBounds_toArray, List.set_cons_zero, List.set_cons_succ]
          refine wpAnyT_ready (rs := [5]) (by kernel_rfl) (by simp) ?_
          refine (AllReadyT.cons rfl (fun K hK => ?_) AllReadyT.nil)
          go_simp
          refine (HO.out _).mono ?_; rintro e wb ⟨rfl, hbb⟩; have HK : Hid (StJ w wb m) := (Hid.out hHeld).kept hbb; clear hbb
          go_wp2_with fail
          refine hK.out _ _ ?_ (fun hHeld => ?_)
          · exact HK
          clear hK K
          try simp only [Act.put, List.setIfInBounds_toArray, List.set_cons_zero, List.set_cons_succ]
          refine wpAnyT_ready (rs := [6]) (by kernel_rfl) (by simp) ?_
          refine (AllReadyT.last rfl (by decide) (fun K hK => ?_) AllReadyT.nil)
          refine wp_store_dst rfl 23 (.tmp 2) (.tmp 42) rfl w.heap.size (meC (m.one x)).toArray rfl rfl 23 (meC m).toArray HK.out.b infoM rfl (one_meC _) ?_
          refine hK.out _ _ ?_
          clear hK K
          try simp only [Act.put, List.setIfInBounds_toArray, List.set_cons_zero, List.set_cons_succ]
          refine wpAnyT_done (by kernel_rfl) ?_ _
          go_wp2_with fail
          go_roundg (k - j)
          case measure => omega
          case rel => exact ⟨j + 1, m.one x, by rw [show wrap64 ((j : Int) + 1) = ((j + 1 : Nat) : Int) from by unfold wrap64; have := HNM.out; omega], by omega, by omega, HNX.out, HK.out.store _⟩
        · have HD := hide (HT.out.1.done (by rw [HN.out]; omega))
          have hjk' : j = k := by omega
          subst hjk'
          clear HP HS HB HA A2
          go_wp2_with (first
            | (refine wpList_exec (by rfl) _ (exec_load_all 23 (.tmp 2) rfl w.heap.size rfl 23 (meC m) _ HT.out.2.b Try.underlying23 rfl infoM) ?_)
            | (refine wpList_store_row rfl 23 _ _ rfl (w.heap.size + 1) (meC m).toArray rfl rfl 23 (meC Me.none).toArray HT.out.2.r infoM rfl (one_meC _) ?_))
          obtain ⟨rfl, rfl⟩ : M = m ∧ E = 0 := ⟨HME.out.1.symm.trans HD.out.1, HME.out.2.symm.trans HD.out.2⟩
          exact bodyPost_ret (results_ct Try.results10 _ _ (w.heap.size + 1) (meC M) rfl (HT.out.2.r.row _) Try.underlying23 rfl infoM) rfl ⟨rfl, below_setRow HT.out.2.w (Nat.le_succ _) HT.out.2.r.lt _⟩

theorem rhear_any (m : Me) (p : Option Addr) (c n : Nat) (xs : List Int) (w : World) (hP : IPiece w p c xs) (hn : xs.length = n) :
    Calls Try.prog 10 #[meV m, .slice p n c] w fun e w' => e = .returned (.tuple #[meV (hearM m xs), .int .i64 (hearE m xs)]) ∧ Below w.heap.size w w' := by
  by_cases hm : m.may
  · exact rhear_ok m _ _ p c n xs w hm hP hn rfl rfl
  · have h := rhear_arg m (.slice p n c) w hm
    rw [hearM, hearE, if_neg (fun h => hm h.1), if_neg (fun h => hm h.1)]
    exact h

end Go.Proofs.Ythnbbflpnklbjaa
