/-
  Walks: Hear.
-/
import Derived.Test.YthnbbflpnklbjaaTC
import Derived.Test.YthnbbflpnklbjaaBN
namespace Go.Proofs.Ythnbbflpnklbjaa
open Go.RowKit

set_option maxHeartbeats 4000000 in
set_option maxRecDepth 100000 in
theorem hear_arg (m : Me) (v : Value) (w : World) (hm : ¬ m.may) :
    Calls Try.prog 9 #[meV m, v] w fun e w' => e = .returned (.tuple #[meV Me.none, .int .i64 2]) ∧ Below w.heap.size w w' := by
  have A1 := hide (me_boxes w m)
  have HM := hide (fun v : World => may_any m v)
  rw [decide_eq_false hm] at HM
  clear hm
  go_enter Try.func9, Try.ntmps9
  go_upto_region 1 with fail
  generalize (w.alloc (Obj.cells #[Value.int .i64 m.a, Value.int .i64 m.b, Value.int .i64 m.c] 23)).alloc (Obj.cells #[Value.int .i64 0, Value.int .i64 0, Value.int .i64 0] 23) = w1 at *
  go_wp2_with (refine wpList_load_row rfl 23 _ rfl w.heap.size rfl 23 _ (0, 0) _ A1.out.1 Try.underlying23 rfl infoM ?_)
  refine (HM.out w1).mono ?_
  rintro e w2 ⟨rfl, hb⟩
  have A2 : Hid (Arr w2 (w.heap.size + 1) 23 (meC Me.none) ∧ Below w.heap.size w w2) := ⟨A1.out.2.1.kept hb, A1.out.2.2.trans (hb.mono A1.out.2.2.size)⟩
  clear hb A1
  go_wp2_with (refine wpList_store_row rfl 23 _ _ rfl (w.heap.size + 1) (meC Me.none).toArray rfl rfl 23 (meC Me.none).toArray A2.out.1 infoM rfl (one_meC _) ?_)
  exact bodyPost_ret (results_ct Try.results9 _ _ (w.heap.size + 1) (meC Me.none) rfl (A2.out.1.row _) Try.underlying23 rfl infoM) rfl ⟨rfl, below_setRow A2.out.2 (Nat.le_succ _) A2.out.1.lt _⟩

/-- what lies in memory while samples are heard -/
structure StH (w wr : World) (m : Me) (gc kc : Nat) : Prop where
  b : Arr wr w.heap.size 23 (meC m)
  r : Arr wr (w.heap.size + 1) 23 (meC Me.none)
  l : Arr wr gc 3 [.int .i64 0]
  h : Arr wr kc 3 [.int .i64 60000]
  w : Below w.heap.size w wr
theorem StH.kept {w wr w' : World} {m : Me} {gc kc : Nat} (h : StH w wr m gc kc) (hb : Below wr.heap.size wr w') : StH w w' m gc kc :=
  ⟨h.b.kept hb, h.r.kept hb, h.l.kept hb, h.h.kept hb, h.w.trans (hb.mono h.w.size)⟩
theorem StH.store {w wr : World} {m : Me} {gc kc : Nat} (h : StH w wr m gc kc) (n : Me) : StH w (wr.setRow w.heap.size (meC n).toArray) n gc kc :=
  ⟨h.b.row _, h.r.rowOther _ _ (by omega), h.l.rowOther _ _ (arr_ne h.l h.b (by decide)), h.h.rowOther _ _ (arr_ne h.h h.b (by decide)), below_setRow h.w (Nat.le_refl _) h.b.lt _⟩

/-- how far samples are heard -/
def HrR (m0 : Me) (xs : List Int) (k : Nat) (m : Me) : Prop := m0.may ∧ (∀ s ∈ xs.take k, Samp s) ∧ m = m0.all (xs.take k)
theorem HrR.start (m0 : Me) (xs : List Int) (h : m0.may) : HrR m0 xs 0 m0 := ⟨h, by simp, by simp [Me.all]⟩
theorem HrR.may {m0 m : Me} {xs : List Int} {k : Nat} (h : HrR m0 xs k m) : m.may := by rw [h.2.2]; exact Me.may_all _ h.1 h.2.1
theorem HrR.next {m0 m : Me} {xs : List Int} {k : Nat} (h : HrR m0 xs k m) (hk : k < xs.length) (hs : Samp (xs.getD k 0)) : HrR m0 xs (k + 1) (m.one (xs.getD k 0)) := by
  refine ⟨h.1, fun s hm => ?_, ?_⟩
  · rw [List.take_add_one] at hm
    rcases List.mem_append.1 hm with h1 | h1
    · exact h.2.1 s h1
    · have : s = xs.getD k 0 := by simp [hk] at h1; simp [List.getD, hk, h1]
      rw [this]; exact hs
  · rw [Me.all_take _ _ _ hk, h.2.2]
theorem HrR.bad {m0 m : Me} {xs : List Int} {k : Nat} (_h : HrR m0 xs k m) (hk : k < xs.length) (hs : ¬ Samp (xs.getD k 0)) : hearM m0 xs = Me.none ∧ hearE m0 xs = 2 := by
  have hn : ¬ (m0.may ∧ ∀ s ∈ xs, Samp s) := fun h' => hs (h'.2 _ (by simp [List.getD, hk]))
  exact ⟨if_neg hn, if_neg hn⟩
theorem HrR.done {m0 m : Me} {xs : List Int} {k : Nat} (h : HrR m0 xs k m) (hk : xs.length ≤ k) : hearM m0 xs = m ∧ hearE m0 xs = 0 := by
  have e : xs.take k = xs := List.take_of_length_le hk
  have hn : m0.may ∧ ∀ s ∈ xs, Samp s := ⟨h.1, by have := h.2.1; rwa [e] at this⟩
  exact ⟨by rw [hearM, if_pos hn, h.2.2, e], if_pos hn⟩

set_option maxHeartbeats 8000000 in
set_option maxRecDepth 100000 in
theorem hear_ok (m0 M : Me) (E : Int) (p : Option Addr) (c n : Nat) (xs : List Int) (w : World) (hm : m0.may) (hP : IPiece w p c xs) (hn : xs.length = n) (hM : hearM m0 xs = M) (hE : hearE m0 xs = E) :
    Calls Try.prog 9 #[meV m0, .slice p n c] w fun e w' => e = .returned (.tuple #[meV M, .int .i64 E]) ∧ Below w.heap.size w w' := by
  have A1 := hide (me_boxes w m0)
  have HM := hide (fun v : World => may_any m0 v)
  rw [decide_eq_true hm] at HM
  have HW := hide (fun v : World => within_any 0 60000 v)
  have HP := hide hP
  have HS := hide (HrR.start m0 xs hm)
  have HME := hide (And.intro hM hE)
  have HN := hide hn
  have HNM : Hid ((n : Int) ≤ 9223372036854775807) := by
    have h1 := hP.2.2.1
    have h2 := hP.2.2.2
    unfold maxLen at h2
    show _ ≤ _
    omega
  clear hm hP hM hE hn
  go_enter Try.func9, Try.ntmps9
  go_upto_region 1 with fail
  generalize (w.alloc (Obj.cells #[Value.int .i64 m0.a, Value.int .i64 m0.b, Value.int .i64 m0.c] 23)).alloc (Obj.cells #[Value.int .i64 0, Value.int .i64 0, Value.int .i64 0] 23) = w1 at *
  go_wp2_with (refine wpList_load_row rfl 23 _ rfl w.heap.size rfl 23 _ (0, 0) _ A1.out.1 Try.underlying23 rfl infoM ?_)
  refine (HM.out w1).mono ?_
  rintro e w2 ⟨rfl, hb⟩
  have A2 : Hid (Arr w2 w.heap.size 23 (meC m0) ∧ Arr w2 (w.heap.size + 1) 23 (meC Me.none) ∧ Below w.heap.size w w2) := ⟨A1.out.1.kept hb, A1.out.2.1.kept hb, A1.out.2.2.trans (hb.mono A1.out.2.2.size)⟩
  clear hb A1 HM
  go_wp2_with fail
  refine (HW.out w2).mono ?_
  rintro e w3 ⟨vc, rfl, ⟨gc, kc, rfl, hl, hh⟩, hb⟩
  have A3 : Hid (StH w w3 m0 gc kc) := ⟨A2.out.1.kept hb, A2.out.2.1.kept hb, hl, hh, A2.out.2.2.trans (hb.mono A2.out.2.2.size)⟩
  clear hb A2 HW hl hh
  go_wp2_with fail
  have HB := hide (fun (m : Me) (s : Int) (v : World) (hm : m.may) (hs : Samp s) => behind_any m s v hm hs)
  go_loopg [16] (n + 1) (fun f s16 wr => ∃ (k : Nat) (m : Me), s16 = .int .i64 (k : Int) ∧ k ≤ n ∧ n - k < f ∧ Hid (HrR m0 xs k m ∧ StH w wr m gc kc))
  case atStart => exact ⟨0, m0, rfl, by omega, by omega, HS.out, A3.out⟩
  case round =>
    obtain ⟨k, m, rfl, hk, hf, HT⟩ := hrel
    clear A3 HS
    by_cases hkn : k < n
    · obtain ⟨g, o, rfl, hc⟩ := (HP.out.kept (HT.out.2.w.mono (Nat.le_refl _))).cell (by rw [HN.out]; omega)
      have hck := hc k (by rw [HN.out]; exact hkn)
      have HX := hide (show xs.getD k 0 = xs.getD k 0 from rfl)
      have HNX := hide (fun (hs : Samp (xs.getD k 0)) => HT.out.1.next (by rw [HN.out]; exact hkn) hs)
      have HBD := hide (fun (hs : ¬ Samp (xs.getD k 0)) => HT.out.1.bad (by rw [HN.out]; exact hkn) hs)
      generalize xs.getD k 0 = x at *
      have HC := hide (cl_any x 0 60000 gc kc wr (HT.out.2.l.cell 0) (HT.out.2.h.cell 0))
      clear hc HP HX
      by_cases hs : Samp x
      · have he : clF 0 60000 x = x := clF_in hs.1 hs.2
        rw [he] at HC
        have hne : (x != x) = false := by simp
        have HH := hide (And.intro (HNX.out hs) (hide (fun v => HB.out m x v HT.out.1.may hs)))
        clear HBD HNX hs he HB
        go_wp2_with fail
        refine HC.out.mono ?_
        rintro e w4 ⟨rfl, rfl⟩
        go_wp2_with (refine wpList_exec (by rfl) _ (exec_load_all 23 (.tmp 2) rfl w.heap.size rfl 23 (meC m) _ HT.out.2.b Try.underlying23 rfl infoM) ?_)
        refine (HH.out.2.out _).mono ?_
        rintro e w5 ⟨rfl, hb⟩
        have HT5 := hide (HT.out.2.kept hb)
        clear hb
        go_wp2_with (refine wpList_store_row rfl 23 _ _ rfl w.heap.size (meC (m.one x)).toArray rfl rfl 23 (meC m).toArray HT5.out.b infoM rfl (one_meC _) ?_)
        go_roundg (n - k)
        case measure => omega
        case rel => exact ⟨k + 1, m.one x, by rw [show wrap64 ((k : Int) + 1) = ((k + 1 : Nat) : Int) from by unfold wrap64; have := HNM.out; omega], by omega, by omega, HH.out.1, HT5.out.store _⟩
      · have HE := hide (HBD.out hs)
        have hne : (x != clF 0 60000 x) = true := by
          rw [bne_iff_ne]
          intro e
          exact hs ((clF_eq (by omega)).1 e.symm)
        generalize clF 0 60000 x = y at *
        clear HBD HNX hs HB
        go_wp2_with fail
        refine HC.out.mono ?_
        rintro e w4 ⟨rfl, rfl⟩
        go_wp2_with (refine wpList_store_row rfl 23 _ _ rfl (w.heap.size + 1) (meC Me.none).toArray rfl rfl 23 (meC Me.none).toArray HT.out.2.r infoM rfl (one_meC _) ?_)
        obtain ⟨rfl, rfl⟩ : M = Me.none ∧ E = 2 := ⟨HME.out.1.symm.trans HE.out.1, HME.out.2.symm.trans HE.out.2⟩
        exact bodyPost_ret (results_ct Try.results9 _ _ (w.heap.size + 1) (meC Me.none) rfl (HT.out.2.r.row _) Try.underlying23 rfl infoM) rfl ⟨rfl, below_setRow HT.out.2.w (Nat.le_succ _) HT.out.2.r.lt _⟩
    · have HD := hide (HT.out.1.done (by rw [HN.out]; omega))
      have hkn' : k = n := by omega
      subst hkn'
      clear HP HB
      go_wp2_with (first
        | (refine wpList_exec (by rfl) _ (exec_load_all 23 (.tmp 2) rfl w.heap.size rfl 23 (meC m) _ HT.out.2.b Try.underlying23 rfl infoM) ?_)
        | (refine wpList_store_row rfl 23 _ _ rfl (w.heap.size + 1) (meC m).toArray rfl rfl 23 (meC Me.none).toArray HT.out.2.r infoM rfl (one_meC _) ?_))
      obtain ⟨rfl, rfl⟩ : M = m ∧ E = 0 := ⟨HME.out.1.symm.trans HD.out.1, HME.out.2.symm.trans HD.out.2⟩
      exact bodyPost_ret (results_ct Try.results9 _ _ (w.heap.size + 1) (meC M) rfl (HT.out.2.r.row _) Try.underlying23 rfl infoM) rfl ⟨rfl, below_setRow HT.out.2.w (Nat.le_succ _) HT.out.2.r.lt _⟩

theorem hear_any (m : Me) (p : Option Addr) (c n : Nat) (xs : List Int) (w : World) (hP : IPiece w p c xs) (hn : xs.length = n) :
    Calls Try.prog 9 #[meV m, .slice p n c] w fun e w' => e = .returned (.tuple #[meV (hearM m xs), .int .i64 (hearE m xs)]) ∧ Below w.heap.size w w' := by
  by_cases hm : m.may
  · exact hear_ok m _ _ p c n xs w hm hP hn rfl rfl
  · have h := hear_arg m (.slice p n c) w hm
    rw [hearM, hearE, if_neg (fun h => hm h.1), if_neg (fun h => hm h.1)]
    exact h

end Go.Proofs.Ythnbbflpnklbjaa
