/-
  Walks of the program: a text's pieces.
-/
import Derived.Test.YtecpnnnkkofejaaGP
namespace Go.Proofs.Ytecpnnnkkofejaa
open Go.RowKit Go.Maps

/-- no piece yet -/
def Pk.zero : Pk := ⟨Pc.none, none, 0⟩
theorem pkC_set : ∀ (l : List Pk) (j : Nat) (k : Pk), j < l.length → (pkC l).take (4 * j) ++ k.C ++ (pkC l).drop (4 * j + 4) = pkC (l.set j k)
  | [], j, k, h => by simp at h
  | y :: l, 0, k, h => by
    simp only [pkC, List.flatMap_cons, List.set_cons_zero, Nat.mul_zero, List.take_zero, List.nil_append, Nat.zero_add]
    rw [show (4 : Nat) = y.C.length by simp [Pk.C], List.drop_left]
  | y :: l, j + 1, k, h => by
    have ih := pkC_set l j k (by simpa using h)
    simp only [pkC, List.flatMap_cons, List.set_cons_succ] at ih ⊢
    have hy : y.C.length = 4 := by simp [Pk.C]
    rw [show 4 * (j + 1) = y.C.length + 4 * j by omega, List.take_length_add_append, show y.C.length + 4 * j + 4 = y.C.length + (4 * j + 4) by omega, List.drop_length_add_append, List.append_assoc, List.append_assoc, ← ih, List.append_assoc]
theorem made_pk (N : Nat) : (madeCells #[Value.int .u64 0, .int .i64 0, .bool false, .slice none 0 0] (N * 4)).toList = pkC (List.replicate N Pk.zero) := by
  apply List.ext_getElem?
  intro i
  by_cases hi : i < N * 4
  · have h1 := pkC_get (List.replicate N Pk.zero) (i / 4) (i % 4) (Nat.mod_lt _ (by omega))
    rw [show 4 * (i / 4) + i % 4 = i by omega] at h1
    rw [h1, List.getElem?_replicate, if_pos (by omega)]
    simp only [madeCells, Array.toList_map, Array.toList_range, List.getElem?_map, Option.bind_some]
    rw [List.getElem?_range hi]
    have h4 : i % 4 < 4 := Nat.mod_lt _ (by omega)
    simp only [Option.map_some]
    change some (#[Value.int .u64 0, .int .i64 0, .bool false, .slice none 0 0][i % 4]!) = Pk.zero.C[i % 4]?
    generalize i % 4 = r at *
    match r, h4 with
    | 0, _ => rfl
    | 1, _ => rfl
    | 2, _ => rfl
    | 3, _ => rfl
  · rw [List.getElem?_eq_none, List.getElem?_eq_none]
    · rw [pkC_length, List.length_replicate]; omega
    · simp [size_madeCells]; omega

/-- 'make([]api.Piece, n)' -/
theorem wpList_make_pk {w : World} {ops : Array Oper} {rest : List Oper} {o : Oper} {a : Act} {Q : Exit → Act → World → Prop} (hgd : o.guard = none) (l c : Operand)
    (ho : o.op = .makeSlice 36 l c) (N : Nat) (hl : a.eval l = .int .i64 (N : Int)) (hc : a.eval c = .int .i64 (N : Int)) (hN : N ≤ 1000000)
    (h : ∀ w', Arr w' w.heap.size 25 (pkC (List.replicate N Pk.zero)) → Below w.heap.size w w' → wpList Try.prog ops Q rest (a.put o.dst (.slice (some ⟨w.heap.size, 0, none⟩) N N)) w') :
    wpList Try.prog ops Q (o :: rest) a w := by
  obtain ⟨i0, hi, hz0, hz1, hz2⟩ := info_parts infoPk
  refine wpList_make_full _ hgd l c 36 ho w.heap.size 25 i0 (.agg #[.int .u64 0, .int .i64 0, .bool false, .slice none 0 0]) 4 Try.underlying36 hi hz0 hz1 .i64 .i64 (N : Int) (N : Int) N hl hc rfl rfl (by rw [hz2]; omega) (by unfold maxLen; omega) (Nat.le_refl _) ?_
  intro w' hown hg
  refine h w' ?_ (grown_below hg (Nat.le_refl _) (fun k hk => by cases hk))
  rcases hown.2 with ⟨h0, _⟩ | ⟨g, cap, cur, h0, _, hgt, _, _, hsz, ht⟩
  · cases h0
  · cases h0
    unfold Arr
    rw [hgt]
    have : cur = (pkC (List.replicate N Pk.zero)).toArray := by
      apply Array.ext'
      show cur.toList = pkC _
      rw [← made_pk, ← show cur.toList.take (N * 4) = cur.toList from List.take_of_length_le (by simp [hsz])]
      exact ht
    rw [this]

/-- a piece stored into a row of them -/
theorem wpList_store_pk {w : World} {ops : Array Oper} {rest : List Oper} {o : Oper} {a : Act} {Q : Exit → Act → World → Prop} (hgd : o.guard = none) (hdd : o.dst = none) (x y : Operand)
    (ho : o.op = .store 25 x y) (g j : Nat) (off : Nat) (hoff : off = 4 * j) (k : Pk) (hx : a.eval x = .pointer (some ⟨g, off, none⟩)) (hy : a.eval y = .agg k.C.toArray) (l : List Pk) (hA : Arr w g 25 (pkC l)) (hj : j < l.length)
    (h : ∀ w', Arr w' g 25 (pkC (l.set j k)) → w.grownBy w' (some g) → wpList Try.prog ops Q rest a w') : wpList Try.prog ops Q (o :: rest) a w := by
  subst hoff
  refine wpList_plain hgd fun K hK => ?_
  refine wp_store_at hdd 25 x y ho g (4 * j) k.C.toArray hx hy 25 (pkC l) hA (by have := infoPc; simpa [Pk.C] using this) ?_ (one_pcC _ _ _) ?_
  · rw [pkC_length]; simp [Pk.C]; omega
  · have h2 := hK a (w.setRow g ((pkC l).take (4 * j) ++ k.C.toArray.toList ++ (pkC l).drop (4 * j + k.C.toArray.size)).toArray)
    refine h2 (h _ ?_ (grown_setRow _ _ _))
    have e : (pkC l).take (4 * j) ++ k.C.toArray.toList ++ (pkC l).drop (4 * j + k.C.toArray.size) = pkC (l.set j k) := pkC_set l j k hj
    rw [e]
    exact hA.row _

set_option maxHeartbeats 1000000 in
set_option maxRecDepth 100000 in
theorem pcut_arg (i n : Nat) (s : Int) (p : Option Addr) (c : Nat) (w : World) (h : s < 1 ∨ 1100 < s) :
    Calls Try.prog 16 #[.int .u64 (i : Int), .slice p n c, .int .i64 s] w fun e w' => e = .returned (.tuple #[.slice none 0 0, .int .i64 2]) ∧ w' = w := by
  by_cases h1 : s < 1
  · clear h
    go_enter Try.func16, Try.ntmps16
    go_wp2
    go_ret2
    exact ⟨rfl, rfl⟩
  · have h2 : 1100 < s := by omega
    clear h
    go_enter Try.func16, Try.ntmps16
    go_wp2
    go_ret2
    exact ⟨rfl, rfl⟩

set_option maxHeartbeats 1000000 in
set_option maxRecDepth 100000 in
theorem pcut_long (i n s : Nat) (p : Option Addr) (c : Nat) (w : World) (hs : 1 ≤ s) (hs2 : s ≤ 1100) (h : 65536 < n ∨ 256 < (n + s - 1) / s) :
    Calls Try.prog 16 #[.int .u64 (i : Int), .slice p n c, .int .i64 (s : Int)] w fun e w' => e = .returned (.tuple #[.slice none 0 0, .int .i64 3]) ∧ w' = w := by
  by_cases h1 : 65536 < n
  · have h1' : (65536 : Int) < (n : Int) := by omega
    clear h h1
    go_enter Try.func16, Try.ntmps16
    go_wp2
    go_ret2
    exact ⟨rfl, rfl⟩
  · have hq1 : Int.tdiv ((n : Int) + (s : Int) - 1) (s : Int) = (((n + s - 1) / s : Nat) : Int) := by
      rw [show (n : Int) + (s : Int) - 1 = ((n + s - 1 : Nat) : Int) by omega, Int.tdiv_eq_ediv_of_nonneg (by omega)]
      rfl
    have hq2 : (n + s - 1) / s ≤ n + s - 1 := Nat.div_le_self _ _
    have h1' : ¬ (65536 : Int) < (n : Int) := by omega
    generalize (n + s - 1) / s = q at *
    have h2 : (256 : Int) < (q : Int) := by omega
    have h3 : (q : Int) ≤ 70000 := by omega
    have h4 : (if (q : Int) > 1 then (q : Int) else 1) = (q : Int) := if_pos (by omega)
    clear h h1 hq2
    go_enter Try.func16, Try.ntmps16
    go_wp2_with (refine wpList_exec (by rfl) _ (exec_max (.const (.int .i64 1)) (.tmp 28) _ rfl .i64 1 (q : Int) (q : Int) rfl rfl h4) ?_)
    go_ret2
    exact ⟨rfl, rfl⟩

/-- a piece that was cut -/
def CutP (w : World) (B i s : Nat) (t : List Nat) (m : Nat) (k : Pk) : Prop := k.x = cutX i t s m ∧ Piece w k.p k.c k.x.b ∧ OB w B k.p k.x.b
theorem CutP.kept {w w' : World} {B i s m : Nat} {t : List Nat} {k : Pk} (h : CutP w B i s t m k) (hb : Below w.heap.size w w') : CutP w' B i s t m k := ⟨h.1, h.2.1.kept hb, h.2.2.kept hb⟩
theorem CutP.keptR {w w' : World} {B i s m : Nat} {t : List Nat} {k : Pk} {g : Nat} {ty : TypeId} {us : Array Value} {f : Nat × Nat} (h : CutP w B i s t m k) (hg : w.grownBy w' (some g)) (hw : w.heap[g]? = some (.cells us ty f)) (ht : ty ≠ 5) : CutP w' B i s t m k := by
  have h2 := h.2.2.keptR hg hw ht
  exact ⟨h.1, ⟨h2.1.1, h.2.1.2⟩, h2⟩
theorem last_is (n s j N : Nat) (hs : 0 < s) (hj : j < N) (hN : cutN n s = N) : ((j : Int) == (N : Int) - 1) = decide (n ≤ (j + 1) * s) := by
  have h := cut_more n s (j + 1) hs
  rw [hN] at h
  rw [Bool.eq_iff_iff]
  simp
  omega

set_option maxHeartbeats 8000000 in
set_option maxRecDepth 100000 in
theorem pcut_ok (i n s N : Nat) (t : List Nat) (p : Option Addr) (c : Nat) (w : World) (hP : Piece w p c t) (hn : t.length = n) (hs : 1 ≤ s) (hs2 : s ≤ 1100) (hn2 : n ≤ 65536) (hq : (n + s - 1) / s ≤ 256) (hN : cutN n s = N) :
    Calls Try.prog 16 #[.int .u64 (i : Int), .slice p n c, .int .i64 (s : Int)] w fun e w' => ∃ (g : Nat) (ks : List Pk), e = .returned (.tuple #[.slice (some ⟨g, 0, none⟩) N N, .int .i64 0]) ∧ w.heap.size ≤ g ∧ Arr w' g 25 (pkC ks) ∧ ks.length = N ∧ (∀ m, m < N → ∃ k, ks[m]? = some k ∧ CutP w' w.heap.size i s t m k) ∧ Below w.heap.size w w' := by
  have hN1 : N ≤ 256 := by
    rw [← hN, cutN]
    split <;> omega
  have hN0 : 0 < N := by rw [← hN]; exact cutN_pos n s (by omega)
  have HNN := hide hN
  have HM := hide (fun k => cut_more n s k (by omega))
  have HP := hide hP
  have HL := hide hn
  have hq1 : Int.tdiv ((n : Int) + (s : Int) - 1) (s : Int) = (((n + s - 1) / s : Nat) : Int) := by
    rw [show (n : Int) + (s : Int) - 1 = ((n + s - 1 : Nat) : Int) by omega, Int.tdiv_eq_ediv_of_nonneg (by omega)]
    rfl
  have hmx : (if (((n + s - 1) / s : Nat) : Int) > 1 then (((n + s - 1) / s : Nat) : Int) else 1) = (N : Int) := by
    rw [← hN, cutN]
    by_cases h0 : n = 0
    · subst h0
      have : (0 + s - 1) / s = 0 := Nat.div_eq_of_lt (by omega)
      rw [this, if_pos rfl]
      rfl
    · rw [if_neg h0]
      have : 0 < (n + s - 1) / s := Nat.div_pos (by omega) hs
      split <;> omega
  generalize hqq : (n + s - 1) / s = q at *
  clear hP hn hN hqq
  go_enter Try.func16, Try.ntmps16
  go_upto_region 8 with (refine wpList_exec (by rfl) _ (exec_max (.const (.int .i64 1)) (.tmp 28) _ rfl .i64 1 (q : Int) (N : Int) rfl rfl hmx) ?_)
  go_wp2_with (refine wpList_make_pk rfl (.tmp 32) (.tmp 32) rfl N rfl rfl (by omega) ?_)
  intro w1 hA hb
  have A1 := hide hA
  have B1 := hide hb
  clear hA hb hq1 hmx
  go_wp2_with fail
  have HG1 : Hid (w.heap.size < w1.heap.size) := A1.out.lt
  go_loopg [36] (N + 1) (fun f s36 wr => ∃ (j : Nat) (ks : List Pk), s36 = .int .i64 (j : Int) ∧ j ≤ N ∧ N - j < f ∧ Hid (ks.length = N) ∧ Hid (Arr wr w.heap.size 25 (pkC ks)) ∧ Hid (∀ m, m < j → ∃ k, ks[m]? = some k ∧ CutP wr w.heap.size i s t m k) ∧ Hid (Below w.heap.size w wr))
  case atStart => exact ⟨0, List.replicate N Pk.zero, rfl, by omega, by omega, by show _ = _; simp, A1, (fun m hm => by omega), B1⟩
  case round =>
    obtain ⟨j, ks, rfl, hj, hf, HKL, HA, HC, HB⟩ := hrel
    by_cases hjN : j < N
    · have hmore := (HM.out j).2 (by rw [HNN.out]; exact hjN)
      have HLS := hide (last_is n s j N (by omega) hjN HNN.out)
      obtain ⟨a, ha⟩ : ∃ a, j * s = a := ⟨_, rfl⟩
      have hja : (j : Int) * (s : Int) = (a : Int) := by rw [← ha, Int.natCast_mul]
      have han : a ≤ n := by
        rcases hmore with h | h
        · subst h; simp at ha; omega
        · omega
      have HAA := hide ha
      obtain ⟨e, he⟩ : ∃ e, min (a + s) n = e := ⟨_, rfl⟩
      have HEE := hide he
      have hae : a ≤ e := by omega
      have hen : e ≤ n := by omega
      have hmn : (if (n : Int) < (a : Int) + (s : Int) then (n : Int) else (a : Int) + (s : Int)) = (e : Int) := by split <;> omega
      obtain ⟨r, hr⟩ : ∃ r, ((j : Int) == (N : Int) - 1) = r := ⟨_, rfl⟩
      have HRR := hide hr
      have hnc : n ≤ c := by rw [← HL.out]; exact HP.out.2.2.2.1
      have sl := run_mid wr p n c a e hae (by omega)
      have PC : Hid (Piece wr (cutP p a c) (c - a) ((t.drop a).take s)) := ((HP.out.kept HB.out).from a (by rw [HL.out]; exact han)).take s
      have LC : Hid (((t.drop a).take s).length = e - a) := by show _ = _; rw [List.length_take, List.length_drop, HL.out]; omega
      have CL := hide (bclone_any _ (e - a) (c - a) (cutP p a c) wr PC.out LC.out (by omega))
      clear hmore ha he PC hnc
      generalize cutP p a c = sp at *
      generalize c - a = sc at *
      generalize hse : e - a = se at *
      go_wp2_with (refine wpList_exec (by rfl) _ (exec_min (.tmp 46) (.tmp 48) _ rfl .i64 ((a : Int) + (s : Int)) (n : Int) (e : Int) rfl rfl hmn) ?_)
      refine CL.out.mono ?_
      rintro ee w2 ⟨pb, d, rfl, hpc, hob, hb⟩
      have KC : Hid ((Pk.mk (cutX i t s j) pb d).C = [.int .u64 (i : Int), .int .i64 (j : Int), .bool r, .slice pb se d]) := by
        show _ = _
        have h1 : r = decide (t.length ≤ (j + 1) * s) := by rw [← HRR.out, HLS.out, HL.out]
        have h2 : ((t.drop (j * s)).take s).length = se := by rw [HAA.out]; exact LC.out
        simp only [Pk.C, pcC, cutX]
        rw [h2, h1]
      have A2 := hide (HA.out.kept hb)
      have B2 := hide (HB.out.trans (hb.mono HB.out.size))
      have C2 : Hid (∀ m, m < j → ∃ k, ks[m]? = some k ∧ CutP w2 w.heap.size i s t m k) := fun m hm => by
        obtain ⟨k, h1, h2⟩ := HC.out m hm
        exact ⟨k, h1, h2.kept hb⟩
      have N2 : Hid (CutP w2 w.heap.size i s t j ⟨cutX i t s j, pb, d⟩) := by
        refine ⟨rfl, ?_, ?_⟩
        · show Piece w2 pb d ((t.drop (j * s)).take s)
          rw [HAA.out]; exact hpc
        · show OB w2 w.heap.size pb ((t.drop (j * s)).take s)
          rw [HAA.out]; exact hob.from HB.out.size
      clear hpc hob hb CL HC HA HB sl
      go_wp2_with (refine wpList_store_pk rfl rfl (.tmp 64) (.tmp 63) rfl w.heap.size j _ ?h1 ⟨cutX i t s j, pb, d⟩ rfl (by rw [KC.out]; rfl) ks A2.out (by rw [HKL.out]; exact hjN) ?_)
      case h1 => omega
      intro w3 hA3 hg3
      have A3 := hide hA3
      have B3 := hide (B2.out.grown hg3 B2.out.size (fun k hk => by cases hk; exact Nat.le_refl _))
      have C3 : Hid (∀ m, m < j + 1 → ∃ k, (ks.set j ⟨cutX i t s j, pb, d⟩)[m]? = some k ∧ CutP w3 w.heap.size i s t m k) := fun m hm => by
        by_cases hmj : m = j
        · subst hmj
          exact ⟨_, by rw [List.getElem?_set_self (by rw [HKL.out]; exact hjN)], N2.out.keptR hg3 A2.out (by decide)⟩
        · obtain ⟨k, h1, h2⟩ := C2.out m (by omega)
          exact ⟨k, by rw [List.getElem?_set_ne (by omega)]; exact h1, h2.keptR hg3 A2.out (by decide)⟩
      clear hA3 hg3
      go_wp2_with fail
      go_roundg (N - j)
      case measure => omega
      case rel => exact ⟨j + 1, _, by simp, by omega, by omega, by show _ = _; rw [List.length_set, HKL.out], A3, C3, B3⟩
    · have e : j = N := by omega
      subst e
      go_wp2
      go_ret2
      exact ⟨w.heap.size, ks, rfl, Nat.le_refl _, HA.out, HKL.out, HC.out, HB.out⟩

end Go.Proofs.Ytecpnnnkkofejaa
