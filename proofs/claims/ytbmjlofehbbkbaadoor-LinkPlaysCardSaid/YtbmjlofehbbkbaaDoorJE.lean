/-
  Several texts, joined: SO, SQ, SR, HM, HA.
-/
import Derived.Test.YtbmjlofehbbkbaaDoorJA
import Derived.Test.YtbmjlofehbbkbaaDoorJD
import Derived.Test.YtbmjlofehbbkbaaDoorJC
import Derived.DeepKeys

/- A walk: the reference's Sum: the document's digest of any bytes. -/
namespace Go.Proofs.YtbmjlofehbbkbaaDoor
open Go.RowKit

theorem info35 : (Tryd.prog.info? 23).map (·.size) = some 32 := by kernel_rfl
abbrev Z32 : Obj := Obj.cells (u8s (List.replicate 32 0)).toArray 23

theorem Arr.keptRow {w w' : World} {g B : Nat} {t : TypeId} {vs : List Value} {v : Value} {n : Nat} {xs : List Value} {e : TypeId} (h : Arr w g t vs) (ho : w.ownsRow B e 1 v n xs) (hB : g < B) (hg : w.grownBy w' v.ownBlock) : Arr w' g t vs :=
  (hg.block g h.lt (fun e => by have := (ho.lt g e.symm).1; omega)).trans h

theorem Arr.grown' {w w' : World} {g X : Nat} {t : TypeId} {vs : List Value} (h : Arr w g t vs) (hg : w.grownBy w' (some X)) (hne : g ≠ X) : Arr w' g t vs := (hg.block g h.lt (fun e => hne (by cases e; rfl))).trans h
theorem s_grown_setO (w : World) (X j : Nat) (v : Value) : w.grownBy (w.setCell ⟨X, j, none⟩ v) (some X) :=
  ⟨rfl, rfl, rfl, by simp, fun k _ hk => heap_setCell_other w ⟨X, j, none⟩ k _ (fun e => hk (by simp [e]))⟩
theorem grown_row (w : World) (X : Nat) (us : Array Value) : w.grownBy (w.setRow X us) (some X) :=
  ⟨rfl, rfl, rfl, by simp, fun k _ hk => setRow_other w X k us (fun e => hk (by rw [e]))⟩

theorem all_u8s (l : List Nat) : (u8s l).toArray.all (·.oneCell') = true := all_oneCell_toArray (one_mem l)

theorem run_blk (w : World) (g n cap q : Nat) (h : q + 64 ≤ cap) :
    (Instr.slice 42 (.slice (some ⟨g, 0, none⟩) n cap) (some (.int .i64 (q : Int))) (some (.int .i64 ((q : Int) + 64))) none).run Tryd.prog w = .ok (.slice (some ⟨g, q, none⟩) 64 (cap - q)) w := by
  have ht' : Tryd.prog.underlying 42 = some (.slice (Tryd.prog.elem 42)) := by simp [Program.elem, Tryd.underlying42]
  have he : Tryd.prog.elem 42 = 5 := by simp [Program.elem, Tryd.underlying42]
  rw [run_slice_lh w 42 _ _ _ ht' .i64 .i64 _ _ (by omega) (by omega) (by omega), he, size5]
  have e : ((q : Int) + 64).toNat = q + 64 := by omega
  simp [Result.andThen, sliced, e, show cap ≠ q by omega, Addr.add_mid]

/-- what lies in memory while the reference makes a digest: the row of all bytes, the digest's place -/
def RS (w wr : World) (v : Value) (l : List Nat) : Prop :=
  wr.ownsRow (w.heap.size + 1) 5 1 v l.length (u8s l) ∧ Arr wr w.heap.size 23 (u8s (List.replicate 32 0)) ∧ w.heap.size + 1 ≤ wr.heap.size ∧ Below w.heap.size w wr

theorem RS.append {w wr w' : World} {v v' : Value} {l l' : List Nat} (r : RS w wr v l) (ho : w'.ownsRow (w.heap.size + 1) 5 1 v' l'.length (u8s l')) (hg : wr.grownBy w' v.ownBlock) : RS w w' v' l' :=
  ⟨ho, r.2.1.keptRow r.1 (by omega) hg, Nat.le_trans r.2.2.1 hg.size, r.2.2.2.grown hg (by have := r.2.2.1; omega) (fun k hk => by have := (r.1.lt k hk).1; omega)⟩

theorem RS.kept {w wr w' : World} {v : Value} {l : List Nat} (r : RS w wr v l) (hb : Below wr.heap.size wr w') : RS w w' v l :=
  ⟨own_below r.1 hb, r.2.1.kept hb, Nat.le_trans r.2.2.1 hb.size, r.2.2.2.trans (hb.mono r.2.2.2.size)⟩

theorem RS.other {w wr wx : World} {v : Value} {l : List Nat} {X : Nat} (r : RS w wr v l) (hg : wr.grownBy wx (some X)) (hv : v.ownBlock ≠ some X) (hX : w.heap.size < X) : RS w wx v l :=
  ⟨r.1.kept hg (Or.inr hv), r.2.1.grown' hg (by omega), Nat.le_trans r.2.2.1 hg.size, r.2.2.2.grown hg (by have := r.2.2.1; omega) (by intro k hk; cases hk; omega)⟩

theorem RS.drew {w wr : World} {v : Value} {l : List Nat} (r : RS w wr v l) : RS w wr.drew v l := ⟨r.1, r.2.1, r.2.2.1, r.2.2.2.drew⟩

theorem s_bi_one (w : World) (x : Nat) : BI (w.alloc (Obj.cells #[.int .u8 ((x : Nat) : Int)] 5)) (some ⟨w.heap.size, 0, none⟩) [x] := by
  refine Or.inr ⟨w.heap.size, 0, rfl, ?_⟩
  intro i hi
  have : i = 0 := by simp at hi; omega
  subst this
  simp

theorem u8s_zeros : (u8s (List.replicate 32 0)).toArray = #[Value.int .u8 0, Value.int .u8 0, Value.int .u8 0, Value.int .u8 0, Value.int .u8 0, Value.int .u8 0, Value.int .u8 0, Value.int .u8 0, Value.int .u8 0, Value.int .u8 0, Value.int .u8 0, Value.int .u8 0, Value.int .u8 0, Value.int .u8 0, Value.int .u8 0, Value.int .u8 0, Value.int .u8 0, Value.int .u8 0, Value.int .u8 0, Value.int .u8 0, Value.int .u8 0, Value.int .u8 0, Value.int .u8 0, Value.int .u8 0, Value.int .u8 0, Value.int .u8 0, Value.int .u8 0, Value.int .u8 0, Value.int .u8 0, Value.int .u8 0, Value.int .u8 0, Value.int .u8 0] := rfl


end Go.Proofs.YtbmjlofehbbkbaaDoor

/- A walk: the program's ending: what stands behind so many bytes. -/
namespace Go.Proofs.YtbmjlofehbbkbaaDoor
open Go.RowKit

/-- what stands behind so many bytes -/
def endF (n : Nat) : List Nat := [128] ++ List.replicate (padZ n) 0 ++ be8 (n * 8) 8

theorem padF_end (bs : List Nat) : padF bs = bs ++ endF bs.length := by simp [padF, endF]

/-- .. so many of its last bytes laid down -/
def endTo (z : Nat) (l : List Nat) (k : Nat) : List Nat := [128] ++ List.replicate z 0 ++ (List.replicate (8 - k) 0 ++ l.drop (8 - k))

theorem tail_set {l : List Nat} (h : l.length = 8) (k : Nat) (hk : k < 8) : (List.replicate (8 - k) 0 ++ l.drop (8 - k)).set (7 - k) (l.getD (7 - k) 0) = List.replicate (8 - (k + 1)) 0 ++ l.drop (8 - (k + 1)) := by
  obtain ⟨a, b, c, d, e, f, g, i, rfl⟩ := eight h
  match k, hk with
  | 0, _ => rfl
  | 1, _ => rfl
  | 2, _ => rfl
  | 3, _ => rfl
  | 4, _ => rfl
  | 5, _ => rfl
  | 6, _ => rfl
  | 7, _ => rfl

theorem endTo_length (z : Nat) {l : List Nat} (h : l.length = 8) (k : Nat) (_hk : k ≤ 8) : (endTo z l k).length = 9 + z := by
  simp [endTo, h]; omega

theorem endTo_set (z : Nat) {l : List Nat} (h : l.length = 8) (k : Nat) (hk : k < 8) : (endTo z l k).set (8 + z - k) (l.getD (7 - k) 0) = endTo z l (k + 1) := by
  unfold endTo
  rw [List.set_append, if_neg (by simp; omega)]
  congr 1
  have e : 8 + z - k - ([128] ++ List.replicate z 0).length = 7 - k := by simp; omega
  rw [e]
  exact tail_set h k hk

theorem be8_at (n i : Nat) (hi : i < 8) : (be8 n 8).getD i 0 = n / 2 ^ (8 * (7 - i)) % 256 := by
  match i, hi with
  | 0, _ => rfl
  | 1, _ => rfl
  | 2, _ => rfl
  | 3, _ => rfl
  | 4, _ => rfl
  | 5, _ => rfl
  | 6, _ => rfl
  | 7, _ => rfl

set_option maxHeartbeats 2000000 in
set_option maxRecDepth 100000 in
theorem ending_any (n : Nat) (w : World) (hn : n ≤ 1000000) :
    Calls Tryd.prog 68 #[.int .i64 n] w fun e w' => ∃ v, e = .returned v ∧ w'.ownsRow w.heap.size 5 1 v (endF n).length (u8s (endF n)) ∧ Below w.heap.size w w' := by
  obtain ⟨i0, hi, hz0, hz1, hz2⟩ := info_parts infoU8
  have hzn : padZ n = (64 - (n + 9) % 64) % 64 := by unfold padZ; omega
  have hz64 : padZ n < 64 := Nat.mod_lt _ (by omega)
  have ezn : (64 - ((n : Int) + 9) % 64) % 64 = ((padZ n : Nat) : Int) := by omega
  have HE : Hid (endF n = endTo (padZ n) (be8 (n * 8) 8) 8) := by show _ = _; simp [endF, endTo]
  have LB := hide (be8_length (n * 8) 8)
  have HAT : Hid (∀ k, k < 8 → (be8 (n * 8) 8).getD (7 - k) 0 = n * 8 / 2 ^ (8 * k) % 256) := fun k hk => by rw [be8_at _ _ (by omega)]; congr 4; omega
  clear hzn
  generalize padZ n = z at *
  generalize be8 (n * 8) 8 = l at *
  go_enter Tryd.func68, Tryd.ntmps68
  go_wp2_with (at_make; refine wpList_make_full _ rfl _ _ 42 rfl w.heap.size 5 i0 (.int .u8 0) 1 Tryd.underlying42 hi hz0 hz1 .i64 .i64 _ _ (9 + z) rfl rfl (by simp) (by simp) ?m1 ?m2 ?m3 ?_)
  case m1 => rw [hz2]; omega
  case m2 => unfold maxLen; omega
  case m3 => exact Nat.le_refl _
  intro w2 hown hgrow
  rw [made_u8] at hown
  have ec : ∃ x, w2.cell? ⟨w.heap.size, 0, none⟩ = some (.int .u8 x) := ⟨_, (hown.cellAt 0 (by omega)).trans (u8s_at (by rw [List.length_replicate]; omega))⟩
  obtain ⟨x0, c0⟩ := ec
  have f0 := hown.frozenAt 0
  have HO := hide hown
  have HG := hide hgrow
  clear hown hgrow
  have HO1 : Hid ((w2.setCell ⟨w.heap.size, 0, none⟩ (.int .u8 (128 : Int))).ownsRow w.heap.size 5 1 (.slice (some ⟨w.heap.size, 0, none⟩) (9 + z) (9 + z)) (9 + z) (u8s (endTo z l 0))) := by
    have h := (HO.out.stored 0 (.int .u8 ((128 : Nat) : Int))).1
    rw [u8s_set] at h
    have e : (List.replicate (9 + z) 0).set 0 128 = endTo z l 0 := by
      rw [show 9 + z = (z + 8) + 1 by omega, List.replicate_succ, List.set_cons_zero]
      have : l.drop 8 = [] := List.drop_eq_nil_of_le (by rw [LB.out]; omega)
      have e2 : List.replicate (z + 8) 0 = List.replicate z 0 ++ List.replicate 8 0 := by rw [List.replicate_append_replicate]
      unfold endTo
      rw [this, e2, List.append_nil]
      rfl
    rw [e] at h
    exact h
  have HB1 : Hid (Below w.heap.size w (w2.setCell ⟨w.heap.size, 0, none⟩ (.int .u8 (128 : Int)))) := (grown_below HG.out (Nat.le_refl _) (by intro k hk; cases hk)).setCell (Nat.le_refl _) _
  go_wp2
  go_loopg [23] 9 (fun f s23 wr => ∃ (k : Nat), s23 = .int .i64 k ∧ k ≤ 8 ∧ 8 - k < f ∧ wr.ownsRow w.heap.size 5 1 (.slice (some ⟨w.heap.size, 0, none⟩) (9 + z) (9 + z)) (9 + z) (u8s (endTo z l k)) ∧ Below w.heap.size w wr)
  case atStart => exact ⟨0, rfl, by omega, by omega, HO1.out, HB1.out⟩
  case round =>
    clear HO HG HO1 HB1 c0 f0
    obtain ⟨k, rfl, hk, hf, ho, hb⟩ := hrel
    by_cases hk8 : k < 8
    · have hv := HAT.out k hk8
      obtain ⟨ix, hix⟩ : ∃ x, x = 8 + z - k := ⟨_, rfl⟩
      have ex : ∃ x, wr.cell? ⟨w.heap.size, ix, none⟩ = some (.int .u8 x) := ⟨_, (ho.cellAt ix (by omega)).trans (u8s_at (by rw [endTo_length z LB.out k (by omega)]; omega))⟩
      obtain ⟨xo, co⟩ := ex
      have fo := ho.frozenAt ix
      have h2 := ho.stored ix (.int .u8 ((l.getD (7 - k) 0 : Nat) : Int))
      rw [u8s_set, hix, endTo_set z LB.out k hk8, ← hix] at h2
      have H2 := hide h2
      have hixe : (9 : Int) + (z : Int) - 1 - (k : Int) = (ix : Int) := by omega
      have hdv : ((n : Int) * 8 / 2 ^ (8 * k)) % 256 = ((l.getD (7 - k) 0 : Nat) : Int) := by rw [hv]; simp
      have hixl : ix < 9 + z := by omega
      clear ho h2 hix hv
      generalize l.getD (7 - k) 0 = dv at *
      have hk8' : (k : Int) < 8 := by omega
      go_wp2
      go_roundg (8 - k)
      case measure => omega
      case rel => exact ⟨k + 1, by go_num, by omega, by omega, H2.out.1, hb.grown H2.out.2 hb.size (by intro q hq; cases hq; exact Nat.le_refl _)⟩
    · have e : k = 8 := by omega
      subst e
      go_wp2
      go_ret
      refine ⟨_, rfl, ?_, hb⟩
      rw [HE.out, endTo_length z LB.out 8 (by omega)]
      exact ho

end Go.Proofs.YtbmjlofehbbkbaaDoor

/- A law: two arrays of integers are held against each other: the answer is whether they are the same, number by number. -/
namespace Go.Proofs.YtbmjlofehbbkbaaDoor
open Go.RowKit

theorem s_cells8 : Tryd.prog.cellsOf 5 = 1 := by kernel_rfl
theorem cells32 : Tryd.prog.cellsOf 23 = 32 := by kernel_rfl
theorem cellsW : Tryd.prog.cellsOf 120 = 1 := by kernel_rfl
theorem cellsW8 : Tryd.prog.cellsOf 121 = 8 := by kernel_rfl

theorem s_wf_u8 {x : Nat} (h : x < 256) : (Lit.int .u8 (Int.ofNat x)).wf = true := by
  have h1 : IntKind.u8.min = 0 := rfl
  have h2 : IntKind.u8.max = 255 := rfl
  have h3 : (Int.ofNat x) = (x : Int) := rfl
  rw [Lit.wf, h1, h2, h3, decide_eq_true (by omega), decide_eq_true (by omega)]
  rfl
theorem wf_u32 {x : Nat} (h : x < 4294967296) : (Lit.int .u32 (Int.ofNat x)).wf = true := by
  have h1 : IntKind.u32.min = 0 := rfl
  have h2 : IntKind.u32.max = 4294967295 := rfl
  have h3 : (Int.ofNat x) = (x : Int) := rfl
  rw [Lit.wf, h1, h2, h3, decide_eq_true (by omega), decide_eq_true (by omega)]
  rfl

theorem s_ofNat_inj (a b : List Nat) : a.map Int.ofNat = b.map Int.ofNat ↔ a = b := by
  constructor
  · intro h
    exact List.map_inj_right (fun x y hxy => by cases hxy; rfl) |>.1 h
  · intro h; rw [h]

/-- two digests -/
theorem run_eq_digest (a b : List Nat) (ha : a.length = 32) (hb : b.length = 32) (wa : ∀ x ∈ a, x < 256) (wb : ∀ x ∈ b, x < 256) (w : World) :
    (Op.equalIn 10000 23 (.agg (u8s a).toArray) (.agg (u8s b).toArray)).run Tryd.prog w = .ok (decide (a = b)) w := by
  have h := run_eq_ints Tryd.underlying23 Tryd.underlying5 s_cells8 cells32 (a.map Int.ofNat) (b.map Int.ofNat) (by simpa using ha) (by simpa using hb)
    (fun z hz => by obtain ⟨x, hx, rfl⟩ := List.mem_map.1 hz; exact s_wf_u8 (wa x hx)) (fun z hz => by obtain ⟨x, hx, rfl⟩ := List.mem_map.1 hz; exact s_wf_u8 (wb x hx)) w
  rw [List.map_map, List.map_map] at h
  rw [decide_eq_decide.2 (s_ofNat_inj a b).symm]
  exact h

/-- eight words -/
theorem run_eq_words (a b : List Nat) (ha : a.length = 8) (hb : b.length = 8) (wa : ∀ x ∈ a, x < 4294967296) (wb : ∀ x ∈ b, x < 4294967296) (w : World) :
    (Op.equalIn 10000 121 (.agg (u32s a).toArray) (.agg (u32s b).toArray)).run Tryd.prog w = .ok (decide (a = b)) w := by
  have h := run_eq_ints Tryd.underlying121 Tryd.underlying120 cellsW cellsW8 (a.map Int.ofNat) (b.map Int.ofNat) (by simpa using ha) (by simpa using hb)
    (fun z hz => by obtain ⟨x, hx, rfl⟩ := List.mem_map.1 hz; exact wf_u32 (wa x hx)) (fun z hz => by obtain ⟨x, hx, rfl⟩ := List.mem_map.1 hz; exact wf_u32 (wb x hx)) w
  rw [List.map_map, List.map_map] at h
  rw [decide_eq_decide.2 (s_ofNat_inj a b).symm]
  exact h

end Go.Proofs.YtbmjlofehbbkbaaDoor

/- Plain facts: a hash that has so many bytes: its words are those behind all whole blocks, what is left stands in the rest; what a piece does to it. -/
namespace Go.Proofs.YtbmjlofehbbkbaaDoor
open Go.RowKit

theorem hashTo_append (l b : List Nat) : ∀ j, 64 * j ≤ l.length → hashTo (l ++ b) j = hashTo l j := by
  intro j
  induction j with
  | zero => intro _; rfl
  | succ j ih =>
    intro h
    rw [hashTo, hashTo, ih (by omega), List.drop_append_of_le_length (by omega), List.take_append_of_le_length (by simp; omega)]

/-- words and rest of a hash that has these bytes -/
def RepH (l ws rest : List Nat) : Prop :=
  ws = hashTo l (l.length / 64) ∧ rest.length = 64 ∧ BytesN rest ∧ rest.take (l.length % 64) = l.drop (64 * (l.length / 64))

theorem RepH.none : RepH [] startT (List.replicate 64 0) := by
  refine ⟨rfl, by simp, ?_, rfl⟩
  intro x hx
  rw [List.eq_of_mem_replicate hx]; omega

/-- the rest behind a piece's first bytes -/
def restTo (rest b : List Nat) (r m : Nat) : List Nat := rest.take r ++ b.take m ++ rest.drop (r + m)

theorem restTo_length {rest b : List Nat} {r m : Nat} (h : rest.length = 64) (hm : m ≤ b.length) (hr : r + m ≤ 64) : (restTo rest b r m).length = 64 := by
  simp [restTo, h]; omega

theorem restTo_bytes {rest b : List Nat} {r m : Nat} (h : BytesN rest) (hb : BytesN b) : BytesN (restTo rest b r m) := by
  intro x hx
  simp only [restTo, List.mem_append] at hx
  rcases hx with (hx | hx) | hx
  · exact h x (List.mem_of_mem_take hx)
  · exact hb x (List.mem_of_mem_take hx)
  · exact h x (List.mem_of_mem_drop hx)

theorem RepH.part {l ws rest b : List Nat} (h : RepH l ws rest) (hb : BytesN b) {m : Nat} (hm : m ≤ b.length) (hr : l.length % 64 + m < 64) : RepH (l ++ b.take m) ws (restTo rest b (l.length % 64) m) := by
  obtain ⟨hw, hl, hby, ht⟩ := h
  have hlen : (l ++ b.take m).length = l.length + m := by simp; omega
  have h1 : (l.length + m) / 64 = l.length / 64 := by omega
  have h2 : (l.length + m) % 64 = l.length % 64 + m := by omega
  refine ⟨?_, restTo_length hl hm (by omega), restTo_bytes hby hb, ?_⟩
  · rw [hlen, h1, hw, hashTo_append _ _ _ (by omega)]
  · rw [hlen, h1, h2, List.drop_append_of_le_length (by omega), ← ht, restTo]
    rw [List.take_append_of_le_length (by simp [hl]; omega), List.take_of_length_le (by simp [hl]; omega)]

theorem RepH.whole {l ws rest b : List Nat} (h : RepH l ws rest) (hb : BytesN b) {m : Nat} (hm : m ≤ b.length) (hr : l.length % 64 + m = 64) : RepH (l ++ b.take m) (blockF ws (restTo rest b (l.length % 64) m)) (restTo rest b (l.length % 64) m) := by
  obtain ⟨hw, hl, hby, ht⟩ := h
  have hlen : (l ++ b.take m).length = l.length + m := by simp; omega
  have h1 : (l.length + m) / 64 = l.length / 64 + 1 := by omega
  have h2 : (l.length + m) % 64 = 0 := by omega
  refine ⟨?_, restTo_length hl hm (by omega), restTo_bytes hby hb, ?_⟩
  · rw [hlen, h1, hashTo, hashTo_append _ _ _ (by omega), ← hw]
    congr 1
    have e : restTo rest b (l.length % 64) m = l.drop (64 * (l.length / 64)) ++ b.take m := by
      rw [restTo, List.drop_eq_nil_of_le (by omega), List.append_nil, ht]
    rw [List.drop_append_of_le_length (by omega), e]
    exact (List.take_of_length_le (by simp; omega)).symm
  · rw [hlen, h1, h2, List.take_zero, List.drop_eq_nil_of_le (by rw [hlen]; omega)]

end Go.Proofs.YtbmjlofehbbkbaaDoor

/- Walks: a hash: New, made, Copy, Len; what a hash is, of whatever make. -/
namespace Go.Proofs.YtbmjlofehbbkbaaDoor
open Go.RowKit

/-- the cells of a hash -/
def hCells (ws rest : List Nat) (n : Nat) : List Value := u32s ws ++ u8s rest ++ [.int .i64 (n : Int)]

theorem built49 : Tryd.prog.built 123 [(0, .agg (u32s startT).toArray)] = some (hCells startT (List.replicate 64 0) 0).toArray := by kernel_rfl
theorem info49 : (Tryd.prog.info? 123).map (·.size) = some 73 := by kernel_rfl
theorem hCells_length (ws rest : List Nat) (n : Nat) (h1 : ws.length = 8) (h2 : rest.length = 64) : (hCells ws rest n).length = 73 := by simp [hCells, u32s, u8s, h1, h2]
theorem one_hCells (ws rest : List Nat) (n : Nat) : (hCells ws rest n).toArray.all (·.oneCell') = true := by
  apply all_oneCell_toArray
  intro v hv
  simp only [hCells, List.mem_append] at hv
  rcases hv with (hv | hv) | hv
  · obtain ⟨x, _, rfl⟩ := List.mem_map.1 hv; rfl
  · obtain ⟨x, _, rfl⟩ := List.mem_map.1 hv; rfl
  · simp at hv; subst hv; rfl

set_option maxHeartbeats 1000000 in
set_option maxRecDepth 100000 in
theorem s_new_any (w : World) (hL : Laid w) :
    Calls Tryd.prog 64 #[] w fun e w' => e = .returned (.pointer (some ⟨w.heap.size, 0, none⟩)) ∧ w' = w.alloc (.cells (hCells startT (List.replicate 64 0) 0).toArray 123) := by
  have HL := hide hL
  have HB := hide built49
  clear hL
  generalize (hCells startT (List.replicate 64 0) 0).toArray = C at *
  go_enter Tryd.func64, Tryd.ntmps64
  go_upto_region 1 with fail
  refine wp_region_list ?_
  refine wpList_load_mid rfl 121 _ rfl 0 0 rfl (u32s startT) _ HL.out.1 Tryd.underlying121 rfl info26 ?_
  have hf : Tryd.prog.built 123 ((#[(0, Operand.tmp 1)] : Array (Nat × Operand)).map fun (i, x) => (i, (({ tmps := #[Value.pointer none, undef, undef, undef], defers := [] } : Act).put (some 1) (Value.agg (u32s startT).toArray)).eval x)).toList = some C := by
    simpa [Act.put, Act.eval] using HB.out
  refine wpList_build rfl 123 #[(0, .tmp 1)] rfl (by rw [show Tryd.prog.built 123 _ = some C from hf]; rfl) ?_
  rw [show Tryd.prog.built 123 _ = some C from hf]
  go_wp2
  go_ret
  exact ⟨rfl, rfl⟩

theorem hash_range {w : World} {g : Nat} {ws rest : List Nat} {n : Nat} (hA : Arr w g 123 (hCells ws rest n)) : w.rangeAt g 0 (u32s ws) := fun j v hv => by
  have := hA.cell j
  rw [Nat.zero_add, this, hCells, List.append_assoc, List.getElem?_append_left (List.getElem?_eq_some_iff.1 hv).1]
  exact hv

theorem hash_rest {w : World} {g : Nat} {ws rest : List Nat} {n : Nat} (h8 : ws.length = 8) (hA : Arr w g 123 (hCells ws rest n)) : w.rangeAt g 8 (u8s rest) := fun j v hv => by
  have := hA.cell (8 + j)
  have hj := (List.getElem?_eq_some_iff.1 hv).1
  rw [this, hCells, List.append_assoc, List.getElem?_append_right (by simp [u32s, h8]), List.getElem?_append_left (by simp [u32s, h8]; simpa using hj)]
  simpa [u32s, h8] using hv

theorem hash_size {w : World} {g : Nat} {ws rest : List Nat} {n : Nat} (h8 : ws.length = 8) (h64 : rest.length = 64) (hA : Arr w g 123 (hCells ws rest n)) : w.cell? ⟨g, 72, none⟩ = some (.int .i64 (n : Int)) := by
  rw [hA.cell 72, hCells, List.getElem?_append_right (by simp [u32s, u8s, h8, h64])]
  simp [u32s, u8s, h8, h64]

/-- a whole array read: what the operation yields -/
theorem exec_load_row {P : Program} {o : Oper} {a : Act} {w : World} (ty : TypeId) (x : Operand) (ho : o.op = .load ty x)
    (g : Nat) (hx : a.eval x = .pointer (some ⟨g, 0, none⟩)) (t : TypeId) (cs : Array Value) (fr : Nat × Nat) (e : TypeDesc) (hg : w.heap[g]? = some (.cells cs t fr))
    (hu : P.underlying ty = some e) (hd : (match e with | .struct _ | .array _ _ => true | _ => false) = true) (hi : (P.info? ty).map (·.size) = some cs.size) :
    (execOp a.eval o).run P w = .ok (.value (.agg cs)) w := by
  unfold execOp
  simp only [ho, hx, Instr.loadAt, Instr.sureAddr, Sem.run_bind, Sem.run_pure, Result.andThen_ok, run_loadVar_row w g t ty cs fr e hg hu hd hi]

/-- .. out of the middle of a block -/
theorem s_exec_load_mid {P : Program} {op : Oper} {a : Act} {w : World} (ty : TypeId) (x : Operand) (ho : op.op = .load ty x)
    (b o : Nat) (hx : a.eval x = .pointer (some ⟨b, o, none⟩)) (cs : List Value) (d : TypeDesc) (hc : w.rangeAt b o cs)
    (hu : P.underlying ty = some d) (hd : d.isRow = true) (hi : (P.info? ty).map (·.size) = some cs.length) :
    (execOp a.eval op).run P w = .ok (.value (.agg cs.toArray)) w := by
  unfold execOp
  simp only [ho, hx, Instr.loadAt, Instr.sureAddr, Sem.run_bind, Sem.run_pure, Result.andThen_ok, run_loadVar_mid w b o ty cs d hc hu hd hi]

/-- two arrays held against each other: what the operation yields -/
theorem s_exec_eql_agg {P : Program} {o : Oper} {a : Act} {w : World} (t tt : TypeId) (x y : Operand) (ho : o.op = .binOp .eql t x y tt) (xs ys : Array Value) (hx : a.eval x = .agg xs) (hy : a.eval y = .agg ys) (r : Bool)
    (hgd : (eqGuard .eql t x y (.agg xs) (.agg ys)).run P w = .ok () w) (he : (Op.equalIn 10000 t (.agg xs) (.agg ys)).run P w = .ok r w) : (execOp a.eval o).run P w = .ok (.value (.bool r)) w := by
  unfold execOp
  simp only [ho, hx, hy, Sem.run_bind, hgd, run_eql_struct, he, Result.andThen_ok, Sem.run_pure]

theorem guard26 (x y : Operand) (u v : Array Value) (w : World) : (eqGuard .eql 121 x y (.agg u) (.agg v)).run Tryd.prog w = .ok () w := by kernel_rfl

/-- a hash that has bytes is one of New's -/
theorem made_size (g : Nat) (ws rest : List Nat) (n : Nat) (w : World) (h8 : ws.length = 8) (h64 : rest.length = 64) (hn : 0 < n) (hA : Arr w g 123 (hCells ws rest n)) :
    Calls Tryd.prog 65 #[.pointer (some ⟨g, 0, none⟩)] w fun e w' => e = .returned (.bool true) ∧ w' = w.drew := by
  have KS : Hid (∀ v : World, Hid (Below w.heap.size w v) → v.cell? ⟨g, 72, none⟩ = some (.int .i64 (n : Int))) := fun v hv => hash_size h8 h64 (hA.kept hv.out)
  have hnd : decide (0 < n) = true := decide_eq_true hn
  clear hA h8 h64
  go_enter Tryd.func65, Tryd.ntmps65
  go_upto_region 1 with fail
  refine wp_region_held_drew (S := fun v => Hid (Below w.heap.size w v)) (by kernel_rfl) (hide (Below.refl w.heap.size w).drew) (fun hHeld => ?_)
  refine take_dstH (i := 0) (d := 3) (v := ?_) rfl rfl (by kernel_rfl) (by kernel_rfl) (by kernel_rfl) (fun _ _ _ h => h) (by rfl) hHeld ?_ ?_
  rotate_left
  · intro wZ hSw; clear hSw; go_simp; first | (with_reducible rfl) | (rw [if_pos (by omega)]; with_reducible rfl) | skip
  try simp only [Act.put, List.setIfInBounds_toArray, List.set_cons_zero, List.set_cons_succ]
  refine take_dstH (i := 1) (d := 4) (v := ?_) rfl rfl (by kernel_rfl) (by kernel_rfl) (by kernel_rfl) (fun _ _ _ h => h) (by rfl) hHeld ?_ ?_
  rotate_left
  · intro wZ hSw; clear hSw; go_simp; first | (with_reducible rfl) | (rw [if_pos (by omega)]; with_reducible rfl) | skip
  try simp only [Act.put, List.setIfInBounds_toArray, List.set_cons_zero, List.set_cons_succ]
  refine take_dstH (i := 2) (d := 5) (v := ?_) rfl rfl (by kernel_rfl) (by kernel_rfl) (by kernel_rfl) (fun _ _ _ h => h) (by rfl) hHeld ?_ ?_
  rotate_left
  · intro wZ hSw; clear hSw; go_simp; first | (with_reducible rfl) | (rw [if_pos (by omega)]; with_reducible rfl) | skip
  try simp only [Act.put, List.setIfInBounds_toArray, List.set_cons_zero, List.set_cons_succ]
  refine take_dstH (i := 3) (d := 6) (v := ?_) rfl rfl (by kernel_rfl) (by kernel_rfl) (by kernel_rfl) (fun _ _ _ h => h) (by rfl) hHeld ?_ ?_
  rotate_left
  · intro wZ hSw; clear hSw; go_simp; first | (with_reducible rfl) | (rw [if_pos (by omega)]; with_reducible rfl) | skip
  try simp only [Act.put, List.setIfInBounds_toArray, List.set_cons_zero, List.set_cons_succ]
  refine take_dstH (i := 4) (d := 7) (v := ?_) rfl rfl (by kernel_rfl) (by kernel_rfl) (by kernel_rfl) (fun _ _ _ h => h) (by rfl) hHeld ?_ ?_
  rotate_left
  · intro wZ hSw; clear hSw; go_simp; first | (with_reducible rfl) | (rw [if_pos (by omega)]; with_reducible rfl) | skip
  try simp only [Act.put, List.setIfInBounds_toArray, List.set_cons_zero, List.set_cons_succ]
  refine take_dstH (i := 5) (d := 8) (v := ?_) rfl rfl (by kernel_rfl) (by kernel_rfl) (by kernel_rfl) (fun _ _ _ h => h) (by rfl) hHeld ?_ ?_
  rotate_left
  · intro wZ hSw; clear hSw; go_simp; first | (with_reducible rfl) | (rw [if_pos (by omega)]; with_reducible rfl) | skip
  try simp only [Act.put, List.setIfInBounds_toArray, List.set_cons_zero, List.set_cons_succ]
  refine take_dstH (i := 6) (d := 9) (v := ?_) rfl rfl (by kernel_rfl) (by kernel_rfl) (by kernel_rfl) (fun _ _ _ h => h) (by rfl) hHeld ?_ ?_
  rotate_left
  · intro wZ hSw; have hfS := KS.out wZ hSw; clear hSw; go_simp; first | (with_reducible rfl) | (rw [if_pos (by omega)]; with_reducible rfl) | skip
  try simp only [Act.put, List.setIfInBounds_toArray, List.set_cons_zero, List.set_cons_succ]
  refine take_dstH (i := 7) (d := 10) (v := ?_) rfl rfl (by kernel_rfl) (by kernel_rfl) (by kernel_rfl) (fun _ _ _ h => h) (by rfl) hHeld ?_ ?_
  rotate_left
  · intro wZ hSw; clear hSw; go_simp; first | (with_reducible rfl) | (rw [if_pos (by omega)]; with_reducible rfl) | skip
  try simp only [Act.put, List.setIfInBounds_toArray, List.set_cons_zero, List.set_cons_succ]
  refine take_dstH (i := 8) (d := 11) (v := ?_) rfl rfl (by kernel_rfl) (by kernel_rfl) (by kernel_rfl) (fun _ _ _ h => h) (by rfl) hHeld ?_ ?_
  rotate_left
  · intro wZ hSw; clear hSw; go_simp; first | (with_reducible rfl) | (rw [if_pos (by omega)]; with_reducible rfl) | skip
  try simp only [Act.put, List.setIfInBounds_toArray, List.set_cons_zero, List.set_cons_succ]
  refine skip_dstH (i := 9) (d := 12) rfl rfl (by kernel_rfl) (by kernel_rfl) (by kernel_rfl) (fun _ _ _ h => h) (by rfl) hHeld ?_
  try simp only [Act.put, List.setIfInBounds_toArray, List.set_cons_zero, List.set_cons_succ]
  refine skip_dstH (i := 10) (d := 13) rfl rfl (by kernel_rfl) (by kernel_rfl) (by kernel_rfl) (fun _ _ _ h => h) (by rfl) hHeld ?_
  try simp only [Act.put, List.setIfInBounds_toArray, List.set_cons_zero, List.set_cons_succ]
  refine skip_dstH (i := 11) (d := 14) rfl rfl (by kernel_rfl) (by kernel_rfl) (by kernel_rfl) (fun _ _ _ h => h) (by rfl) hHeld ?_
  try simp only [Act.put, List.setIfInBounds_toArray, List.set_cons_zero, List.set_cons_succ]
  refine skip_dstH (i := 12) (d := 15) rfl rfl (by kernel_rfl) (by kernel_rfl) (by kernel_rfl) (fun _ _ _ h => h) (by rfl) hHeld ?_
  try simp only [Act.put, List.setIfInBounds_toArray, List.set_cons_zero, List.set_cons_succ]
  refine skip_dstH (i := 13) (d := 16) rfl rfl (by kernel_rfl) (by kernel_rfl) (by kernel_rfl) (fun _ _ _ h => h) (by rfl) hHeld ?_
  try simp only [Act.put, List.setIfInBounds_toArray, List.set_cons_zero, List.set_cons_succ]
  refine skip_dstH (i := 14) (d := 17) rfl rfl (by kernel_rfl) (by kernel_rfl) (by kernel_rfl) (fun _ _ _ h => h) (by rfl) hHeld ?_
  try simp only [Act.put, List.setIfInBounds_toArray, List.set_cons_zero, List.set_cons_succ]
  refine take_dstH (i := 15) (d := 18) (v := ?_) rfl rfl (by kernel_rfl) (by kernel_rfl) (by kernel_rfl) (fun _ _ _ h => h) (by rfl) hHeld ?_ ?_
  rotate_left
  · intro wZ hSw; clear hSw; go_simp; first | (with_reducible rfl) | (rw [if_pos (by omega)]; with_reducible rfl) | skip
  try simp only [Act.put, List.setIfInBounds_toArray, List.set_cons_zero, List.set_cons_succ]
  refine take_dstH (i := 16) (d := 19) (v := ?_) rfl rfl (by kernel_rfl) (by kernel_rfl) (by kernel_rfl) (fun _ _ _ h => h) (by rfl) hHeld ?_ ?_
  rotate_left
  · intro wZ hSw; clear hSw; go_simp; first | (with_reducible rfl) | (rw [if_pos (by omega)]; with_reducible rfl) | skip
  try simp only [Act.put, List.setIfInBounds_toArray, List.set_cons_zero, List.set_cons_succ]
  refine take_dstH (i := 17) (d := 2) (v := ?_) rfl rfl (by kernel_rfl) (by kernel_rfl) (by kernel_rfl) (fun _ _ _ h => h) (by rfl) hHeld ?_ ?_
  rotate_left
  · intro wZ hSw; clear hSw; go_simp; first | (with_reducible rfl) | (rw [if_pos (by omega)]; with_reducible rfl) | skip
  try simp only [Act.put, List.setIfInBounds_toArray, List.set_cons_zero, List.set_cons_succ]
  refine wpAnyH_done (by kernel_rfl) ?_ _
  go_wp2
  go_ret
  exact ⟨rfl, rfl⟩

/-- one that has none is told by its words -/
theorem made_words (g : Nat) (ws rest : List Nat) (b : Bool) (w : World) (h8 : ws.length = 8) (hw : Words ws) (h64 : rest.length = 64) (hb : decide (ws = startT) = b) (hA : Arr w g 123 (hCells ws rest 0)) (hL : Laid w) :
    Calls Tryd.prog 65 #[.pointer (some ⟨g, 0, none⟩)] w fun e w' => e = .returned (.bool b) ∧ w' = w.drew := by
  have KS : Hid (∀ v : World, Hid (Below w.heap.size w v) → v.cell? ⟨g, 72, none⟩ = some (.int .i64 0)) := fun v hv => hash_size (n := 0) h8 h64 (hA.kept hv.out)
  have KR : Hid (∀ v : World, Hid (Below w.heap.size w v) → v.rangeAt g 0 (u32s ws)) := fun v hv => hash_range (hA.kept hv.out)
  have KG : Hid (∀ v : World, Hid (Below w.heap.size w v) → v.rangeAt 0 0 (u32s startT)) := fun v hv => (hL.kept hv.out).1
  have heq := run_eq_words ws startT h8 rfl hw startT_words
  rw [hb] at heq
  have HEQ := hide heq
  have I26 : Hid ((Tryd.prog.info? 121).map (·.size) = some (u32s ws).length) := by show _ = _; rw [info26]; simp [u32s, h8]
  have J26 : Hid ((Tryd.prog.info? 121).map (·.size) = some (u32s startT).length) := by show _ = _; rw [info26]; simp [u32s, startT_length]
  clear hA h8 h64 hw hb hL heq
  generalize u32s startT = ss at *
  go_enter Tryd.func65, Tryd.ntmps65
  go_upto_region 1 with fail
  refine wp_region_held_drew (S := fun v => Hid (Below w.heap.size w v)) (by kernel_rfl) (hide (Below.refl w.heap.size w).drew) (fun hHeld => ?_)
  refine take_dstH (i := 0) (d := 3) (v := ?_) rfl rfl (by kernel_rfl) (by kernel_rfl) (by kernel_rfl) (fun _ _ _ h => h) (by rfl) hHeld ?_ ?_
  rotate_left
  · intro wZ hSw; clear hSw; go_simp; first | (with_reducible rfl) | (rw [if_pos (by omega)]; with_reducible rfl) | skip
  try simp only [Act.put, List.setIfInBounds_toArray, List.set_cons_zero, List.set_cons_succ]
  refine take_dstH (i := 1) (d := 4) (v := ?_) rfl rfl (by kernel_rfl) (by kernel_rfl) (by kernel_rfl) (fun _ _ _ h => h) (by rfl) hHeld ?_ ?_
  rotate_left
  · intro wZ hSw; clear hSw; go_simp; first | (with_reducible rfl) | (rw [if_pos (by omega)]; with_reducible rfl) | skip
  try simp only [Act.put, List.setIfInBounds_toArray, List.set_cons_zero, List.set_cons_succ]
  refine take_dstH (i := 2) (d := 5) (v := ?_) rfl rfl (by kernel_rfl) (by kernel_rfl) (by kernel_rfl) (fun _ _ _ h => h) (by rfl) hHeld ?_ ?_
  rotate_left
  · intro wZ hSw; clear hSw; go_simp; first | (with_reducible rfl) | (rw [if_pos (by omega)]; with_reducible rfl) | skip
  try simp only [Act.put, List.setIfInBounds_toArray, List.set_cons_zero, List.set_cons_succ]
  refine take_dstH (i := 3) (d := 6) (v := ?_) rfl rfl (by kernel_rfl) (by kernel_rfl) (by kernel_rfl) (fun _ _ _ h => h) (by rfl) hHeld ?_ ?_
  rotate_left
  · intro wZ hSw; clear hSw; go_simp; first | (with_reducible rfl) | (rw [if_pos (by omega)]; with_reducible rfl) | skip
  try simp only [Act.put, List.setIfInBounds_toArray, List.set_cons_zero, List.set_cons_succ]
  refine take_dstH (i := 4) (d := 7) (v := ?_) rfl rfl (by kernel_rfl) (by kernel_rfl) (by kernel_rfl) (fun _ _ _ h => h) (by rfl) hHeld ?_ ?_
  rotate_left
  · intro wZ hSw; clear hSw; go_simp; first | (with_reducible rfl) | (rw [if_pos (by omega)]; with_reducible rfl) | skip
  try simp only [Act.put, List.setIfInBounds_toArray, List.set_cons_zero, List.set_cons_succ]
  refine take_dstH (i := 5) (d := 8) (v := ?_) rfl rfl (by kernel_rfl) (by kernel_rfl) (by kernel_rfl) (fun _ _ _ h => h) (by rfl) hHeld ?_ ?_
  rotate_left
  · intro wZ hSw; clear hSw; go_simp; first | (with_reducible rfl) | (rw [if_pos (by omega)]; with_reducible rfl) | skip
  try simp only [Act.put, List.setIfInBounds_toArray, List.set_cons_zero, List.set_cons_succ]
  refine take_dstH (i := 6) (d := 9) (v := ?_) rfl rfl (by kernel_rfl) (by kernel_rfl) (by kernel_rfl) (fun _ _ _ h => h) (by rfl) hHeld ?_ ?_
  rotate_left
  · intro wZ hSw; have hfS := KS.out wZ hSw; clear hSw; go_simp; first | (with_reducible rfl) | (rw [if_pos (by omega)]; with_reducible rfl) | skip
  try simp only [Act.put, List.setIfInBounds_toArray, List.set_cons_zero, List.set_cons_succ]
  refine take_dstH (i := 7) (d := 10) (v := ?_) rfl rfl (by kernel_rfl) (by kernel_rfl) (by kernel_rfl) (fun _ _ _ h => h) (by rfl) hHeld ?_ ?_
  rotate_left
  · intro wZ hSw; clear hSw; go_simp; first | (with_reducible rfl) | (rw [if_pos (by omega)]; with_reducible rfl) | skip
  try simp only [Act.put, List.setIfInBounds_toArray, List.set_cons_zero, List.set_cons_succ]
  refine take_dstH (i := 8) (d := 11) (v := ?_) rfl rfl (by kernel_rfl) (by kernel_rfl) (by kernel_rfl) (fun _ _ _ h => h) (by rfl) hHeld ?_ ?_
  rotate_left
  · intro wZ hSw; clear hSw; go_simp; first | (with_reducible rfl) | (rw [if_pos (by omega)]; with_reducible rfl) | skip
  try simp only [Act.put, List.setIfInBounds_toArray, List.set_cons_zero, List.set_cons_succ]
  refine take_dstH (i := 9) (d := 12) (v := ?_) rfl rfl (by kernel_rfl) (by kernel_rfl) (by kernel_rfl) (fun _ _ _ h => h) (by rfl) hHeld ?_ ?_
  rotate_left
  · intro wZ hSw; clear hSw; go_simp; first | (with_reducible rfl) | (rw [if_pos (by omega)]; with_reducible rfl) | skip
  try simp only [Act.put, List.setIfInBounds_toArray, List.set_cons_zero, List.set_cons_succ]
  refine take_dstH (i := 10) (d := 13) (v := ?_) rfl rfl (by kernel_rfl) (by kernel_rfl) (by kernel_rfl) (fun _ _ _ h => h) (by rfl) hHeld ?_ ?_
  rotate_left
  · intro wZ hSw; clear hSw; go_simp; first | (with_reducible rfl) | (rw [if_pos (by omega)]; with_reducible rfl) | skip
  try simp only [Act.put, List.setIfInBounds_toArray, List.set_cons_zero, List.set_cons_succ]
  refine take_dstH (i := 11) (d := 14) (v := ?_) rfl rfl (by kernel_rfl) (by kernel_rfl) (by kernel_rfl) (fun _ _ _ h => h) (by rfl) hHeld ?_ ?_
  rotate_left
  · intro wZ hSw; clear hSw; go_simp; first | (with_reducible rfl) | (rw [if_pos (by omega)]; with_reducible rfl) | skip
  try simp only [Act.put, List.setIfInBounds_toArray, List.set_cons_zero, List.set_cons_succ]
  refine take_dstH (i := 12) (d := 15) (v := ?_) rfl rfl (by kernel_rfl) (by kernel_rfl) (by kernel_rfl) (fun _ _ _ h => h) (by rfl) hHeld ?_ ?_
  rotate_left
  · intro wZ hSw; refine s_exec_load_mid 121 (.tmp 14) ?_ g 0 ?_ (u32s ws) _ (KR.out wZ hSw) Tryd.underlying121 rfl I26.out <;> rfl
  try simp only [Act.put, List.setIfInBounds_toArray, List.set_cons_zero, List.set_cons_succ]
  refine take_dstH (i := 13) (d := 16) (v := ?_) rfl rfl (by kernel_rfl) (by kernel_rfl) (by kernel_rfl) (fun _ _ _ h => h) (by rfl) hHeld ?_ ?_
  rotate_left
  · intro wZ hSw; refine s_exec_load_mid 121 (.global 0) ?_ 0 0 ?_ ss _ (KG.out wZ hSw) Tryd.underlying121 rfl J26.out <;> rfl
  try simp only [Act.put, List.setIfInBounds_toArray, List.set_cons_zero, List.set_cons_succ]
  refine take_dstH (i := 14) (d := 17) (v := ?_) rfl rfl (by kernel_rfl) (by kernel_rfl) (by kernel_rfl) (fun _ _ _ h => h) (by rfl) hHeld ?_ ?_
  rotate_left
  · intro wZ hSw; refine s_exec_eql_agg 121 121 (.tmp 15) (.tmp 16) ?_ (u32s ws).toArray ss.toArray ?_ ?_ b (guard26 _ _ _ _ _) (HEQ.out wZ) <;> rfl
  try simp only [Act.put, List.setIfInBounds_toArray, List.set_cons_zero, List.set_cons_succ]
  refine take_dstH (i := 15) (d := 18) (v := ?_) rfl rfl (by kernel_rfl) (by kernel_rfl) (by kernel_rfl) (fun _ _ _ h => h) (by rfl) hHeld ?_ ?_
  rotate_left
  · intro wZ hSw; clear hSw; go_simp; first | (with_reducible rfl) | (rw [if_pos (by omega)]; with_reducible rfl) | skip
  try simp only [Act.put, List.setIfInBounds_toArray, List.set_cons_zero, List.set_cons_succ]
  refine take_dstH (i := 16) (d := 19) (v := ?_) rfl rfl (by kernel_rfl) (by kernel_rfl) (by kernel_rfl) (fun _ _ _ h => h) (by rfl) hHeld ?_ ?_
  rotate_left
  · intro wZ hSw; clear hSw; go_simp; first | (with_reducible rfl) | (rw [if_pos (by omega)]; with_reducible rfl) | skip
  try simp only [Act.put, List.setIfInBounds_toArray, List.set_cons_zero, List.set_cons_succ]
  refine take_dstH (i := 17) (d := 2) (v := ?_) rfl rfl (by kernel_rfl) (by kernel_rfl) (by kernel_rfl) (fun _ _ _ h => h) (by rfl) hHeld ?_ ?_
  rotate_left
  · intro wZ hSw; clear hSw; go_simp; first | (with_reducible rfl) | (rw [if_pos (by omega)]; with_reducible rfl) | skip
  try simp only [Act.put, List.setIfInBounds_toArray, List.set_cons_zero, List.set_cons_succ]
  refine wpAnyH_done (by kernel_rfl) ?_ _
  go_wp2
  go_ret
  exact ⟨rfl, rfl⟩

/-- one that is not there is none -/
theorem made_nil (w : World) :
    Calls Tryd.prog 65 #[.pointer none] w fun e w' => e = .returned (.bool false) ∧ w' = w.drew := by
  go_enter Tryd.func65, Tryd.ntmps65
  go_upto_region 1 with fail
  refine wp_region_held_drew (S := fun v => Hid (Below w.heap.size w v)) (by kernel_rfl) (hide (Below.refl w.heap.size w).drew) (fun hHeld => ?_)
  refine take_dstH (i := 0) (d := 3) (v := ?_) rfl rfl (by kernel_rfl) (by kernel_rfl) (by kernel_rfl) (fun _ _ _ h => h) (by rfl) hHeld ?_ ?_
  rotate_left
  · intro wZ hSw; clear hSw; go_simp; first | (with_reducible rfl) | (rw [if_pos (by omega)]; with_reducible rfl) | skip
  try simp only [Act.put, List.setIfInBounds_toArray, List.set_cons_zero, List.set_cons_succ]
  refine take_dstH (i := 1) (d := 4) (v := ?_) rfl rfl (by kernel_rfl) (by kernel_rfl) (by kernel_rfl) (fun _ _ _ h => h) (by rfl) hHeld ?_ ?_
  rotate_left
  · intro wZ hSw; clear hSw; go_simp; first | (with_reducible rfl) | (rw [if_pos (by omega)]; with_reducible rfl) | skip
  try simp only [Act.put, List.setIfInBounds_toArray, List.set_cons_zero, List.set_cons_succ]
  refine take_dstH (i := 2) (d := 5) (v := ?_) rfl rfl (by kernel_rfl) (by kernel_rfl) (by kernel_rfl) (fun _ _ _ h => h) (by rfl) hHeld ?_ ?_
  rotate_left
  · intro wZ hSw; clear hSw; go_simp; first | (with_reducible rfl) | (rw [if_pos (by omega)]; with_reducible rfl) | skip
  try simp only [Act.put, List.setIfInBounds_toArray, List.set_cons_zero, List.set_cons_succ]
  refine skip_dstH (i := 3) (d := 6) rfl rfl (by kernel_rfl) (by kernel_rfl) (by kernel_rfl) (fun _ _ _ h => h) (by rfl) hHeld ?_
  try simp only [Act.put, List.setIfInBounds_toArray, List.set_cons_zero, List.set_cons_succ]
  refine skip_dstH (i := 4) (d := 7) rfl rfl (by kernel_rfl) (by kernel_rfl) (by kernel_rfl) (fun _ _ _ h => h) (by rfl) hHeld ?_
  try simp only [Act.put, List.setIfInBounds_toArray, List.set_cons_zero, List.set_cons_succ]
  refine skip_dstH (i := 5) (d := 8) rfl rfl (by kernel_rfl) (by kernel_rfl) (by kernel_rfl) (fun _ _ _ h => h) (by rfl) hHeld ?_
  try simp only [Act.put, List.setIfInBounds_toArray, List.set_cons_zero, List.set_cons_succ]
  refine skip_dstH (i := 6) (d := 9) rfl rfl (by kernel_rfl) (by kernel_rfl) (by kernel_rfl) (fun _ _ _ h => h) (by rfl) hHeld ?_
  try simp only [Act.put, List.setIfInBounds_toArray, List.set_cons_zero, List.set_cons_succ]
  refine skip_dstH (i := 7) (d := 10) rfl rfl (by kernel_rfl) (by kernel_rfl) (by kernel_rfl) (fun _ _ _ h => h) (by rfl) hHeld ?_
  try simp only [Act.put, List.setIfInBounds_toArray, List.set_cons_zero, List.set_cons_succ]
  refine skip_dstH (i := 8) (d := 11) rfl rfl (by kernel_rfl) (by kernel_rfl) (by kernel_rfl) (fun _ _ _ h => h) (by rfl) hHeld ?_
  try simp only [Act.put, List.setIfInBounds_toArray, List.set_cons_zero, List.set_cons_succ]
  refine skip_dstH (i := 9) (d := 12) rfl rfl (by kernel_rfl) (by kernel_rfl) (by kernel_rfl) (fun _ _ _ h => h) (by rfl) hHeld ?_
  try simp only [Act.put, List.setIfInBounds_toArray, List.set_cons_zero, List.set_cons_succ]
  refine skip_dstH (i := 10) (d := 13) rfl rfl (by kernel_rfl) (by kernel_rfl) (by kernel_rfl) (fun _ _ _ h => h) (by rfl) hHeld ?_
  try simp only [Act.put, List.setIfInBounds_toArray, List.set_cons_zero, List.set_cons_succ]
  refine skip_dstH (i := 11) (d := 14) rfl rfl (by kernel_rfl) (by kernel_rfl) (by kernel_rfl) (fun _ _ _ h => h) (by rfl) hHeld ?_
  try simp only [Act.put, List.setIfInBounds_toArray, List.set_cons_zero, List.set_cons_succ]
  refine skip_dstH (i := 12) (d := 15) rfl rfl (by kernel_rfl) (by kernel_rfl) (by kernel_rfl) (fun _ _ _ h => h) (by rfl) hHeld ?_
  try simp only [Act.put, List.setIfInBounds_toArray, List.set_cons_zero, List.set_cons_succ]
  refine skip_dstH (i := 13) (d := 16) rfl rfl (by kernel_rfl) (by kernel_rfl) (by kernel_rfl) (fun _ _ _ h => h) (by rfl) hHeld ?_
  try simp only [Act.put, List.setIfInBounds_toArray, List.set_cons_zero, List.set_cons_succ]
  refine skip_dstH (i := 14) (d := 17) rfl rfl (by kernel_rfl) (by kernel_rfl) (by kernel_rfl) (fun _ _ _ h => h) (by rfl) hHeld ?_
  try simp only [Act.put, List.setIfInBounds_toArray, List.set_cons_zero, List.set_cons_succ]
  refine skip_dstH (i := 15) (d := 18) rfl rfl (by kernel_rfl) (by kernel_rfl) (by kernel_rfl) (fun _ _ _ h => h) (by rfl) hHeld ?_
  try simp only [Act.put, List.setIfInBounds_toArray, List.set_cons_zero, List.set_cons_succ]
  refine take_dstH (i := 16) (d := 19) (v := ?_) rfl rfl (by kernel_rfl) (by kernel_rfl) (by kernel_rfl) (fun _ _ _ h => h) (by rfl) hHeld ?_ ?_
  rotate_left
  · intro wZ hSw; clear hSw; go_simp; first | (with_reducible rfl) | (rw [if_pos (by omega)]; with_reducible rfl) | skip
  try simp only [Act.put, List.setIfInBounds_toArray, List.set_cons_zero, List.set_cons_succ]
  refine take_dstH (i := 17) (d := 2) (v := ?_) rfl rfl (by kernel_rfl) (by kernel_rfl) (by kernel_rfl) (fun _ _ _ h => h) (by rfl) hHeld ?_ ?_
  rotate_left
  · intro wZ hSw; clear hSw; go_simp; first | (with_reducible rfl) | (rw [if_pos (by omega)]; with_reducible rfl) | skip
  try simp only [Act.put, List.setIfInBounds_toArray, List.set_cons_zero, List.set_cons_succ]
  refine wpAnyH_done (by kernel_rfl) ?_ _
  go_wp2
  go_ret
  exact ⟨rfl, rfl⟩

/-- a hash that has these bytes, as New and Write make it -/
def MadeH (w : World) (g : Nat) (l : List Nat) : Prop := ∃ ws rest, Arr w g 123 (hCells ws rest l.length) ∧ RepH l ws rest

theorem RepH.h8 {l ws rest : List Nat} (h : RepH l ws rest) : ws.length = 8 := by rw [h.1]; exact hashTo_length _ _
theorem RepH.words {l ws rest : List Nat} (h : RepH l ws rest) : Words ws := by rw [h.1]; exact hashTo_words _ _

theorem made_any (g : Nat) (ws rest l : List Nat) (w : World) (hA : Arr w g 123 (hCells ws rest l.length)) (hR : RepH l ws rest) (hL : Laid w) :
    Calls Tryd.prog 65 #[.pointer (some ⟨g, 0, none⟩)] w fun e w' => e = .returned (.bool true) ∧ w' = w.drew := by
  by_cases hn : 0 < l.length
  · exact made_size g ws rest l.length w hR.h8 hR.2.1 hn hA
  · have h0 : l = [] := List.eq_nil_of_length_eq_zero (by omega)
    subst h0
    exact made_words g ws rest true w hR.h8 hR.words hR.2.1 (decide_eq_true hR.1) hA hL

/-- the zero value -/
def zeroH : List Value := hCells (List.replicate 8 0) (List.replicate 64 0) 0

theorem zero49 : ∀ w : World, (zeroValue 123).run Tryd.prog w = .ok (.agg zeroH.toArray) w := (zero_of_info (n := 73) (by kernel_rfl)).1
theorem made_zero (g : Nat) (w : World) (hA : Arr w g 123 zeroH) (hL : Laid w) :
    Calls Tryd.prog 65 #[.pointer (some ⟨g, 0, none⟩)] w fun e w' => e = .returned (.bool false) ∧ w' = w.drew :=
  made_words g (List.replicate 8 0) (List.replicate 64 0) false w (by simp) (by intro x hx; rw [List.eq_of_mem_replicate hx]; omega) (by simp) (by decide) hA hL

/-- a hash, of whatever make: one that has these bytes; or one that is not there, or is the zero value: as one without bytes -/
def IsH (w : World) (v : Value) (l : List Nat) : Prop :=
  (∃ g, v = .pointer (some ⟨g, 0, none⟩) ∧ MadeH w g l) ∨ l = [] ∧ (v = .pointer none ∨ ∃ g, v = .pointer (some ⟨g, 0, none⟩) ∧ Arr w g 123 zeroH)

theorem MadeH.kept {w w' : World} {g : Nat} {l : List Nat} (h : MadeH w g l) (hb : Below w.heap.size w w') : MadeH w' g l := by
  obtain ⟨ws, rest, hA, hR⟩ := h
  exact ⟨ws, rest, hA.kept hb, hR⟩
theorem MadeH.lt {w : World} {g : Nat} {l : List Nat} (h : MadeH w g l) : g < w.heap.size := by
  obtain ⟨ws, rest, hA, _⟩ := h
  exact hA.lt
theorem IsH.kept {w w' : World} {v : Value} {l : List Nat} (h : IsH w v l) (hb : Below w.heap.size w w') : IsH w' v l := by
  rcases h with ⟨g, hv, h⟩ | ⟨hl, h⟩
  · exact Or.inl ⟨g, hv, h.kept hb⟩
  · rcases h with h | ⟨g, hv, h⟩
    · exact Or.inr ⟨hl, Or.inl h⟩
    · exact Or.inr ⟨hl, Or.inr ⟨g, hv, h.kept hb⟩⟩

set_option maxHeartbeats 1000000 in
set_option maxRecDepth 100000 in
theorem copy_made (g : Nat) (l : List Nat) (w : World) (hM : MadeH w g l) (hL : Laid w) :
    Calls Tryd.prog 67 #[.pointer (some ⟨g, 0, none⟩)] w fun e w' => e = .returned (.pointer (some ⟨w.heap.size, 0, none⟩)) ∧ MadeH w' w.heap.size l ∧ Below w.heap.size w w' := by
  obtain ⟨ws, rest, hA, hR⟩ := hM
  have HM := hide (made_any g ws rest l w hA hR hL)
  have HA := hide hA
  have HR := hide hR
  have hl := hR.h8
  have hrl := hR.2.1
  have HI : Hid ((Tryd.prog.info? 123).map (·.size) = some (hCells ws rest l.length).toArray.size) := by show _ = _; rw [info49]; simp [hCells, u32s, u8s, hl, hrl]
  have HO : Hid (zeroH.toArray.size = (hCells ws rest l.length).toArray.size) := by show _ = _; simp [zeroH, hCells, u32s, u8s, hl, hrl]
  clear hA hR hL hl hrl
  go_enter Tryd.func67, Tryd.ntmps67
  go_wp2_with fail
  refine HM.out.mono ?_
  rintro e w1 ⟨rfl, hw1⟩
  have HA1 := hide (show Arr w1 g 123 (hCells ws rest l.length) from by rw [hw1]; exact HA.out)
  have hs1 : Hid (w1.heap.size = w.heap.size) := by show _ = _; rw [hw1]; rfl
  have B1 := hide (show Below w.heap.size w w1 from by rw [hw1]; exact (Below.refl _ _).drew)
  clear hw1 HM HA
  have hzv := zero49
  generalize hC0 : zeroH.toArray = C0 at *
  have HC0 := hide hC0
  clear hC0
  go_wp2_with (first
    | (refine wpList_load_row rfl 123 _ rfl g rfl 123 _ (0, 0) _ HA1.out Tryd.underlying123 rfl HI.out ?_)
    | (refine wpList_store_row rfl 123 _ _ rfl w1.heap.size _ rfl rfl 123 _ (heap_alloc_new w1 _) HI.out HO.out (one_hCells _ _ _) ?_))
  go_ret
  refine ⟨by rw [hs1.out]; rfl, ?_, ?_⟩
  · rw [← hs1.out]
    exact ⟨ws, rest, (Arr.new w1 123 C0.toList).row _, HR.out⟩
  · exact below_setRow (B1.out.alloc B1.out.size _) (by rw [hs1.out]; exact Nat.le_refl _) (by simp) _

theorem made_new {w : World} : MadeH (w.alloc (.cells (hCells startT (List.replicate 64 0) 0).toArray 123)) w.heap.size [] :=
  ⟨startT, List.replicate 64 0, Arr.new w _ _, RepH.none⟩

set_option maxHeartbeats 1000000 in
set_option maxRecDepth 100000 in
theorem copy_new (v : Value) (w : World) (HM : Hid (Calls Tryd.prog 65 #[v] w fun e w' => e = .returned (.bool false) ∧ w' = w.drew)) (hL : Laid w) :
    Calls Tryd.prog 67 #[v] w fun e w' => e = .returned (.pointer (some ⟨w.heap.size, 0, none⟩)) ∧ MadeH w' w.heap.size [] ∧ Below w.heap.size w w' := by
  have HL := hide hL
  clear hL
  go_enter Tryd.func67, Tryd.ntmps67
  go_wp2_with fail
  refine HM.out.mono ?_
  rintro e w1 ⟨rfl, hw1⟩
  have hs1 : Hid (w1.heap.size = w.heap.size) := by show _ = _; rw [hw1]; rfl
  have B1 := hide (show Below w.heap.size w w1 from by rw [hw1]; exact (Below.refl _ _).drew)
  have HL1 := hide (HL.out.kept B1.out)
  clear hw1 HM
  go_wp2_with fail
  refine (s_new_any w1 HL1.out).mono ?_
  rintro e w2 ⟨rfl, hw2⟩
  have M2 := hide (show MadeH w2 w1.heap.size [] from by rw [hw2]; exact made_new)
  have B2 := hide (show Below w.heap.size w w2 from by rw [hw2]; exact B1.out.alloc B1.out.size _)
  clear hw2
  go_wp2
  go_ret
  rw [hs1.out] at M2
  exact ⟨by rw [hs1.out]; rfl, M2.out, B2.out⟩

theorem copy_is (v : Value) (l : List Nat) (w : World) (hI : IsH w v l) (hL : Laid w) :
    Calls Tryd.prog 67 #[v] w fun e w' => e = .returned (.pointer (some ⟨w.heap.size, 0, none⟩)) ∧ MadeH w' w.heap.size l ∧ Below w.heap.size w w' := by
  rcases hI with ⟨g, rfl, hM⟩ | ⟨rfl, rfl | ⟨g, rfl, hA⟩⟩
  · exact copy_made g l w hM hL
  · exact copy_new _ w (hide (made_nil w)) hL
  · exact copy_new _ w (hide (made_zero g w hA hL)) hL

end Go.Proofs.YtbmjlofehbbkbaaDoor
