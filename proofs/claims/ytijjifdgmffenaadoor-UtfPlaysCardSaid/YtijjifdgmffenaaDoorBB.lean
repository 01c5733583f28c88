/-
  Bytes: bytes that lie in memory, rows of the call's own, append, parts of a slice, strings; arguments opened.
-/
import Derived.Test.YtijjifdgmffenaaDoorBA
import Derived.Test.YtijjifdgmffenaaDoorBO
import Derived.Laws.AppendOwnNone
import Derived.Laws.CopyRow
import Derived.Lib.SlBytesConst
import Derived.ProofKit
import Derived.OpenShut
import Derived.ShutString
import Derived.ChangeOld
import Derived.Below
import Derived.Deep.Slices
import Derived.Deep.SlicePairs
import Derived.SizedLaws
namespace Go.Proofs.YtijjifdgmffenaaDoor
open Go.ChangeShapes Go.WideShapes Go.ChangeAt Go.WideMaps Go.WideElems Go.RowKit

/-- the bytes b lie from there on -/
def Bts (w : World) (g o : Nat) (b : List Nat) : Prop := ∀ i, i < b.length → w.cell? ⟨g, o + i, none⟩ = some (.int .u8 ((b.getD i 0 : Nat) : Int))

theorem Bts.kept {w w' : World} {g o : Nat} {b : List Nat} (h : Bts w g o b) (hb : Below w.heap.size w w') : Bts w' g o b :=
  fun i hi => (hb.cell (block_lt_of_cell (h i hi))).trans (h i hi)

theorem Bts.keptB {B : Nat} {w w' : World} {g o : Nat} {b : List Nat} (h : Bts w g o b) (hB : g < B) (hb : Below B w w') : Bts w' g o b :=
  fun i hi => (hb.cell (p := ⟨g, o + i, none⟩) hB).trans (h i hi)

def BytesN (l : List Nat) : Prop := ∀ x ∈ l, x < 256

/-- bytes that are handed in: none, or an address -/
def BI (w : World) (p : Option Addr) (bs : List Nat) : Prop := bs = [] ∨ ∃ g o, p = some ⟨g, o, none⟩ ∧ Bts w g o bs

theorem BI.kept {w w' : World} {p : Option Addr} {bs : List Nat} (h : BI w p bs) (hb : Below w.heap.size w w') : BI w' p bs := by
  rcases h with h | ⟨g, o, rfl, h⟩
  · exact Or.inl h
  · exact Or.inr ⟨g, o, rfl, h.kept hb⟩

theorem infoU8 : (Tryd.prog.info? 5).map (fun i => (i.zero, i.size, i.bytes)) = some (some (.int .u8 0), 1, 1) := by kernel_rfl

theorem one_mem (l : List Nat) : ∀ u ∈ u8s l, u.oneCell' = true := by
  intro u hu
  obtain ⟨x, _, rfl⟩ := List.mem_map.1 hu
  rfl

/-- 'append(x, y...)' as one operation: x a row of the call's own, y any bytes -/
theorem wp_append_bytes_dst {w : World} {o : Oper} {a : Act} {K : Act → World → Prop} {Q : Exit → Act → World → Prop} {dd : Nat} (hdd : o.dst = some dd) (s x : Operand)
    (ho : o.op = .call { callee := .builtin .append, args := #[s, x], argTypes := #[22, 22] })
    (B : Nat) (v : Value) (xs : List Nat) (hs : a.eval s = v) (n : Nat) (hn : xs.length = n) (hown : w.ownsRow B 5 1 v n (u8s xs))
    (p : Option Addr) (m c : Nat) (ys : List Nat) (hm : ys.length = m) (hx : a.eval x = .slice p m c) (hb : BI w p ys) (hp : p = none → c = 0) (hsum : n + m ≤ 140737488355328) (hB : B ≤ w.heap.size)
    (h : ∀ v' w', w'.ownsRow B 5 1 v' (n + m) (u8s (xs ++ ys)) → w.grownBy w' v.ownBlock → K (a.put (some dd) v') w') : o.wp Tryd.prog a w K Q := by
  obtain ⟨i0, hi, hz0, hz1, hz2⟩ := info_parts infoU8
  subst hm hn
  cases p with
  | none =>
    have e0 := hp rfl
    subst e0
    rcases hb with h0 | ⟨b, off, h0, _⟩
    · subst h0
      have hrun := run_append_owned_none (P := Tryd.prog) (w := w) B 22 o.type 5 i0 1 Tryd.underlying22 hi v _ _ hown
      have hx' : a.eval x = .slice none 0 0 := hx
      unfold Oper.wp
      simp [execOp, ho, resolve, invoke, builtin, hs, hx', hrun, Result.andThen]
      show K (a.put o.dst v) w
      rw [hdd]
      exact h v w (by simpa using hown) (grown_refl _ _)
    · cases h0
  | some ad =>
    refine wp_append_dst w hdd s x 22 ho B 5 i0 (.int .u8 0) 1 1 Tryd.underlying22 hi hz0 hz1 hz2 rfl (by decide) v _ _ hs hown ad ys.length c (u8s ys) hx (by simp [u8s]) ?_ (one_mem _) ?_ (by omega) hB ?_
    · intro j u hj
      have hjn : j < ys.length := by
        have := (List.getElem?_eq_some_iff.1 hj).1
        simpa [u8s] using this
      rcases hb with h0 | ⟨b, off, h0, hcell⟩
      · subst h0; simp at hjn
      · cases h0
        rw [Addr.add_mid, hcell j hjn]
        rw [u8s_at hjn] at hj
        exact hj
    · unfold maxLen; omega
    · intro v' w' h1 h2
      exact h v' w' (by rw [show u8s (xs ++ ys) = u8s xs ++ u8s ys by simp [u8s]]; exact h1) h2

/-- bytes as a string -/
def strF (xs : List Nat) : ByteArray := strOfNums (xs.map Int.ofNat)

theorem conv_any {w : World} {p : Option Addr} {xs : List Nat} {c : Nat} (h : BI w p xs) (n : Nat) (hn : xs.length = n) :
    (convert 22 9 (.slice p n c)).run Tryd.prog w = .ok (.string (strF xs)) w := by
  subst hn
  rcases h with rfl | ⟨b, o, rfl, hc⟩
  · cases p with
    | none => exact run_convert_bytes_nil w 22 5 Tryd.underlying22 Tryd.underlying5 0 c _ Tryd.underlying9
    | some a =>
      rw [run_convert_bytes_string w 22 9 5 _ _ c Tryd.underlying22 Tryd.underlying5 Tryd.underlying9]
      have hl : (loadCells a ([] : List Int).length).run Tryd.prog w = .ok (([] : List Int).map (Value.int .u8)).toArray w := by
        simp [loadCells, loadCellsFrom]
      exact run_bytesToString w a _ c [] hl
  · have hl : (xs.map Int.ofNat).length = xs.length := by simp
    refine run_convert_bytes_arg w 22 5 Tryd.underlying22 Tryd.underlying5 b o _ c (xs.map Int.ofNat) hl (fun i hi => ?_) _ Tryd.underlying9
    have hi' : i < xs.length := hi
    rw [hc i hi']
    congr 2
    simp [List.getD, hi']

theorem strF_inj {xs ys : List Nat} (hx : BytesN xs) (hy : BytesN ys) (h : strF xs = strF ys) : xs = ys := by
  have h1 : (strF xs).data.toList = (strF ys).data.toList := by rw [h]
  have e : ∀ l : List Nat, (strF l).data.toList = l.map fun n => UInt8.ofNat n := fun l => by
    rw [strF, strOfNums_data, List.map_map]; rfl
  rw [e, e] at h1
  have back : ∀ l : List Nat, BytesN l → (l.map fun n => UInt8.ofNat n).map UInt8.toNat = l := fun l hl => by
    rw [List.map_map]
    conv => rhs; rw [← List.map_id l]
    apply List.map_congr_left
    intro n hn
    have := hl n hn
    simp only [Function.comp, id]
    rw [UInt8.toNat_ofNat']
    omega
  rw [← back xs hx, ← back ys hy, h1]

theorem ba_beq (a b : ByteArray) : (a == b) = decide (a = b) := by
  obtain ⟨x⟩ := a
  obtain ⟨y⟩ := b
  show (x == y) = decide _
  by_cases h : x = y
  · subst h; simp
  · simp [h]

theorem strF_eq {xs ys : List Nat} (hx : BytesN xs) (hy : BytesN ys) : (strF xs == strF ys) = decide (xs = ys) := by
  rw [ba_beq]
  exact decide_eq_decide.2 ⟨fun e => strF_inj hx hy e, fun e => by rw [e]⟩

/-- 'append(x, y...)': x a row of the call's own, y any bytes -/
theorem wpList_append_bytes {w : World} {ops : Array Oper} {rest : List Oper} {o : Oper} {a : Act} {Q : Exit → Act → World → Prop} (hgd : o.guard = none) (s x : Operand)
    (ho : o.op = .call { callee := .builtin .append, args := #[s, x], argTypes := #[22, 22] })
    (B : Nat) (v : Value) (xs : List Nat) (hs : a.eval s = v) (n : Nat) (hn : xs.length = n) (hown : w.ownsRow B 5 1 v n (u8s xs))
    (p : Option Addr) (m c : Nat) (ys : List Nat) (hm : ys.length = m) (hx : a.eval x = .slice p m c) (hb : BI w p ys) (hp : p = none → c = 0) (hsum : n + m ≤ 140737488355328) (hB : B ≤ w.heap.size)
    (h : ∀ v' w', w'.ownsRow B 5 1 v' (n + m) (u8s (xs ++ ys)) → w.grownBy w' v.ownBlock → wpList Tryd.prog ops Q rest (a.put o.dst v') w') :
    wpList Tryd.prog ops Q (o :: rest) a w := by
  obtain ⟨i0, hi, hz0, hz1, hz2⟩ := info_parts infoU8
  subst hm hn
  cases p with
  | none =>
    have e0 := hp rfl
    subst e0
    rcases hb with h0 | ⟨b, off, h0, _⟩
    · subst h0
      refine wpList_append_own_none hgd s x 22 ho B 5 i0 1 Tryd.underlying22 hi v _ _ hs hown hx ?_
      exact h v w (by simpa using hown) (grown_refl _ _)
    · cases h0
  | some ad =>
    refine wpList_append_own w hgd s x 22 ho B 5 i0 (.int .u8 0) 1 1 Tryd.underlying22 hi hz0 hz1 hz2 rfl (by decide) v _ _ hs hown ad ys.length c (u8s ys) hx (by simp [u8s]) ?_ (one_mem _) ?_ (by omega) hB ?_
    · intro j u hj
      have hjn : j < ys.length := by
        have := (List.getElem?_eq_some_iff.1 hj).1
        simpa [u8s] using this
      rcases hb with h0 | ⟨b, off, h0, hcell⟩
      · subst h0; simp at hjn
      · cases h0
        rw [Addr.add_mid, hcell j hjn]
        rw [u8s_at hjn] at hj
        exact hj
    · unfold maxLen; omega
    · intro v' w' h1 h2 _
      exact h v' w' (by rw [show u8s (xs ++ ys) = u8s xs ++ u8s ys by simp [u8s]]; exact h1) h2

theorem u8s_append (a b : List Nat) : u8s (a ++ b) = u8s a ++ u8s b := by simp [u8s]

/-- a piece that is handed in -/
def Piece (w : World) (p : Option Addr) (c : Nat) (b : List Nat) : Prop :=
  BI w p b ∧ (p = none → c = 0) ∧ BytesN b ∧ b.length ≤ c ∧ c ≤ maxLen

/-- a row of the call's own is bytes that may be handed on -/
theorem own_piece {w : World} {B : Nat} {v : Value} {l : List Nat} (h : w.ownsRow B 5 1 v l.length (u8s l)) (hb : BytesN l) :
    ∃ p c, v = .slice p l.length c ∧ Piece w p c l ∧ ∀ a, p = some a → B ≤ a.block ∧ a.block < w.heap.size := by
  by_cases hn : 0 < l.length
  · obtain ⟨g, cap, rfl, hB, hg, hc, hm⟩ := own_shape h hn
    exact ⟨_, cap, rfl, ⟨Or.inr ⟨g, 0, rfl, fun i hi => by rw [Nat.zero_add]; exact (h.cellAt i (by omega)).trans (u8s_at hi)⟩, (fun e => by cases e), hb, hc, hm⟩, fun a ha => by cases ha; exact ⟨hB, hg⟩⟩
  · have h0 : l = [] := List.eq_nil_of_length_eq_zero (by omega)
    subst h0
    rcases h.2 with ⟨rfl, _⟩ | ⟨g, cap, cur, rfl, hB, hg, hnc, hcm, _⟩
    · exact ⟨none, 0, rfl, ⟨Or.inl rfl, (fun _ => rfl), hb, Nat.le_refl _, Nat.zero_le _⟩, fun a ha => by cases ha⟩
    · refine ⟨_, cap, rfl, ⟨Or.inl rfl, (fun e => by cases e), hb, Nat.zero_le _, hcm⟩, fun a ha => ?_⟩
      cases ha
      refine ⟨hB, ?_⟩
      by_cases hlt : g < w.heap.size
      · exact hlt
      · rw [Array.getElem?_eq_none (by omega)] at hg; cases hg

theorem own_piece_n {w : World} {B : Nat} {v : Value} {l : List Nat} {n : Nat} (h : w.ownsRow B 5 1 v n (u8s l)) (hl : l.length = n) (hb : BytesN l) :
    ∃ p c, v = .slice p n c ∧ Piece w p c l ∧ ∀ a, p = some a → B ≤ a.block ∧ a.block < w.heap.size := by
  subst hl
  exact own_piece h hb

theorem bytes_append {a b : List Nat} (ha : BytesN a) (hb : BytesN b) : BytesN (a ++ b) := fun x hx => by
  rcases List.mem_append.1 hx with h | h
  · exact ha x h
  · exact hb x h

theorem Piece.kept {w w' : World} {p : Option Addr} {c : Nat} {b : List Nat} (h : Piece w p c b) (hb : Below w.heap.size w w') : Piece w' p c b := ⟨h.1.kept hb, h.2⟩

theorem size5 (w : World) : (Go.sizeOf 5).run Tryd.prog w = .ok 1 w := by
  obtain ⟨i0, hi, hz0, hz1, hz2⟩ := info_parts infoU8
  simp [Go.sizeOf, typeInfo, hi, hz1]

/-- 'b[m:]' -/
def cutP (p : Option Addr) (l cap : Nat) : Option Addr := if cap = l then p else p.map (·.add l)

theorem bi_from {w : World} {p : Option Addr} {bs : List Nat} (h : BI w p bs) (l cap : Nat) (hc : bs.length ≤ cap) : BI w (cutP p l cap) (bs.drop l) := by
  by_cases hl : bs.length ≤ l
  · exact Or.inl (List.drop_eq_nil_of_le hl)
  · rcases h with h0 | ⟨b, o, rfl, hcl⟩
    · subst h0; simp at hl
    · refine Or.inr ⟨b, o + l, ?_, fun i hi => ?_⟩
      · simp [cutP, show cap ≠ l by omega, Addr.add_mid]
      · have hi' : l + i < bs.length := by simp at hi; omega
        have := hcl (l + i) hi'
        rw [Nat.add_assoc, this]
        simp [List.getD]

theorem cutP_block {p : Option Addr} {l cap : Nat} {a : Addr} (h : cutP p l cap = some a) : ∃ a0, p = some a0 ∧ a.block = a0.block := by
  cases p with
  | none => simp [cutP] at h
  | some a0 =>
    refine ⟨a0, rfl, ?_⟩
    unfold cutP at h
    split at h
    · cases h; rfl
    · simp at h; subst h; unfold Addr.add; split <;> rfl

theorem bi_grown {w w' : World} {p : Option Addr} {bs : List Nat} {g : Nat} (h : BI w p bs) (hg : w.grownBy w' (some g)) (hne : ∀ a, p = some a → bs ≠ [] → a.block ≠ g) : BI w' p bs := by
  by_cases hn : bs = []
  · exact Or.inl hn
  rcases h with h0 | ⟨b, o, rfl, hc⟩
  · exact Or.inl h0
  · exact Or.inr ⟨b, o, rfl, fun i hi => hg.cell (hc i hi) (by have := hne _ rfl hn; simpa using this)⟩

theorem run_to (w : World) (p : Option Addr) (n cap h : Nat) (hh : h ≤ cap) :
    (Instr.slice 22 (.slice p n cap) none (some (.int .i64 (h : Int))) none).run Tryd.prog w = .ok (.slice p h cap) w := by
  have ht' : Tryd.prog.underlying 22 = some (.slice (Tryd.prog.elem 22)) := by simp [Program.elem, Tryd.underlying22]
  have he : Tryd.prog.elem 22 = 5 := by simp [Program.elem, Tryd.underlying22]
  rw [run_slice_h w 22 _ _ _ ht' .i64 _ (by omega) (by omega), he, size5]
  have h0 : (fun x : Addr => x.add 0) = id := by funext x; simp [Addr.add]
  simp [Result.andThen, sliced, h0]

theorem run_mid (w : World) (p : Option Addr) (n cap l h : Nat) (hl : l ≤ h) (hh : h ≤ cap) :
    (Instr.slice 22 (.slice p n cap) (some (.int .i64 (l : Int))) (some (.int .i64 (h : Int))) none).run Tryd.prog w = .ok (.slice (cutP p l cap) (h - l) (cap - l)) w := by
  have ht' : Tryd.prog.underlying 22 = some (.slice (Tryd.prog.elem 22)) := by simp [Program.elem, Tryd.underlying22]
  have he : Tryd.prog.elem 22 = 5 := by simp [Program.elem, Tryd.underlying22]
  rw [run_slice_lh w 22 _ _ _ ht' .i64 .i64 _ _ (by omega) (by omega) (by omega), he, size5]
  simp [Result.andThen, sliced, cutP]

theorem Piece.take {w : World} {p : Option Addr} {c : Nat} {xs : List Nat} (h : Piece w p c xs) (a : Nat) : Piece w p c (xs.take a) := by
  refine ⟨?_, h.2.1, fun x hx => h.2.2.1 x (List.mem_of_mem_take hx), Nat.le_trans (by simp; omega) h.2.2.2.1, h.2.2.2.2⟩
  rcases h.1 with h0 | ⟨g, o, hp, hc⟩
  · left; simp [h0]
  · exact Or.inr ⟨g, o, hp, fun i hi => by
      have hi' : i < a ∧ i < xs.length := by rw [List.length_take] at hi; omega
      rw [hc i hi'.2]
      simp [List.getD, hi'.1]⟩

theorem Piece.from {w : World} {p : Option Addr} {c : Nat} {xs : List Nat} (h : Piece w p c xs) (l : Nat) (_hl : l ≤ xs.length) : Piece w (cutP p l c) (c - l) (xs.drop l) := by
  refine ⟨bi_from h.1 l c h.2.2.2.1, fun e => ?_, fun x hx => h.2.2.1 x (List.mem_of_mem_drop hx), by have := h.2.2.2.1; simp; omega, by have := h.2.2.2.2; omega⟩
  cases p with
  | none => have := h.2.1 rfl; omega
  | some a => unfold cutP at e; split at e <;> simp at e

/-- an array is no row of bytes -/
theorem own_ne_arr {w : World} {B X : Nat} {v : Value} {n : Nat} {xs vs : List Value} {t : TypeId} (h : w.ownsRow B 5 1 v n xs) (hA : Arr w X t vs) (ht : t ≠ 5) : v.ownBlock ≠ some X := by
  intro e
  rcases h.2 with ⟨rfl, _⟩ | ⟨g, cap, cur, rfl, hb, hg, _⟩
  · simp [Value.ownBlock] at e
  · simp [Value.ownBlock] at e
    subst e
    unfold Arr at hA
    rw [hA] at hg
    simp at hg
    exact ht hg.2

theorem Arr.keptR {w w' : World} {g : Nat} {t : TypeId} {vs : List Value} {r : Option Nat} (h : Arr w g t vs) (hg : w.grownBy w' r) (hne : r ≠ some g) : Arr w' g t vs := (hg.block g h.lt (fun e => hne e.symm)).trans h

theorem made_u8 (n : Nat) : (madeCells #[Value.int .u8 0] n).toList = u8s (List.replicate n 0) := by
  rw [toList_madeCells_one]; simp [u8s]

/-- a slice of bytes that is read -/
theorem piece_of {H : Type} {enc : TypeId × Value → H} {w : World} {fuel : Nat} {cs : List Value} {x : DataW H × List MemPlace}
    (h : DataW.trod enc Tryd.prog w 0 (fun _ => true) true fuel 22 cs = some x) : ∃ (p : Option Addr) (c : Nat) (xs : List Nat), cs = [.slice p xs.length c] ∧ Piece w p c xs := by
  rcases open_ints Tryd.underlying22 Tryd.underlying5 (by kernel_rfl) h with ⟨hcs, _⟩ | ⟨x, l, c, zs, hcs, _, hl, hm, hz, _, hcell, hwz⟩
  · exact ⟨none, 0, [], hcs, Or.inl rfl, fun _ => rfl, (fun x hx => by cases hx), Nat.le_refl _, Nat.zero_le _⟩
  · have hz' : zs.length = c := by simpa using hz
    have hb : ∀ z ∈ zs, 0 ≤ z ∧ z < 256 := fun z hz => by
      have h := hwz z hz
      have m1 : IntKind.u8.min = 0 := rfl
      have m2 : IntKind.u8.max = 255 := rfl
      simp only [Lit.wf, m1, m2, Bool.and_eq_true, decide_eq_true_eq] at h
      omega
    have hlen : ((zs.take l).map Int.toNat).length = l := by simp; omega
    refine ⟨some x, c, (zs.take l).map Int.toNat, by rw [hlen]; exact hcs, ?_, fun h => (by cases h), ?_, by rw [hlen]; exact hl, hm⟩
    · by_cases h0 : l = 0
      · left; simp [h0]
      · right
        obtain ⟨b, off, spot⟩ := x
        have hc := hcell 0 (by omega)
        have hspot : spot = none := by simpa [Addr.add] using World.cell?_spot hc
        subst hspot
        refine ⟨b, off, rfl, fun i hi => ?_⟩
        have hi' : i < l := by rw [hlen] at hi; exact hi
        have hiz : i < zs.length := by omega
        have := hcell i hiz
        rw [Addr.add_mid] at this
        rw [this]
        have hb' := hb zs[i] (List.getElem_mem hiz)
        congr 2
        simp [List.getD, hi', hiz]
        omega
    · intro y hy
      obtain ⟨z, hz, rfl⟩ := List.mem_map.1 hy
      have := hb z (List.mem_of_mem_take hz)
      omega

/-- .. and how much it holds -/
theorem piece_sized {H : Type} {enc : TypeId × Value → H} {w : World} {fuel : Nat} {cs : List Value} {x : DataW H × List MemPlace}
    (h : DataW.trod enc Tryd.prog w 0 (fun _ => true) true fuel 22 cs = some x) : ∃ (p : Option Addr) (c : Nat) (xs : List Nat), cs = [.slice p xs.length c] ∧ Piece w p c xs ∧ (c = 0 ∨ ∃ el sp, x.1 = .slice el sp ∧ el.length + sp.length = c) := by
  obtain ⟨p, c, xs, hcs, hp⟩ := piece_of h
  refine ⟨p, c, xs, hcs, hp, ?_⟩
  rcases open_ints Tryd.underlying22 Tryd.underlying5 (by kernel_rfl) h with ⟨hcs', _⟩ | ⟨y, l, c', zs, hcs', _, hl, _, hz, hx, _, _⟩
  · left
    rw [hcs] at hcs'
    simp at hcs'
    exact hcs'.2.2
  · right
    rw [hcs] at hcs'
    simp at hcs'
    have hz' : zs.length = c' := by simpa using hz
    refine ⟨_, _, by rw [hx], ?_⟩
    simp [lits, hz', hcs'.2.2]
    omega

/-- a slice of slices of bytes that is read -/
def Pieces (w : World) (sp : Option Addr) (k : Nat) (P : Nat → Option Addr) (C : Nat → Nat) (B : Nat → List Nat) : Prop :=
  (k = 0 ∨ ∃ q o, sp = some ⟨q, o, none⟩ ∧ ∀ i, i < k → w.cell? ⟨q, o + i, none⟩ = some (.slice (P i) (B i).length (C i))) ∧ (∀ i, i < k → Piece w (P i) (C i) (B i)) ∧ k ≤ maxLen


theorem wf_u64 {a : Int} (h : (Lit.int .u64 a).wf = true) : ∃ n : Nat, a = n ∧ n < 18446744073709551616 := by
  have := bounds_u64 h
  exact ⟨a.toNat, by omega, by omega⟩

set_option maxHeartbeats 1000000 in
/-- '[]byte{}' -/
theorem wp_build_empty {w : World} {o : Oper} {a : Act} {K : Act → World → Prop} {Q : Exit → Act → World → Prop} {dd : Nat} (hdd : o.dst = some dd) (ho : o.op = .buildSlice 22 0 #[])
    (h : ∀ w' v', w'.ownsRow w.heap.size 5 1 v' 0 (u8s []) → Below w.heap.size w w' → K (a.put (some dd) v') w') : o.wp Tryd.prog a w K Q := by
  have h' := h (w.alloc (.cells #[] 5)) (.slice (some ⟨w.heap.size, 0, none⟩) 0 0) (World.ownsRow_made w #[] 0 (Nat.le_refl _) (Nat.zero_le _) rfl) ((Below.refl _ _).alloc (Nat.le_refl _) _)
  clear h
  unfold Oper.wp execOp
  rw [ho]
  go_simp
  exact h'

end Go.Proofs.YtijjifdgmffenaaDoor
