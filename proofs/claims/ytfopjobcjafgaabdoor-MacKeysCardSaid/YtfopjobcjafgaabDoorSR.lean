/-
  A law: two arrays of integers are held against each other: the answer is whether they are the same, number by number.
-/
import Derived.Test.YtfopjobcjafgaabDoorSI
import Derived.DeepKeys
namespace Go.Proofs.YtfopjobcjafgaabDoor
open Go.RowKit

theorem mapM_some {α β : Type} (F : α → Option β) (G : α → β) : ∀ (l : List α), (∀ i ∈ l, F i = some (G i)) → l.mapM F = some (l.map G) := by
  intro l
  induction l with
  | nil => intro _; rfl
  | cons x l ih =>
    intro h
    rw [List.mapM_cons, h x (List.mem_cons_self ..), ih fun i hi => h i (List.mem_cons_of_mem _ hi)]
    rfl

theorem flat_range {α : Type} (l : List α) (d : α) : ((List.range l.length).map fun i => [l.getD i d]).flatten = l := by
  induction l with
  | nil => rfl
  | cons x l ih =>
    rw [List.length_cons, List.range_succ_eq_map, List.map_cons, List.map_map, List.flatten_cons]
    show [x] ++ _ = _
    rw [show ((fun i => [(x :: l).getD i d]) ∘ Nat.succ) = fun i => [l.getD i d] from by funext i; simp, ih]
    rfl

theorem lits_of_ints {P : Program} {t e : TypeId} {n : Nat} {k : IntKind} (ht : P.underlying t = some (.array n e)) (he : P.underlying e = some (.int k)) (hce : P.cellsOf e = 1) (hct : P.cellsOf t = n) (zs : List Int) (hl : zs.length = n) (hw : ∀ z ∈ zs, (Lit.int k z).wf = true) :
    P.keyLits 2 t (zs.map (Value.int k)) = some (zs.map (Lit.int k)) := by
  have h1 : (List.range n).mapM (fun i => P.keyLits 1 e (((zs.map (Value.int k)).drop (i * 1)).take 1)) = some ((List.range n).map fun i => [(zs.map (Lit.int k)).getD i (.int k 0)]) := by
    refine mapM_some _ _ _ fun i hi => ?_
    have hin : i < zs.length := by rw [hl]; simpa using hi
    have e1 : ((zs.map (Value.int k)).drop (i * 1)).take 1 = [Value.int k zs[i]] := by
      rw [Nat.mul_one, List.drop_eq_getElem_cons (by simpa using hin)]
      simp
    rw [e1]
    have e2 : (zs.map (Lit.int k)).getD i (.int k 0) = Lit.int k zs[i] := by simp [List.getD, hin]
    rw [e2]
    simp [Program.keyLits, he, hw _ (List.getElem_mem hin)]
  have h2 : (P.keyLits 2 t (zs.map (Value.int k))) = ((List.range n).mapM fun i => P.keyLits 1 e (((zs.map (Value.int k)).drop (i * P.cellsOf e)).take (P.cellsOf e))).map List.flatten := by
    conv => lhs; unfold Program.keyLits
    simp only [ht]
    rw [if_pos (by rw [List.length_map, hl, hct])]
  rw [h2, hce, h1]
  have := flat_range (zs.map (Lit.int k)) (.int k 0)
  rw [List.length_map, hl] at this
  rw [Option.map_some, this]

/-- two arrays of integers held against each other -/
theorem run_eq_ints {P : Program} {t e : TypeId} {n : Nat} {k : IntKind} (ht : P.underlying t = some (.array n e)) (he : P.underlying e = some (.int k)) (hce : P.cellsOf e = 1) (hct : P.cellsOf t = n) (a b : List Int) (ha : a.length = n) (hb : b.length = n)
    (wa : ∀ z ∈ a, (Lit.int k z).wf = true) (wb : ∀ z ∈ b, (Lit.int k z).wf = true) (w : World) :
    (Op.equalIn 10000 t (.agg (a.map (Value.int k)).toArray) (.agg (b.map (Value.int k)).toArray)).run P w = .ok (decide (a = b)) w := by
  have hk : P.keyTypeAt 2 t = true := by
    unfold Program.keyTypeAt
    simp only [ht]
    unfold Program.keyTypeAt
    simp only [he]
  obtain ⟨r, hr, hiff⟩ := run_equalIn_deep 9998 2 t hk w 2 2 (.agg (a.map (Value.int k)).toArray) (.agg (b.map (Value.int k)).toArray) (a.map (Lit.int k)) (b.map (Lit.int k))
    (by simp [Value.formed, ht, hct, ha]) (by simp [Value.formed, ht, hct, hb]) (by simpa [Value.cells] using lits_of_ints ht he hce hct a ha wa) (by simpa [Value.cells] using lits_of_ints ht he hce hct b hb wb)
  rw [hr]
  congr 1
  have hinj : a.map (Lit.int k) = b.map (Lit.int k) ↔ a = b := by
    constructor
    · intro h
      exact List.map_inj_right (fun x y hxy => by cases hxy; rfl) |>.1 h
    · intro h; rw [h]
  by_cases hab : a = b
  · rw [decide_eq_true hab, hiff, hinj]; exact hab
  · rw [decide_eq_false hab]
    cases r with
    | false => rfl
    | true => exact absurd (hinj.1 (hiff.1 rfl)) hab

theorem cells8 : Tryd.prog.cellsOf 5 = 1 := by kernel_rfl
theorem cells32 : Tryd.prog.cellsOf 25 = 32 := by kernel_rfl
theorem cellsW : Tryd.prog.cellsOf 50 = 1 := by kernel_rfl
theorem cellsW8 : Tryd.prog.cellsOf 51 = 8 := by kernel_rfl

theorem wf_u8 {x : Nat} (h : x < 256) : (Lit.int .u8 (Int.ofNat x)).wf = true := by
  have h1 : IntKind.u8.min = 0 := rfl
  have h2 : IntKind.u8.max = 255 := rfl
  have h3 : (Int.ofNat x) = (x : Int) := rfl
  rw [Lit.wf, h1, h2, h3, decide_eq_true (by omega), decide_eq_true (by omega)]
  rfl
theorem wf_u32 {x : Nat} (h : x < 4294967296) : (Lit.int .u32 (Int.ofNat x)).wf = true := by
  have h1 : IntKind.u32.min = 0 := rfl
  have h2 : IntKind.u32.max = 4294967295 := rfl
  have h3 : (Int.ofNat x) = (x : Int) := rfl
  rw [Lit.wf, h1, h2, h3, decide_eq_true (by omega), decide_eq_true (by omega)]
  rfl

theorem ofNat_inj (a b : List Nat) : a.map Int.ofNat = b.map Int.ofNat ↔ a = b := by
  constructor
  · intro h
    exact List.map_inj_right (fun x y hxy => by cases hxy; rfl) |>.1 h
  · intro h; rw [h]

/-- two digests -/
theorem run_eq_digest (a b : List Nat) (ha : a.length = 32) (hb : b.length = 32) (wa : ∀ x ∈ a, x < 256) (wb : ∀ x ∈ b, x < 256) (w : World) :
    (Op.equalIn 10000 25 (.agg (u8s a).toArray) (.agg (u8s b).toArray)).run Tryd.prog w = .ok (decide (a = b)) w := by
  have h := run_eq_ints Tryd.underlying25 Tryd.underlying5 cells8 cells32 (a.map Int.ofNat) (b.map Int.ofNat) (by simpa using ha) (by simpa using hb)
    (fun z hz => by obtain ⟨x, hx, rfl⟩ := List.mem_map.1 hz; exact wf_u8 (wa x hx)) (fun z hz => by obtain ⟨x, hx, rfl⟩ := List.mem_map.1 hz; exact wf_u8 (wb x hx)) w
  rw [List.map_map, List.map_map] at h
  rw [decide_eq_decide.2 (ofNat_inj a b).symm]
  exact h

/-- eight words -/
theorem run_eq_words (a b : List Nat) (ha : a.length = 8) (hb : b.length = 8) (wa : ∀ x ∈ a, x < 4294967296) (wb : ∀ x ∈ b, x < 4294967296) (w : World) :
    (Op.equalIn 10000 51 (.agg (u32s a).toArray) (.agg (u32s b).toArray)).run Tryd.prog w = .ok (decide (a = b)) w := by
  have h := run_eq_ints Tryd.underlying51 Tryd.underlying50 cellsW cellsW8 (a.map Int.ofNat) (b.map Int.ofNat) (by simpa using ha) (by simpa using hb)
    (fun z hz => by obtain ⟨x, hx, rfl⟩ := List.mem_map.1 hz; exact wf_u32 (wa x hx)) (fun z hz => by obtain ⟨x, hx, rfl⟩ := List.mem_map.1 hz; exact wf_u32 (wb x hx)) w
  rw [List.map_map, List.map_map] at h
  rw [decide_eq_decide.2 (ofNat_inj a b).symm]
  exact h

end Go.Proofs.YtfopjobcjafgaabDoor
