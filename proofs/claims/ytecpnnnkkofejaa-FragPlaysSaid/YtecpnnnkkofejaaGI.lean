/-
  Plain: a map by places, and what it holds. Laws of such a map, at the operation.
-/
import Derived.Test.YtecpnnnkkofejaaGE
import Derived.Maps.RangeWalk
import Derived.Maps.Ext
namespace Go.Proofs.Ytecpnnnkkofejaa
open Go.RowKit Go.Maps

/-- how a slice that a map holds reads: as itself -/
def selfE (v : Value) : Option (DataW Value × List MemPlace) := match v with | .slice p n c => some (.held (.slice p n c), []) | _ => none
theorem selfE_mk (p : Option Addr) (n c : Nat) : selfE (.slice p n c) = some (.held (.slice p n c), []) := rfl
theorem selfE_inv {v : Value} {z : DataW Value × List MemPlace} (h : selfE v = some z) : ∃ p n c, v = .slice p n c ∧ z = (.held (.slice p n c), []) := by
  cases v <;> simp [selfE] at h
  exact ⟨_, _, _, rfl, h.symm⟩

/-- an entry -/
def ent (k : Pk) : Lit × DataW Value := (.int .i64 k.x.a, .held (.slice k.p k.x.b.length k.c))
/-- the map that holds these, as it reads -/
def mapOf (ks : List Pk) : DataW Value := .map ((ks.map ent).foldr DataW.insert [])
/-- no place twice -/
def Dist (ks : List Pk) : Prop := ks.Pairwise fun k l => k.x.a ≠ l.x.a
def Kint (l : Lit) : Prop := ∃ a, l = .int .i64 a
theorem kint : OneKind Kint := ⟨fun {_} h => by obtain ⟨a, rfl⟩ := h; trivial, fun {_ _} ha hb hne => by
  obtain ⟨x, rfl⟩ := ha
  obtain ⟨y, rfl⟩ := hb
  have : x ≠ y := fun e => hne (by rw [e])
  simp only [Lit.before, decide_eq_true_eq]
  omega⟩
theorem ent_keys (ks : List Pk) : Keys Kint (ks.map ent) := fun p hp => by
  obtain ⟨k, _, rfl⟩ := List.mem_map.1 hp
  exact ⟨_, rfl⟩
theorem ent_apart {ks : List Pk} (h : Dist ks) : (ks.map ent).Pairwise fun p q => p.1 ≠ q.1 := by
  rw [List.pairwise_map]
  exact h.imp fun {a b} hab e => hab (by simp [ent] at e; exact e)
theorem Dist.filter {ks : List Pk} (h : Dist ks) (f : Pk → Bool) : Dist (ks.filter f) := List.Pairwise.filter _ h
theorem same_int (a b : Int) : (Lit.int .i64 a).sameKey (.int .i64 b) = (a == b) := by
  rw [Bool.eq_iff_iff]
  simp [Lit.sameKey]
theorem size_mapOf (ks : List Pk) : Maps.size (mapOf ks) = ks.length := by simp [mapOf, Maps.size, length_sorted]
theorem mapOf_nil : mapOf [] = .map [] := rfl
theorem has_mapOf (ks : List Pk) (l : Lit) : Maps.has (mapOf ks) l = ks.any fun k => (Lit.int .i64 k.x.a).sameKey l := by
  rw [mapOf, has_eq, Bool.eq_iff_iff, List.any_eq_true, List.any_eq_true]
  constructor
  · rintro ⟨p, hp, h⟩
    obtain ⟨k, hk, rfl⟩ := List.mem_map.1 (mem_sorted.1 hp)
    exact ⟨k, hk, h⟩
  · rintro ⟨k, hk, h⟩
    exact ⟨ent k, mem_sorted.2 (List.mem_map.2 ⟨k, hk, rfl⟩), h⟩
theorem has_place (ks : List Pk) (a : Int) : Maps.has (mapOf ks) (.int .i64 a) = (findP ks a).isSome := by
  rw [has_mapOf, findP, Bool.eq_iff_iff, List.find?_isSome]
  simp [same_int]
theorem canon_mapOf {ks : List Pk} (h : Dist ks) : Canon (mapOf ks) :=
  ⟨_, rfl, Maps.sorted_sorted kint _ (ent_keys ks) (ent_apart h), fun p hp => by
    obtain ⟨k, _, rfl⟩ := List.mem_map.1 (mem_sorted.1 hp)
    trivial⟩
theorem at_mem {ks : List Pk} (h : Dist ks) {k : Pk} (hk : k ∈ ks) (z : DataW Value) : (mapOf ks).atKey (.int .i64 k.x.a) z = .held (.slice k.p k.x.b.length k.c) :=
  WideAt.atKey_mem z trivial (((Go.WideShapes.sorted_perm _).pairwise_iff (fun {_ _} hne => Ne.symm hne)).2 (ent_apart h)) (mem_sorted.2 (List.mem_map.2 ⟨k, hk, rfl⟩))
theorem at_none {ks : List Pk} {a : Int} (h : findP ks a = none) (z : DataW Value) : (mapOf ks).atKey (.int .i64 a) z = z :=
  atKey_of_not_has (by rw [has_place, h]; rfl) z
theorem findP_mem {ks : List Pk} {a : Int} {k : Pk} (h : findP ks a = some k) : k ∈ ks ∧ k.x.a = a := by
  refine ⟨List.mem_of_find?_eq_some h, ?_⟩
  have := List.find?_some h
  simpa using this
theorem findP_of {ks : List Pk} (hd : Dist ks) {k : Pk} (hk : k ∈ ks) : findP ks k.x.a = some k := by
  induction ks with
  | nil => cases hk
  | cons y l ih =>
    obtain ⟨h1, h2⟩ := List.pairwise_cons.1 hd
    rw [findP, List.find?_cons]
    rcases List.mem_cons.1 hk with rfl | hm
    · simp
    · have hne := h1 k hm
      rw [show (y.x.a == k.x.a) = false by simpa using hne]
      exact ih h2 hm
theorem at_place {ks : List Pk} (h : Dist ks) (a : Int) : (mapOf ks).atKey (.int .i64 a) (.held (.slice none 0 0)) = .held (.slice (atP ks a) (atX ks a).b.length (atC ks a)) := by
  cases hf : findP ks a with
  | none => rw [at_none hf]; simp [atP, atX, atC, hf, Pc.none]
  | some k =>
    obtain ⟨hk, rfl⟩ := findP_mem hf
    rw [at_mem h hk]; simp [atP, atX, atC, hf]
/-- one more, at a place that is none's -/
theorem put_new {ks : List Pk} (h : Dist ks) (k : Pk) (hn : findP ks k.x.a = none) : (mapOf ks).put (.int .i64 k.x.a) (.held (.slice k.p k.x.b.length k.c)) = mapOf (ks ++ [k]) ∧ Dist (ks ++ [k]) := by
  have hne : ∀ y ∈ ks, y.x.a ≠ k.x.a := fun y hy e => by
    rw [findP, List.find?_eq_none] at hn
    exact hn y hy (by simpa using e)
  have hd : Dist (ks ++ [k]) := List.pairwise_append.2 ⟨h, List.pairwise_singleton _ _, fun y hy z hz => by
    simp at hz
    subst hz
    exact hne y hy⟩
  refine ⟨?_, hd⟩
  rw [mapOf, mapOf, DataW.put_eq]
  congr 1
  refine (sorted_put kint ⟨_, rfl⟩ (ent_keys ks) (ent_apart h) ?_).symm
  rw [List.filter_eq_self.2, List.map_append]
  · exact List.perm_append_comm
  · intro p hp
    obtain ⟨y, hy, rfl⟩ := List.mem_map.1 hp
    rw [notKey_iff (by trivial)]
    intro e
    simp [ent] at e
    exact hne y hy e
/-- one less -/
theorem del_place {ks : List Pk} (h : Dist ks) (a : Int) : (mapOf ks).del (.int .i64 a) = mapOf (ks.filter fun k => k.x.a != a) := by
  rw [mapOf, mapOf, DataW.del_eq]
  congr 1
  refine (sorted_del kint (ent_keys ks) (ent_apart h) ?_).symm
  rw [List.filter_map]
  refine List.Perm.of_eq ?_
  congr 1
  apply List.filter_congr
  intro k _
  rw [Bool.eq_iff_iff]
  simp only [Function.comp]
  rw [notKey_iff (by trivial)]
  simp [ent]

/-- how many bytes have come -/
theorem sumB_strike {ks : List Pk} (h : Dist ks) {left : Lit → Bool} {k : Pk} (hk : k ∈ ks) (hl : left (.int .i64 k.x.a) = true) :
    sumB (ks.filter fun y => !(left (.int .i64 y.x.a) && !(Lit.int .i64 y.x.a).sameKey (.int .i64 k.x.a))) = sumB (ks.filter fun y => !left (.int .i64 y.x.a)) + k.x.b.length := by
  induction ks with
  | nil => cases hk
  | cons y l ih =>
    obtain ⟨h1, h2⟩ := List.pairwise_cons.1 h
    rcases List.mem_cons.1 hk with rfl | hm
    · have e1 : (l.filter fun y => !(left (.int .i64 y.x.a) && !(Lit.int .i64 y.x.a).sameKey (.int .i64 k.x.a))) = l.filter fun y => !left (.int .i64 y.x.a) := by
        apply List.filter_congr
        intro z hz
        rw [same_int, show (z.x.a == k.x.a) = false by simpa using (fun e => h1 z hz e.symm)]
        simp
      rw [List.filter_cons, List.filter_cons, e1, same_int]
      simp [hl, sumB]
      omega
    · have hne : (y.x.a == k.x.a) = false := by simpa using h1 k hm
      have := ih h2 hm
      rw [List.filter_cons, List.filter_cons, same_int, hne]
      cases left (.int .i64 y.x.a)
      · simp [sumB] at this ⊢; omega
      · simpa using this
theorem sumB_filter (ks : List Pk) (f : Pk → Bool) : sumB (ks.filter f) ≤ sumB ks := by
  induction ks with
  | nil => simp
  | cons y l ih =>
    rw [List.filter_cons]
    split <;> simp [sumB] <;> omega

/-- a map by places, of slices of bytes -/
abbrev Mp (w : World) (b n : Nat) (D : DataW Value) : Prop := w.ownsMap Try.prog 3 selfE b n D
theorem mpKeyed : Keyed Try.prog 3 := int_keyed Try.underlying3
theorem mpZero (w : World) : (zeroValue 23).run Try.prog w = .ok (.slice none 0 0) w := by kernel_rfl
theorem mpKey {a : Int} (h : (Lit.int .i64 a).wf = true) : keyOf Try.prog 3 (.int .i64 a) = some (.int .i64 a) := keyOf_int_mk Try.underlying3 h

/-- 'm[k]', with ok or without: what it yields -/
theorem mp_look {w : World} {b n : Nat} {ks : List Pk} (h : Mp w b n (mapOf ks)) (hd : Dist ks) (a : Int) (ha : (Lit.int .i64 a).wf = true) :
    (Instr.lookup 53 (.map (some b)) (.int .i64 a) true).run Try.prog w = .ok (.tuple #[.slice (atP ks a) (atX ks a).b.length (atC ks a), .bool (findP ks a).isSome]) w ∧
    (Instr.lookup 53 (.map (some b)) (.int .i64 a) false).run Try.prog w = .ok (.slice (atP ks a) (atX ks a).b.length (atC ks a)) w := by
  constructor
  · obtain ⟨v, ps, hr, hv⟩ := h.look_ok mpKeyed Try.underlying53 (mpZero w) (selfE_mk none 0 0) (mpKey ha)
    rw [at_place hd] at hv
    obtain ⟨p, m, c, rfl, he⟩ := selfE_inv hv
    simp at he
    obtain ⟨rfl, rfl, rfl⟩ := he.1
    rw [hr, has_place]
  · obtain ⟨v, ps, hr, hv⟩ := h.lookup mpKeyed Try.underlying53 (mpZero w) (selfE_mk none 0 0) (mpKey ha)
    rw [at_place hd] at hv
    obtain ⟨p, m, c, rfl, he⟩ := selfE_inv hv
    simp at he
    obtain ⟨rfl, rfl, rfl⟩ := he.1
    exact hr
/-- .. of no map -/
theorem mp_look_none (w : World) (a : Int) (ha : (Lit.int .i64 a).wf = true) :
    (Instr.lookup 53 (.map none) (.int .i64 a) true).run Try.prog w = .ok (.tuple #[.slice none 0 0, .bool false]) w ∧
    (Instr.lookup 53 (.map none) (.int .i64 a) false).run Try.prog w = .ok (.slice none 0 0) w :=
  ⟨look_nil true mpKeyed Try.underlying53 (mpZero w) (mpKey ha), look_nil false mpKeyed Try.underlying53 (mpZero w) (mpKey ha)⟩

/-- a map by places under way -/
abbrev Rg (w : World) (b r n : Nat) (D : DataW Value) (left : Lit → Bool) (cnt : Nat) : Prop := w.ranges Try.prog 3 selfE b r n D left cnt

/-- the step of a range over it -/
theorem wpList_next_mp {w : World} {ops : Array Oper} {rest : List Oper} {o : Oper} {a : Act} {Q : Exit → Act → World → Prop} (hg : o.guard = none) (it : Operand) (hop : o.op = Op.next it false)
    (b r n : Nat) (D : DataW Value) (left : Lit → Bool) (cnt : Nat) (hit : a.eval it = .pointer (some ⟨r, 0, none⟩)) (h : Rg w b r n D left cnt)
    (hDone : cnt = 0 → (∀ kl, left kl = false) → wpList Try.prog ops Q rest (a.put o.dst (.tuple #[.bool false])) w)
    (hMore : ∀ (x : Int) (p : Option Addr) (m c : Nat) (w' : World) (cnt' : Nat), (Lit.int .i64 x).wf = true → left (.int .i64 x) = true → (∀ zd, D.atKey (.int .i64 x) zd = .held (.slice p m c)) → Rg w' b r n D (fun z => left z && !z.sameKey (.int .i64 x)) cnt' → cnt' < cnt →
      w.grownBy w' (some r) → w'.heap.size = w.heap.size → (Instr.entry (.pointer (some ⟨r, 0, none⟩))).run Try.prog w' = .ok (.tuple #[.int .i64 x, .slice p m c]) w' → wpList Try.prog ops Q rest (a.put o.dst (.tuple #[.bool true, .int .i64 x, .slice p m c])) w') :
    wpList Try.prog ops Q (o :: rest) a w :=
  wpList_next_ranges w hg it hop 3 mpKeyed selfE (Value.int .i64) (fun q : Option Addr × Nat × Nat => Value.slice q.1 q.2.1 q.2.2) (fun key kl hkey => by obtain ⟨x, rfl, _⟩ := Maps.keyOf_int_inv Try.underlying3 hkey; exact ⟨x, rfl⟩) (fun v y hv => by obtain ⟨p, m, c, rfl, _⟩ := selfE_inv hv; exact ⟨(p, m, c), rfl⟩)
    b r n D left cnt hit h hDone (fun x c kl y w' cnt' hkey hlk hv hat hrg hlt hgr hsz hen => by
      obtain ⟨x', ex, rfl, hwx⟩ := Maps.keyOf_int_inv Try.underlying3 hkey
      cases ex
      obtain ⟨p, m, d, ec, rfl⟩ := selfE_inv hv
      cases ec
      exact hMore x c.1 c.2.1 c.2.2 w' cnt' hwx hlk hat hrg hlt hgr hsz hen)

end Go.Proofs.Ytecpnnnkkofejaa
