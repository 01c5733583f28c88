/-
  Several texts, joined: BN, TA, TB, TC, TD, TE.
-/
import Derived.Test.YtbmjlofehbbkbaaDoorJA

/- Integers (int): numbers that lie in memory, slices of them that are handed in, rows of the call's own, append, parts of a slice; arguments opened. -/
namespace Go.Proofs.YtbmjlofehbbkbaaDoor
open Go.ChangeShapes Go.WideShapes Go.ChangeAt Go.WideMaps Go.WideElems Go.RowKit

def i64s (l : List Int) : List Value := l.map (Value.int .i64)
theorem i64s_length (l : List Int) : (i64s l).length = l.length := by simp [i64s]
theorem i64s_at {l : List Int} {i : Nat} (h : i < l.length) : (i64s l)[i]? = some (.int .i64 (l.getD i 0)) := by simp [i64s, List.getD, h]
theorem i64s_append (a b : List Int) : i64s (a ++ b) = i64s a ++ i64s b := by simp [i64s]
theorem one_i64 (l : List Int) : ∀ u ∈ i64s l, u.oneCell' = true := by
  intro u hu
  obtain ⟨x, _, rfl⟩ := List.mem_map.1 hu
  rfl
theorem infoI64 : (Tryd.prog.info? 3).map (fun i => (i.zero, i.size, i.bytes)) = some (some (.int .i64 0), 1, 8) := by kernel_rfl

/-- numbers that are handed in: none, or an address -/
def II (w : World) (p : Option Addr) (xs : List Int) : Prop := xs = [] ∨ ∃ g o, p = some ⟨g, o, none⟩ ∧ ∀ i, i < xs.length → w.cell? ⟨g, o + i, none⟩ = some (.int .i64 (xs.getD i 0))
theorem II.kept {w w' : World} {p : Option Addr} {xs : List Int} (h : II w p xs) (hb : Below w.heap.size w w') : II w' p xs := by
  rcases h with h | ⟨g, o, rfl, h⟩
  · exact Or.inl h
  · exact Or.inr ⟨g, o, rfl, fun i hi => (hb.cell (block_lt_of_cell (h i hi))).trans (h i hi)⟩

/-- a slice of numbers that is handed in -/
def IPiece (w : World) (p : Option Addr) (c : Nat) (xs : List Int) : Prop := II w p xs ∧ (p = none → c = 0) ∧ xs.length ≤ c ∧ c ≤ maxLen
theorem IPiece.kept {w w' : World} {p : Option Addr} {c : Nat} {xs : List Int} (h : IPiece w p c xs) (hb : Below w.heap.size w w') : IPiece w' p c xs := ⟨h.1.kept hb, h.2⟩
theorem IPiece.cell {w : World} {p : Option Addr} {c : Nat} {xs : List Int} (h : IPiece w p c xs) (h0 : 0 < xs.length) : ∃ g o, p = some ⟨g, o, none⟩ ∧ ∀ i, i < xs.length → w.cell? ⟨g, o + i, none⟩ = some (.int .i64 (xs.getD i 0)) := by
  rcases h.1 with h1 | h1
  · subst h1; simp at h0
  · exact h1
theorem inil_piece (w : World) : IPiece w none 0 [] := ⟨Or.inl rfl, fun _ => rfl, Nat.le_refl _, Nat.zero_le _⟩

/-- a row of the call's own is numbers that may be handed on -/
theorem own_ipiece {w : World} {B : Nat} {v : Value} {l : List Int} (h : w.ownsRow B 3 1 v l.length (i64s l)) :
    ∃ p c, v = .slice p l.length c ∧ IPiece w p c l ∧ ∀ a, p = some a → B ≤ a.block := by
  by_cases hn : 0 < l.length
  · obtain ⟨g, cap, rfl, hB, hg, hc, hm⟩ := own_shape h hn
    exact ⟨_, cap, rfl, ⟨Or.inr ⟨g, 0, rfl, fun i hi => by rw [Nat.zero_add]; exact (h.cellAt i (by omega)).trans (i64s_at hi)⟩, (fun e => by cases e), hc, hm⟩, fun a ha => by cases ha; exact hB⟩
  · have h0 : l = [] := List.eq_nil_of_length_eq_zero (by omega)
    subst h0
    rcases h.2 with ⟨rfl, _⟩ | ⟨g, cap, cur, rfl, hB, hg, hnc, hcm, _⟩
    · exact ⟨none, 0, rfl, inil_piece w, fun a ha => by cases ha⟩
    · exact ⟨_, cap, rfl, ⟨Or.inl rfl, (fun e => by cases e), Nat.zero_le _, hcm⟩, fun a ha => by cases ha; exact hB⟩

/-- 'append(x, y...)': x a row of the call's own, y any numbers -/
theorem wpList_append_ints {w : World} {ops : Array Oper} {rest : List Oper} {o : Oper} {a : Act} {Q : Exit → Act → World → Prop} (hgd : o.guard = none) (s x : Operand)
    (ho : o.op = .call { callee := .builtin .append, args := #[s, x], argTypes := #[115, 115] })
    (B : Nat) (v : Value) (xs : List Int) (hs : a.eval s = v) (n : Nat) (hn : xs.length = n) (hown : w.ownsRow B 3 1 v n (i64s xs))
    (p : Option Addr) (m c : Nat) (ys : List Int) (hm : ys.length = m) (hx : a.eval x = .slice p m c) (hb : II w p ys) (hp : p = none → c = 0) (hsum : n + m ≤ 17592186044416) (hB : B ≤ w.heap.size)
    (h : ∀ v' w', w'.ownsRow B 3 1 v' (n + m) (i64s (xs ++ ys)) → w.grownBy w' v.ownBlock → wpList Tryd.prog ops Q rest (a.put o.dst v') w') :
    wpList Tryd.prog ops Q (o :: rest) a w := by
  obtain ⟨i0, hi, hz0, hz1, hz2⟩ := info_parts infoI64
  subst hm hn
  cases p with
  | none =>
    have e0 := hp rfl
    subst e0
    rcases hb with h0 | ⟨b, off, h0, _⟩
    · subst h0
      refine wpList_append_own_none hgd s x 115 ho B 3 i0 1 Tryd.underlying115 hi v _ _ hs hown hx ?_
      exact h v w (by simpa using hown) (grown_refl _ _)
    · cases h0
  | some ad =>
    refine wpList_append_own w hgd s x 115 ho B 3 i0 (.int .i64 0) 1 8 Tryd.underlying115 hi hz0 hz1 hz2 rfl (by decide) v _ _ hs hown ad ys.length c (i64s ys) hx (by simp [i64s]) ?_ (one_i64 _) ?_ (by omega) hB ?_
    · intro j u hj
      have hjn : j < ys.length := by
        have := (List.getElem?_eq_some_iff.1 hj).1
        simpa [i64s] using this
      rcases hb with h0 | ⟨b, off, h0, hcell⟩
      · subst h0; simp at hjn
      · cases h0
        rw [Addr.add_mid, hcell j hjn]
        rw [i64s_at hjn] at hj
        exact hj
    · unfold maxLen; omega
    · intro v' w' h1 h2 _
      exact h v' w' (by rw [i64s_append]; exact h1) h2

/-- a slice of numbers that is read -/
theorem ints_of {H : Type} {enc : TypeId × Value → H} {w : World} {fuel : Nat} {cs : List Value} {x : DataW H × List MemPlace}
    (h : DataW.trod enc Tryd.prog w 0 (fun _ => true) true fuel 115 cs = some x) : ∃ (p : Option Addr) (c : Nat) (xs : List Int), cs = [.slice p xs.length c] ∧ IPiece w p c xs := by
  rcases open_ints Tryd.underlying115 Tryd.underlying3 (by kernel_rfl) h with ⟨hcs, _⟩ | ⟨x, l, c, zs, hcs, _, hl, hm, hz, _, hcell, hwz⟩
  · exact ⟨none, 0, [], hcs, inil_piece w⟩
  · have hz' : zs.length = c := by simpa using hz
    have hlen : (zs.take l).length = l := by simp; omega
    refine ⟨some x, c, zs.take l, by rw [hlen]; exact hcs, ?_, fun h => (by cases h), by rw [hlen]; exact hl, hm⟩
    by_cases h0 : l = 0
    · left; simp [h0]
    · right
      obtain ⟨b, off, spot⟩ := x
      have hc := hcell 0 (by omega)
      have hspot : spot = none := by simpa [Addr.add] using World.cell?_spot hc
      subst hspot
      refine ⟨b, off, rfl, fun i hi => ?_⟩
      have hi' : i < l := by rw [hlen] at hi; exact hi
      have hiz : i < zs.length := by omega
      have := hcell i hiz
      rw [Addr.add_mid] at this
      rw [this]
      congr 2
      simp [List.getD, hi', hiz]

theorem size8 (w : World) : (Go.sizeOf 3).run Tryd.prog w = .ok 1 w := by
  obtain ⟨i0, hi, hz0, hz1, hz2⟩ := info_parts infoI64
  simp [Go.sizeOf, typeInfo, hi, hz1]

/-- 'x[l:]' -/
def cutI (p : Option Addr) (l cap : Nat) : Option Addr := if cap = l then p else p.map (·.add l)
theorem irun_to (w : World) (p : Option Addr) (n cap h : Nat) (hh : h ≤ cap) :
    (Instr.slice 115 (.slice p n cap) none (some (.int .i64 (h : Int))) none).run Tryd.prog w = .ok (.slice p h cap) w := by
  have ht' : Tryd.prog.underlying 115 = some (.slice (Tryd.prog.elem 115)) := by simp [Program.elem, Tryd.underlying115]
  have he : Tryd.prog.elem 115 = 3 := by simp [Program.elem, Tryd.underlying115]
  rw [run_slice_h w 115 _ _ _ ht' .i64 _ (by omega) (by omega), he, size8]
  have h0 : (fun x : Addr => x.add 0) = id := by funext x; simp [Addr.add]
  simp [Result.andThen, sliced, h0]
theorem irun_from (w : World) (p : Option Addr) (n cap l : Nat) (hl : l ≤ n) (_hn : n ≤ cap) :
    (Instr.slice 115 (.slice p n cap) (some (.int .i64 (l : Int))) none none).run Tryd.prog w = .ok (.slice (cutI p l cap) (n - l) (cap - l)) w := by
  have ht' : Tryd.prog.underlying 115 = some (.slice (Tryd.prog.elem 115)) := by simp [Program.elem, Tryd.underlying115]
  have he : Tryd.prog.elem 115 = 3 := by simp [Program.elem, Tryd.underlying115]
  rw [run_slice_l w 115 _ _ _ ht' .i64 _ (by omega) (by omega), he, size8]
  simp [Result.andThen, sliced, cutI]
theorem IPiece.take {w : World} {p : Option Addr} {c : Nat} {xs : List Int} (h : IPiece w p c xs) (a : Nat) : IPiece w p c (xs.take a) := by
  refine ⟨?_, h.2.1, Nat.le_trans (by simp; omega) h.2.2.1, h.2.2.2⟩
  rcases h.1 with h0 | ⟨g, o, hp, hc⟩
  · left; simp [h0]
  · exact Or.inr ⟨g, o, hp, fun i hi => by
      have hi' : i < a ∧ i < xs.length := by rw [List.length_take] at hi; omega
      rw [hc i hi'.2]
      simp [List.getD, hi'.1]⟩
theorem IPiece.from {w : World} {p : Option Addr} {c : Nat} {xs : List Int} (h : IPiece w p c xs) (l : Nat) (hl : l ≤ xs.length) : IPiece w (cutI p l c) (c - l) (xs.drop l) := by
  refine ⟨?_, fun e => ?_, by have := h.2.2.1; simp; omega, by have := h.2.2.2; omega⟩
  · have hc := h.2.2.1
    by_cases hl : xs.length ≤ l
    · exact Or.inl (List.drop_eq_nil_of_le hl)
    · rcases h.1 with h0 | ⟨b, o, rfl, hcl⟩
      · subst h0; simp at hl
      · refine Or.inr ⟨b, o + l, ?_, fun i hi => ?_⟩
        · simp [cutI, show c ≠ l by omega, Addr.add_mid]
        · have hi' : l + i < xs.length := by simp at hi; omega
          have := hcl (l + i) hi'
          rw [Nat.add_assoc, this]
          simp [List.getD]
  · cases p with
    | none => have := h.2.1 rfl; omega
    | some a => unfold cutI at e; split at e <;> simp at e

end Go.Proofs.YtbmjlofehbbkbaaDoor

/- Plain: numbers brought into bounds, meters, what they are behind samples. -/
namespace Go.Proofs.YtbmjlofehbbkbaaDoor
open Go.RowKit

/-- a number brought into bounds -/
def clF (lo hi n : Int) : Int := if hi < (if lo > n then lo else n) then hi else (if lo > n then lo else n)
theorem clF_in {lo hi n : Int} (h1 : lo ≤ n) (h2 : n ≤ hi) : clF lo hi n = n := by unfold clF; rw [if_neg (by omega : ¬ lo > n), if_neg (by omega)]
theorem clF_lo {lo hi n : Int} (h1 : n ≤ lo) (h2 : lo ≤ hi) : clF lo hi n = lo := by
  unfold clF
  by_cases h : lo > n
  · rw [if_pos h, if_neg (by omega)]
  · rw [if_neg h, if_neg (by omega)]; omega
theorem clF_hi {lo hi n : Int} (h1 : lo ≤ hi) (h2 : hi ≤ n) : clF lo hi n = hi := by
  unfold clF
  rw [if_neg (by omega : ¬ lo > n)]
  by_cases h : hi < n
  · rw [if_pos h]
  · rw [if_neg h]; omega
theorem clF_eq {lo hi n : Int} (h : lo ≤ hi) : clF lo hi n = n ↔ lo ≤ n ∧ n ≤ hi := by
  constructor
  · intro e
    unfold clF at e
    repeat' split at e
    all_goals omega
  · exact fun ⟨h1, h2⟩ => clF_in h1 h2

/-- a meter -/
structure Me where
  a : Int
  b : Int
  c : Int
def Me.none : Me := ⟨0, 0, 0⟩
abbrev Me.may (m : Me) : Prop := 0 ≤ m.a ∧ m.a ≤ 1073741824 ∧ 0 ≤ m.b ∧ m.b ≤ 480007 ∧ 0 ≤ m.c ∧ m.c ≤ 480007 ∧ (m.a = 0 → m.b = 0 ∧ m.c = 0)
/-- each number brought into its bounds -/
def Me.brought (m : Me) : Me := ⟨clF 0 1073741824 m.a, clF 0 480007 m.b, clF 0 480007 m.c⟩
theorem Me.brought_eq (m : Me) : m.brought = m ↔ 0 ≤ m.a ∧ m.a ≤ 1073741824 ∧ 0 ≤ m.b ∧ m.b ≤ 480007 ∧ 0 ≤ m.c ∧ m.c ≤ 480007 := by
  obtain ⟨a, b, c⟩ := m
  simp only [Me.brought, Me.mk.injEq]
  rw [clF_eq (by omega), clF_eq (by omega), clF_eq (by omega)]
  omega

abbrev Samp (s : Int) : Prop := 0 ≤ s ∧ s ≤ 60000

/-- how far off -/
def absF (d : Int) : Int := if -d > d then -d else d
/-- a meter behind one sample more -/
def Me.one (m : Me) (s : Int) : Me :=
  if m.a = 0 then ⟨1, 8 * s, 2 * s⟩
  else ⟨if m.a < 1073741824 then m.a + 1 else m.a, m.b + (s - m.b / 8), if 480007 < m.c - m.c / 4 + absF (s - m.b / 8) then 480007 else m.c - m.c / 4 + absF (s - m.b / 8)⟩

theorem Me.one_zero {m : Me} (h : m.a = 0) (s : Int) : m.one s = ⟨1, 8 * s, 2 * s⟩ := if_pos h
theorem Me.may_none {m : Me} (h : m.may) (h0 : m.a = 0) : m = Me.none := by
  obtain ⟨a, b, c⟩ := m
  obtain ⟨_, _, _, _, _, _, h7⟩ := h
  simp only at h0 h7
  obtain ⟨rfl, rfl⟩ := h7 h0
  subst h0
  rfl
/-- the program's way to it -/
theorem Me.one_brought {m : Me} {s : Int} (h : m.may) (hs : Samp s) (h0 : m.a ≠ 0) : (Me.mk (m.a + 1) (m.b + (s - m.b / 8)) (m.c - m.c / 4 + absF (s - m.b / 8))).brought = m.one s := by
  obtain ⟨h1, h2, h3, h4, h5, h6, _⟩ := h
  obtain ⟨s1, s2⟩ := hs
  unfold Me.one Me.brought
  rw [if_neg h0]
  simp only
  have hd : 0 ≤ absF (s - m.b / 8) := by unfold absF; split <;> omega
  congr 1
  · by_cases h : m.a < 1073741824
    · rw [if_pos h, clF_in (by omega) (by omega)]
    · rw [if_neg h, clF_hi (by omega) (by omega)]; omega
  · exact clF_in (by omega) (by omega)
  · by_cases h : 480007 < m.c - m.c / 4 + absF (s - m.b / 8)
    · rw [if_pos h, clF_hi (by omega) (by omega)]
    · rw [if_neg h, clF_in (by omega) (by omega)]
theorem Me.may_one {m : Me} {s : Int} (h : m.may) (hs : Samp s) : (m.one s).may ∧ 0 < (m.one s).a := by
  by_cases h0 : m.a = 0
  · rw [Me.one_zero h0]
    obtain ⟨s1, s2⟩ := hs
    refine ⟨⟨?_, ?_, ?_, ?_, ?_, ?_, ?_⟩, ?_⟩ <;> simp only <;> omega
  · have hb := Me.one_brought h hs h0
    have h' := h
    obtain ⟨h1, h2, h3, h4, h5, h6, _⟩ := h'
    have ha : 0 < (m.one s).a := by
      unfold Me.one
      rw [if_neg h0]
      simp only
      split <;> omega
    have hbb : (m.one s).brought = m.one s := by
      rw [← hb]
      have hcl : ∀ {lo hi n : Int}, lo ≤ hi → clF lo hi (clF lo hi n) = clF lo hi n := fun {lo hi n} hlh => clF_in (by unfold clF; repeat' split <;> omega) (by unfold clF; repeat' split <;> omega)
      simp only [Me.brought, Me.mk.injEq]
      exact ⟨hcl (by omega), hcl (by omega), hcl (by omega)⟩
    have := (Me.brought_eq _).1 hbb
    exact ⟨⟨this.1, this.2.1, this.2.2.1, this.2.2.2.1, this.2.2.2.2.1, this.2.2.2.2.2, fun e => by omega⟩, ha⟩

/-- a meter behind samples -/
def Me.all (m : Me) (l : List Int) : Me := l.foldl Me.one m
theorem Me.all_append (m : Me) (x y : List Int) : m.all (x ++ y) = (m.all x).all y := List.foldl_append
theorem Me.may_all : ∀ (l : List Int) {m : Me}, m.may → (∀ s ∈ l, Samp s) → (m.all l).may
  | [], _, h, _ => h
  | s :: l, _, h, hl => Me.may_all l (Me.may_one h (hl s (List.mem_cons_self ..))).1 fun x hx => hl x (List.mem_cons_of_mem _ hx)

theorem Me.all_take (m : Me) (l : List Int) (k : Nat) (h : k < l.length) : m.all (l.take (k + 1)) = (m.all (l.take k)).one (l.getD k 0) := by
  rw [List.take_add_one, Me.all_append]
  simp [Me.all, List.getD, h]

/-- what Hear tells -/
def hearM (m : Me) (l : List Int) : Me := if m.may ∧ ∀ s ∈ l, Samp s then m.all l else Me.none
def hearE (m : Me) (l : List Int) : Int := if m.may ∧ ∀ s ∈ l, Samp s then 0 else 2

def meanF (m : Me) : Int := if m.may then m.b / 8 else 0
def waitF (m : Me) : Int := if m.may ∧ m.a ≠ 0 then clF 50 1000 (m.b / 8 + m.c) else 1000

/-- a meter as it lies in memory -/
abbrev meC (m : Me) : List Value := [.int .i64 m.a, .int .i64 m.b, .int .i64 m.c]
abbrev meV (m : Me) : Value := .agg #[.int .i64 m.a, .int .i64 m.b, .int .i64 m.c]

end Go.Proofs.YtbmjlofehbbkbaaDoor

/- Walks: numbers brought into bounds, by a closure; meters held against each other; May, Mean. -/
namespace Go.Proofs.YtbmjlofehbbkbaaDoor
open Go.RowKit

theorem infoM : (Tryd.prog.info? 36).map (·.size) = some 3 := by kernel_rfl
theorem one_meC (m : Me) : (meC m).toArray.all (·.oneCell') = true := by simp [Value.oneCell']
theorem guardM (x y : Operand) (u v : Array Value) (w : World) : (eqGuard .eql 36 x y (.agg u) (.agg v)).run Tryd.prog w = .ok () w := by kernel_rfl

/-- meters held against each other -/
theorem run_eq_me (m n : Me) (w : World) : (Op.equalIn 10000 36 (meV m) (meV n)).run Tryd.prog w = .ok (decide (m.a = n.a ∧ m.b = n.b ∧ m.c = n.c)) w := by
  have hs : (Program.underlying Tryd.prog 36) = some (.struct (Tryd.prog.fieldsOf 36)) := by kernel_rfl
  obtain ⟨a, b, c⟩ := m
  obtain ⟨x, y, z⟩ := n
  have p1 : ∀ (a b c : Int), (Go.part 3 #[Value.int .i64 a, Value.int .i64 b, Value.int .i64 c] 0).run Tryd.prog w = .ok (.int .i64 a) w := fun a b c => by kernel_rfl
  have p2 : ∀ (a b c : Int), (Go.part 3 #[Value.int .i64 a, Value.int .i64 b, Value.int .i64 c] 1).run Tryd.prog w = .ok (.int .i64 b) w := fun a b c => by kernel_rfl
  have p3 : ∀ (a b c : Int), (Go.part 3 #[Value.int .i64 a, Value.int .i64 b, Value.int .i64 c] 2).run Tryd.prog w = .ok (.int .i64 c) w := fun a b c => by kernel_rfl
  rw [meV, meV, run_equalIn_agg w 9999 _ _ _ hs (by kernel_rfl)]
  simp only [Program.fieldsOf, Tryd.underlying36, Op.eqFields, Sem.run_bind, Sem.run_ite, Sem.run_pure, p1, p2, p3, Result.andThen_ok, run_equalIn_int w 9998 _ _ _ _ _ Tryd.underlying3, List.toList_toArray]
  by_cases h1 : a = x
  · subst h1
    by_cases h2 : b = y
    · subst h2
      by_cases h3 : c = z
      · subst h3; simp
      · have e : (c == z) = false := by simpa using h3
        simp [e, h3]
    · have e : (b == y) = false := by simpa using h2
      simp [e, h2]
  · have e : (a == x) = false := by simpa using h1
    simp [e, h1]

set_option maxHeartbeats 1000000 in
theorem cl_any (n lo hi : Int) (g h : Nat) (w : World) (c0 : w.cell? ⟨g, 0, none⟩ = some (.int .i64 lo)) (c1 : w.cell? ⟨h, 0, none⟩ = some (.int .i64 hi)) :
    Calls Tryd.prog 77 #[.int .i64 n, .pointer (some ⟨g, 0, none⟩), .pointer (some ⟨h, 0, none⟩)] w fun e w' => e = .returned (.int .i64 (clF lo hi n)) ∧ w' = w := by
  go_enter Tryd.func77, Tryd.ntmps77
  go_wp2
  all_goals
    go_ret
    refine ⟨ret_i64 ?_, rfl⟩
    unfold clF
    repeat' split
    all_goals first | omega | rfl

/-- what brings a number into bounds -/
def Wi (w : World) (v : Value) (lo hi : Int) : Prop :=
  ∃ g h : Nat, v = .func (.func 77) #[] #[.pointer (some ⟨g, 0, none⟩), .pointer (some ⟨h, 0, none⟩)] ∧ Arr w g 3 [.int .i64 lo] ∧ Arr w h 3 [.int .i64 hi]
theorem Wi.kept {w w' : World} {v : Value} {lo hi : Int} (h : Wi w v lo hi) (hb : Below w.heap.size w w') : Wi w' v lo hi := by
  obtain ⟨g, h, e, h1, h2⟩ := h
  exact ⟨g, h, e, h1.kept hb, h2.kept hb⟩

set_option maxHeartbeats 1000000 in
theorem within_any (lo hi : Int) (w : World) :
    Calls Tryd.prog 61 #[.int .i64 lo, .int .i64 hi] w fun e w' => ∃ v, e = .returned v ∧ Wi w' v lo hi ∧ Below w.heap.size w w' := by
  have A1 := hide (boxes w [Value.int .i64 lo] [Value.int .i64 hi] 3 3)
  go_enter Tryd.func61, Tryd.ntmps61
  go_wp2
  go_ret
  exact ⟨_, rfl, ⟨_, _, rfl, A1.out.1, A1.out.2.1⟩, A1.out.2.2⟩

theorem cl_wi {w : World} {v : Value} {lo hi : Int} (h : Wi w v lo hi) : ∃ g k : Nat, v = .func (.func 77) #[] #[.pointer (some ⟨g, 0, none⟩), .pointer (some ⟨k, 0, none⟩)] ∧
    ∀ (n : Int) (w' : World), Below w.heap.size w w' → Calls Tryd.prog 77 #[.int .i64 n, .pointer (some ⟨g, 0, none⟩), .pointer (some ⟨k, 0, none⟩)] w' fun e w'' => e = .returned (.int .i64 (clF lo hi n)) ∧ w'' = w' := by
  obtain ⟨g, k, e, h1, h2⟩ := h
  exact ⟨g, k, e, fun n w' hb => cl_any n lo hi g k w' ((h1.kept hb).cell 0) ((h2.kept hb).cell 0)⟩

/-- a meter that is handed in lies in a box of its own -/
theorem me_box (w : World) (m : Me) : Arr (w.alloc (Obj.cells #[Value.int .i64 m.a, Value.int .i64 m.b, Value.int .i64 m.c] 36)) w.heap.size 36 (meC m) ∧ Below w.heap.size w (w.alloc (Obj.cells #[Value.int .i64 m.a, Value.int .i64 m.b, Value.int .i64 m.c] 36)) := ⟨Arr.new w _ _, (Below.refl _ _).alloc (Nat.le_refl _) _⟩
/-- .. and one for what is told -/
theorem me_boxes (w : World) (m : Me) : Arr ((w.alloc (Obj.cells #[Value.int .i64 m.a, Value.int .i64 m.b, Value.int .i64 m.c] 36)).alloc (Obj.cells #[Value.int .i64 0, Value.int .i64 0, Value.int .i64 0] 36)) w.heap.size 36 (meC m) ∧ Arr ((w.alloc (Obj.cells #[Value.int .i64 m.a, Value.int .i64 m.b, Value.int .i64 m.c] 36)).alloc (Obj.cells #[Value.int .i64 0, Value.int .i64 0, Value.int .i64 0] 36)) (w.heap.size + 1) 36 (meC Me.none) ∧ Below w.heap.size w ((w.alloc (Obj.cells #[Value.int .i64 m.a, Value.int .i64 m.b, Value.int .i64 m.c] 36)).alloc (Obj.cells #[Value.int .i64 0, Value.int .i64 0, Value.int .i64 0] 36)) :=
  boxes w (meC m) (meC Me.none) 36 36

theorem built_me (m : Me) : Tryd.prog.built 36 [(0, .int .i64 m.a), (1, .int .i64 m.b), (2, .int .i64 m.c)] = some (meC m).toArray := by kernel_rfl

set_option maxHeartbeats 4000000 in
set_option maxRecDepth 100000 in
theorem brought_any (m : Me) (w : World) :
    Calls Tryd.prog 76 #[meV m] w fun e w' => e = .returned (meV m.brought) ∧ Below w.heap.size w w' := by
  have A1 := hide (me_boxes w m)
  have HW := hide (fun (lo hi : Int) (v : World) => within_any lo hi v)
  have HB := hide (built_me m.brought)
  have e0 : Hid (m.brought.a = clF 0 1073741824 m.a ∧ m.brought.b = clF 0 480007 m.b ∧ m.brought.c = clF 0 480007 m.c) := ⟨rfl, rfl, rfl⟩
  go_enter Tryd.func76, Tryd.ntmps76
  go_upto_region 1 with fail
  generalize (w.alloc (Obj.cells #[Value.int .i64 m.a, Value.int .i64 m.b, Value.int .i64 m.c] 36)).alloc (Obj.cells #[Value.int .i64 0, Value.int .i64 0, Value.int .i64 0] 36) = w1 at *
  go_wp2_with fail
  refine (HW.out 0 1073741824 w1).mono ?_
  rintro e w2 ⟨v1, rfl, hv1, hb2⟩
  have A2 : Hid (Arr w2 w.heap.size 36 (meC m) ∧ Arr w2 (w.heap.size + 1) 36 (meC Me.none) ∧ Wi w2 v1 0 1073741824 ∧ Below w.heap.size w w2) := ⟨A1.out.1.kept hb2, A1.out.2.1.kept hb2, hv1, A1.out.2.2.trans (hb2.mono A1.out.2.2.size)⟩
  clear hb2 hv1 A1
  go_wp2_with fail
  refine (HW.out 0 480007 w2).mono ?_
  rintro e w3 ⟨v2, rfl, hv2, hb3⟩
  have A3 : Hid (Arr w3 w.heap.size 36 (meC m) ∧ Arr w3 (w.heap.size + 1) 36 (meC Me.none) ∧ Wi w3 v1 0 1073741824 ∧ Wi w3 v2 0 480007 ∧ Below w.heap.size w w3) := ⟨A2.out.1.kept hb3, A2.out.2.1.kept hb3, A2.out.2.2.1.kept hb3, hv2, A2.out.2.2.2.trans (hb3.mono A2.out.2.2.2.size)⟩
  clear hb3 hv2 A2
  obtain ⟨g1, k1, rfl, C1'⟩ := cl_wi A3.out.2.2.1
  obtain ⟨g2, k2, rfl, C2'⟩ := cl_wi A3.out.2.2.2.1
  have C1 := hide (C1' m.a w3.drew (Below.refl _ _).drew)
  have C2 := hide (C2' m.b w3.drew (Below.refl _ _).drew)
  have C3 := hide (C2' m.c w3.drew (Below.refl _ _).drew)
  clear C1' C2'
  have c0 := A3.out.1.cell 0
  have c1 := A3.out.1.cell 1
  have c2 := A3.out.1.cell 2
  simp only [List.getElem?_cons_zero, List.getElem?_cons_succ] at c0 c1 c2
  go_upto_region 2 with fail
  refine wp_region_late (S := fun v => Hid (v = w3.drew)) [13] (by kernel_rfl) (hide rfl) (fun hHeld => ?_)
  refine take_dstT (i := 0) (d := 7) (v := ?_) rfl rfl (by kernel_rfl) (by kernel_rfl) (by kernel_rfl) (by kernel_rfl) (fun _ _ _ h => h) (by rfl) hHeld ?_ ?_
  rotate_left
  · intro wZ hSw; clear hSw; go_simp; first | (with_reducible rfl) | (rw [if_pos (by omega)]; with_reducible rfl) | skip
  try simp only [Act.put, List.setIfInBounds_toArray, List.set_cons_zero, List.set_cons_succ]
  refine take_dstT (i := 1) (d := 8) (v := ?_) rfl rfl (by kernel_rfl) (by kernel_rfl) (by kernel_rfl) (by kernel_rfl) (fun _ _ _ h => h) (by rfl) hHeld ?_ ?_
  rotate_left
  · intro wZ hSw; clear hSw; go_simp; first | (with_reducible rfl) | (rw [if_pos (by omega)]; with_reducible rfl) | skip
  try simp only [Act.put, List.setIfInBounds_toArray, List.set_cons_zero, List.set_cons_succ]
  refine take_dstT (i := 2) (d := 9) (v := ?_) rfl rfl (by kernel_rfl) (by kernel_rfl) (by kernel_rfl) (by kernel_rfl) (fun _ _ _ h => h) (by rfl) hHeld ?_ ?_
  rotate_left
  · intro wZ hSw; have hfS := (fun (v : World) (hv : Hid (v = w3.drew)) => show v.cell? ⟨w.heap.size, 0, none⟩ = some (.int .i64 m.a) from by rw [hv.out]; exact c0) wZ hSw; clear hSw; go_simp; first | (with_reducible rfl) | (rw [if_pos (by omega)]; with_reducible rfl) | skip
  try simp only [Act.put, List.setIfInBounds_toArray, List.set_cons_zero, List.set_cons_succ]
  refine take_dstT (i := 4) (d := 11) (v := ?_) rfl rfl (by kernel_rfl) (by kernel_rfl) (by kernel_rfl) (by kernel_rfl) (fun _ _ _ h => h) (by rfl) hHeld ?_ ?_
  rotate_left
  · intro wZ hSw; clear hSw; go_simp; first | (with_reducible rfl) | (rw [if_pos (by omega)]; with_reducible rfl) | skip
  try simp only [Act.put, List.setIfInBounds_toArray, List.set_cons_zero, List.set_cons_succ]
  refine take_dstT (i := 5) (d := 12) (v := ?_) rfl rfl (by kernel_rfl) (by kernel_rfl) (by kernel_rfl) (by kernel_rfl) (fun _ _ _ h => h) (by rfl) hHeld ?_ ?_
  rotate_left
  · intro wZ hSw; clear hSw; go_simp; first | (with_reducible rfl) | (rw [if_pos (by omega)]; with_reducible rfl) | skip
  try simp only [Act.put, List.setIfInBounds_toArray, List.set_cons_zero, List.set_cons_succ]
  refine take_dstT (i := 6) (d := 13) (v := ?_) rfl rfl (by kernel_rfl) (by kernel_rfl) (by kernel_rfl) (by kernel_rfl) (fun _ _ _ h => h) (by rfl) hHeld ?_ ?_
  rotate_left
  · intro wZ hSw; have hfS := (fun (v : World) (hv : Hid (v = w3.drew)) => show v.cell? ⟨w.heap.size, 1, none⟩ = some (.int .i64 m.b) from by rw [hv.out]; exact c1) wZ hSw; clear hSw; go_simp; first | (with_reducible rfl) | (rw [if_pos (by omega)]; with_reducible rfl) | skip
  try simp only [Act.put, List.setIfInBounds_toArray, List.set_cons_zero, List.set_cons_succ]
  refine take_dstT (i := 8) (d := 15) (v := ?_) rfl rfl (by kernel_rfl) (by kernel_rfl) (by kernel_rfl) (by kernel_rfl) (fun _ _ _ h => h) (by rfl) hHeld ?_ ?_
  rotate_left
  · intro wZ hSw; clear hSw; go_simp; first | (with_reducible rfl) | (rw [if_pos (by omega)]; with_reducible rfl) | skip
  try simp only [Act.put, List.setIfInBounds_toArray, List.set_cons_zero, List.set_cons_succ]
  refine take_dstT (i := 9) (d := 16) (v := ?_) rfl rfl (by kernel_rfl) (by kernel_rfl) (by kernel_rfl) (by kernel_rfl) (fun _ _ _ h => h) (by rfl) hHeld ?_ ?_
  rotate_left
  · intro wZ hSw; clear hSw; go_simp; first | (with_reducible rfl) | (rw [if_pos (by omega)]; with_reducible rfl) | skip
  try simp only [Act.put, List.setIfInBounds_toArray, List.set_cons_zero, List.set_cons_succ]
  refine take_dstT (i := 10) (d := 17) (v := ?_) rfl rfl (by kernel_rfl) (by kernel_rfl) (by kernel_rfl) (by kernel_rfl) (fun _ _ _ h => h) (by rfl) hHeld ?_ ?_
  rotate_left
  · intro wZ hSw; have hfS := (fun (v : World) (hv : Hid (v = w3.drew)) => show v.cell? ⟨w.heap.size, 2, none⟩ = some (.int .i64 m.c) from by rw [hv.out]; exact c2) wZ hSw; clear hSw; go_simp; first | (with_reducible rfl) | (rw [if_pos (by omega)]; with_reducible rfl) | skip
  try simp only [Act.put, List.setIfInBounds_toArray, List.set_cons_zero, List.set_cons_succ]
  refine wpAnyT_ready (rs := [3]) (by kernel_rfl) (by simp) ?_
  refine (AllReadyT.cons rfl (fun K hK => ?_) AllReadyT.nil)
  go_simp
  (refine Calls.mono C1.out ?_; rintro e wa ⟨rfl, rfl⟩)
  go_wp2_with fail
  refine hK.out _ _ ?_ (fun hHeld => ?_)
  · exact hide rfl
  clear hK K
  try simp only [Act.put, List.setIfInBounds_toArray, List.set_cons_zero, List.set_cons_succ]
  refine wpAnyT_ready (rs := [7]) (by kernel_rfl) (by simp) ?_
  refine (AllReadyT.cons rfl (fun K hK => ?_) AllReadyT.nil)
  go_simp
  (refine Calls.mono C2.out ?_; rintro e wa ⟨rfl, rfl⟩)
  go_wp2_with fail
  refine hK.out _ _ ?_ (fun hHeld => ?_)
  · exact hide rfl
  clear hK K
  try simp only [Act.put, List.setIfInBounds_toArray, List.set_cons_zero, List.set_cons_succ]
  refine wpAnyT_ready (rs := [11]) (by kernel_rfl) (by simp) ?_
  refine (AllReadyT.cons rfl (fun K hK => ?_) AllReadyT.nil)
  go_simp
  (refine Calls.mono C3.out ?_; rintro e wa ⟨rfl, rfl⟩)
  go_wp2_with fail
  refine hK.out _ _ ?_ (fun hHeld => ?_)
  · exact hide rfl
  clear hK K
  try simp only [Act.put, List.setIfInBounds_toArray, List.set_cons_zero, List.set_cons_succ]
  refine take_dstT (i := 12) (d := 19) (v := ?_) rfl rfl (by kernel_rfl) (by kernel_rfl) (by kernel_rfl) (by kernel_rfl) (fun _ _ _ h => h) (by rfl) hHeld ?_ ?_
  rotate_left
  · intro wZ hSw; clear hSw; go_simp; first | (with_reducible rfl) | (rw [if_pos (by omega)]; with_reducible rfl) | skip
  try simp only [Act.put, List.setIfInBounds_toArray, List.set_cons_zero, List.set_cons_succ]
  refine wpAnyT_ready (rs := [13]) (by kernel_rfl) (by simp) ?_
  refine (AllReadyT.last rfl (by decide) (fun K hK => ?_) AllReadyT.nil)
  refine wp_store_dst rfl 36 (.tmp 2) (.tmp 19) rfl (w.heap.size + 1) (meC m.brought).toArray rfl rfl 36 _ A3.out.2.1 infoM rfl (one_meC _) ?_
  refine hK.out _ _ ?_
  clear hK K
  try simp only [Act.put, List.setIfInBounds_toArray, List.set_cons_zero, List.set_cons_succ]
  refine wpAnyT_done (by kernel_rfl) ?_ _
  go_wp2
  exact bodyPost_ret (v := meV m.brought) (results_cell_row Tryd.results76 _ _ (w.heap.size + 1) 36 _ (0, 0) _ rfl (A3.out.2.1.row _) Tryd.underlying36 rfl infoM) rfl ⟨rfl, below_setRow A3.out.2.2.2.2.drew (Nat.le_succ _) A3.out.2.1.lt _⟩

theorem may_zeroF {m : Me} (h : m.a = 0) : decide m.may = decide (m.a = Me.none.a ∧ m.b = Me.none.b ∧ m.c = Me.none.c) := by
  refine decide_eq_decide.2 ⟨fun hm => ?_, fun ⟨h1, h2, h3⟩ => ?_⟩
  · rw [Me.may_none hm h]; exact ⟨rfl, rfl, rfl⟩
  · obtain ⟨a, b, c⟩ := m
    simp only [Me.none] at h1 h2 h3
    subst h1 h2 h3
    decide
theorem may_zeroF' {m : Me} (h : m.may) : decide (m.a = 0) = decide (m.a = Me.none.a ∧ m.b = Me.none.b ∧ m.c = Me.none.c) :=
  decide_eq_decide.2 ⟨fun h0 => ⟨h0, h.2.2.2.2.2.2 h0⟩, fun h1 => h1.1⟩
theorem may_moreF {m : Me} (h : m.a ≠ 0) : decide m.may = decide (m.a = m.brought.a ∧ m.b = m.brought.b ∧ m.c = m.brought.c) := by
  refine decide_eq_decide.2 ⟨fun hm => ?_, fun h1 => ?_⟩
  · have := (Me.brought_eq m).2 ⟨hm.1, hm.2.1, hm.2.2.1, hm.2.2.2.1, hm.2.2.2.2.1, hm.2.2.2.2.2.1⟩
    rw [this]; exact ⟨rfl, rfl, rfl⟩
  · have e : m.brought = m := by
      obtain ⟨a, b, c⟩ := m
      obtain ⟨h1, h2, h3⟩ := h1
      simp only [Me.brought] at h1 h2 h3 ⊢
      rw [← h1, ← h2, ← h3]
    have := (Me.brought_eq m).1 e
    exact ⟨this.1, this.2.1, this.2.2.1, this.2.2.2.1, this.2.2.2.2.1, this.2.2.2.2.2, fun h0 => (h h0).elim⟩

set_option maxHeartbeats 4000000 in
set_option maxRecDepth 100000 in
theorem may_any (m : Me) (w : World) :
    Calls Tryd.prog 60 #[meV m] w fun e w' => e = .returned (.bool (decide m.may)) ∧ Below w.heap.size w w' := by
  have A1 := hide (me_box w m)
  by_cases h0 : m.a = 0
  · have HE := hide (fun v : World => run_eq_me m Me.none v)
    rw [← may_zeroF h0] at HE
    generalize decide m.may = r at *
    have h0' : (m.a == 0) = true := by simpa using h0
    clear h0
    have c0 := A1.out.1.cell 0
    simp only [List.getElem?_cons_zero] at c0
    go_enter Tryd.func60, Tryd.ntmps60
    go_upto_region 1 with fail
    generalize w.alloc (Obj.cells #[Value.int .i64 m.a, Value.int .i64 m.b, Value.int .i64 m.c] 36) = w1 at *
    go_wp2_with (first
      | (refine wpList_exec (by rfl) _ (exec_load_all 36 (.tmp 1) rfl w.heap.size rfl 36 (meC m) _ A1.out.1 Tryd.underlying36 rfl infoM) ?_)
      | (refine wpList_exec (by rfl) _ (exec_eql_agg 36 36 (.tmp 6) (.tmp 7) rfl (meC m).toArray (meC Me.none).toArray rfl rfl r (guardM _ _ _ _ _) (HE.out _)) ?_))
    go_ret
    exact ⟨rfl, A1.out.2⟩
  · have HE := hide (fun v : World => run_eq_me m m.brought v)
    rw [← may_moreF h0] at HE
    have HB := hide (fun v : World => brought_any m v)
    generalize decide m.may = r at *
    generalize m.brought = mb at *
    have h0' : (m.a == 0) = false := by simpa using h0
    clear h0
    have c0 := A1.out.1.cell 0
    simp only [List.getElem?_cons_zero] at c0
    go_enter Tryd.func60, Tryd.ntmps60
    go_upto_region 1 with fail
    generalize w.alloc (Obj.cells #[Value.int .i64 m.a, Value.int .i64 m.b, Value.int .i64 m.c] 36) = w1 at *
    go_upto_region 3 with fail
    refine wp_region_held_drew (S := fun v => Hid (Arr v w.heap.size 36 (meC m) ∧ Below w.heap.size w v)) (by kernel_rfl) (hide ⟨A1.out.1, A1.out.2.drew⟩) (fun hHeld => ?_)
    refine take_dstH (i := 0) (d := 9) (v := ?_) rfl rfl (by kernel_rfl) (by kernel_rfl) (by kernel_rfl) (fun _ _ _ h => h) (by rfl) hHeld ?_ ?_
    rotate_left
    · intro wZ hSw; refine exec_load_all 36 (.tmp 1) ?_ w.heap.size ?_ 36 (meC m) _ (Hid.out hSw).1 Tryd.underlying36 rfl infoM <;> rfl
    try simp only [Act.put, List.setIfInBounds_toArray, List.set_cons_zero, List.set_cons_succ]
    refine take_dstH (i := 1) (d := 10) (v := ?_) rfl rfl (by kernel_rfl) (by kernel_rfl) (by kernel_rfl) (fun _ _ _ h => h) (by rfl) hHeld ?_ ?_
    rotate_left
    · intro wZ hSw; refine exec_load_all 36 (.tmp 1) ?_ w.heap.size ?_ 36 (meC m) _ (Hid.out hSw).1 Tryd.underlying36 rfl infoM <;> rfl
    try simp only [Act.put, List.setIfInBounds_toArray, List.set_cons_zero, List.set_cons_succ]
    refine wpAnyH_ready (rs := [2]) (by kernel_rfl) (by simp) ?_
    refine (AllReadyH.cons rfl (fun K hK => ?_) AllReadyH.nil)
    go_simp
    refine (HB.out _).mono ?_; rintro e wa ⟨rfl, hba⟩; have HK : Hid (Arr wa w.heap.size 36 (meC m) ∧ Below w.heap.size w wa) := ⟨(Hid.out hHeld).1.kept hba, (Hid.out hHeld).2.trans (hba.mono (Hid.out hHeld).2.size)⟩; clear hba
    go_wp2_with fail
    refine hK.out _ _ ?_ (fun hHeld => ?_)
    · exact HK
    clear hK K
    try simp only [Act.put, List.setIfInBounds_toArray, List.set_cons_zero, List.set_cons_succ]
    refine take_dstH (i := 3) (d := 12) (v := ?_) rfl rfl (by kernel_rfl) (by kernel_rfl) (by kernel_rfl) (fun _ _ _ h => h) (by rfl) hHeld ?_ ?_
    rotate_left
    · intro wZ hSw; refine exec_eql_agg 36 36 (.tmp 9) (.tmp 11) ?_ (meC m).toArray (meC mb).toArray ?_ ?_ r (guardM _ _ _ _ _) (HE.out wZ) <;> rfl
    try simp only [Act.put, List.setIfInBounds_toArray, List.set_cons_zero, List.set_cons_succ]
    refine take_dstH (i := 4) (d := 2) (v := ?_) rfl rfl (by kernel_rfl) (by kernel_rfl) (by kernel_rfl) (fun _ _ _ h => h) (by rfl) hHeld ?_ ?_
    rotate_left
    · intro wZ hSw; clear hSw; go_simp; first | (with_reducible rfl) | (rw [if_pos (by omega)]; with_reducible rfl) | skip
    try simp only [Act.put, List.setIfInBounds_toArray, List.set_cons_zero, List.set_cons_succ]
    refine wpAnyH_done (by kernel_rfl) ?_ _
    go_wp2
    go_ret
    exact ⟨rfl, hHeld.out.2⟩

/-- rounding down and rounding to nought are one for what is not negative -/
theorem tdiv_pos {x k : Int} (h : 0 ≤ x) : Int.tdiv x k = x / k := Int.tdiv_eq_ediv_of_nonneg h


end Go.Proofs.YtbmjlofehbbkbaaDoor

/- Walks: Wait; a meter behind one sample; Hear. -/
namespace Go.Proofs.YtbmjlofehbbkbaaDoor
open Go.RowKit


set_option maxHeartbeats 4000000 in
set_option maxRecDepth 100000 in
theorem behind_first (m : Me) (s : Int) (w : World) (hm : m.may) (h0 : m.a = 0) (hs : Samp s) :
    Calls Tryd.prog 62 #[meV m, .int .i64 s] w fun e w' => e = .returned (meV (m.one s)) ∧ Below w.heap.size w w' := by
  have A1 := hide (me_boxes w m)
  have HE := hide (fun v : World => run_eq_me m Me.none v)
  rw [← may_zeroF' hm, decide_eq_true h0] at HE
  rw [Me.one_zero h0]
  obtain ⟨hs1, hs2⟩ := hs
  clear hm h0
  go_enter Tryd.func62, Tryd.ntmps62
  go_upto_region 1 with fail
  generalize (w.alloc (Obj.cells #[Value.int .i64 m.a, Value.int .i64 m.b, Value.int .i64 m.c] 36)).alloc (Obj.cells #[Value.int .i64 0, Value.int .i64 0, Value.int .i64 0] 36) = w1 at *
  go_upto_region 2 with (first
    | (refine wpList_exec (by rfl) _ (exec_load_all 36 (.tmp 2) rfl w.heap.size rfl 36 (meC m) _ A1.out.1 Tryd.underlying36 rfl infoM) ?_)
    | (refine wpList_exec (by rfl) _ (exec_eql_agg 36 36 (.tmp 6) (.tmp 7) rfl (meC m).toArray (meC Me.none).toArray rfl rfl true (guardM _ _ _ _ _) (HE.out _)) ?_))
  go_wp2_with (refine wpList_store_row rfl 36 _ _ rfl (w.heap.size + 1) (meC ⟨1, 8 * s, 2 * s⟩).toArray rfl rfl 36 (meC Me.none).toArray A1.out.2.1 infoM rfl (one_meC _) ?_)
  exact bodyPost_ret (v := meV ⟨1, 8 * s, 2 * s⟩) (results_cell_row Tryd.results62 _ _ (w.heap.size + 1) 36 _ (0, 0) _ rfl (A1.out.2.1.row _) Tryd.underlying36 rfl infoM) rfl ⟨rfl, below_setRow A1.out.2.2 (Nat.le_succ _) A1.out.2.1.lt _⟩

set_option maxHeartbeats 4000000 in
set_option maxRecDepth 100000 in
theorem behind_more (m r : Me) (s q8 q4 : Int) (w : World) (e8 : Int.tdiv m.b 8 = q8) (e4 : Int.tdiv m.c 4 = q4) (b8 : 0 ≤ q8 ∧ q8 ≤ 60000) (b4 : 0 ≤ q4 ∧ q4 ≤ m.c) (hs : 0 ≤ s ∧ s ≤ 60000) (ba : 0 ≤ m.a ∧ m.a ≤ 1073741824) (bb : 0 ≤ m.b ∧ m.b ≤ 480007) (bc : 0 ≤ m.c ∧ m.c ≤ 480007)
    (hE : ∀ v : World, (Op.equalIn 10000 36 (meV m) (meV Me.none)).run Tryd.prog v = .ok false v)
    (hr : (Me.mk (m.a + 1) (m.b + (s - q8)) (m.c - q4 + absF (s - q8))).brought = r) :
    Calls Tryd.prog 62 #[meV m, .int .i64 s] w fun e w' => e = .returned (meV r) ∧ Below w.heap.size w w' := by
  have A1 := hide (me_boxes w m)
  have HE := hide hE
  have HR := hide hr
  have HB := hide (fun (x : Me) (v : World) => brought_any x v)
  have w8 : wrap64 q8 = q8 := by unfold wrap64; omega
  have w4 : wrap64 q4 = q4 := by unfold wrap64; omega
  clear hE hr
  have c0 := A1.out.1.cell 0
  have c1 := A1.out.1.cell 1
  have c2 := A1.out.1.cell 2
  simp only [List.getElem?_cons_zero, List.getElem?_cons_succ] at c0 c1 c2
  obtain ⟨b8, b8'⟩ := b8
  obtain ⟨b4, b4'⟩ := b4
  obtain ⟨hs, hs'⟩ := hs
  obtain ⟨ba, ba'⟩ := ba
  obtain ⟨bb, bb'⟩ := bb
  obtain ⟨bc, bc'⟩ := bc
  go_enter Tryd.func62, Tryd.ntmps62
  go_upto_region 1 with fail
  generalize (w.alloc (Obj.cells #[Value.int .i64 m.a, Value.int .i64 m.b, Value.int .i64 m.c] 36)).alloc (Obj.cells #[Value.int .i64 0, Value.int .i64 0, Value.int .i64 0] 36) = w1 at *
  go_upto_region 3 with (first
    | (refine wpList_exec (by rfl) _ (exec_load_all 36 (.tmp 2) rfl w.heap.size rfl 36 (meC m) _ A1.out.1 Tryd.underlying36 rfl infoM) ?_)
    | (refine wpList_exec (by rfl) _ (exec_eql_agg 36 36 (.tmp 6) (.tmp 7) rfl (meC m).toArray (meC Me.none).toArray rfl rfl false (guardM _ _ _ _ _) (HE.out _)) ?_))
  go_wp2_with fail
  all_goals
    rename_i hd
    have HQ := hide HR.out
    simp only [absF] at HQ
    first
      | (rw [if_neg (by omega)] at HQ; refine (HB.out ⟨m.a + 1, m.b + (s - q8), m.c - q4 + (s - q8)⟩ w1).mono ?_)
      | (rw [if_pos (by omega)] at HQ; refine (HB.out ⟨m.a + 1, m.b + (s - q8), m.c - q4 + -(s - q8)⟩ w1).mono ?_)
    rintro e w2 ⟨rfl, hb⟩
    rw [HQ.out]
    have A2 : Hid (Arr w2 (w.heap.size + 1) 36 (meC Me.none) ∧ Below w.heap.size w w2) := ⟨A1.out.2.1.kept hb, A1.out.2.2.trans (hb.mono A1.out.2.2.size)⟩
    clear hb A1 c0 c1 c2
    go_wp2_with (refine wpList_store_row rfl 36 _ _ rfl (w.heap.size + 1) (meC r).toArray rfl rfl 36 (meC Me.none).toArray A2.out.1 infoM rfl (one_meC _) ?_)
    exact bodyPost_ret (v := meV r) (results_cell_row Tryd.results62 _ _ (w.heap.size + 1) 36 _ (0, 0) _ rfl (A2.out.1.row _) Tryd.underlying36 rfl infoM) rfl ⟨rfl, below_setRow A2.out.2 (Nat.le_succ _) A2.out.1.lt _⟩

theorem behind_any (m : Me) (s : Int) (w : World) (hm : m.may) (hs : Samp s) :
    Calls Tryd.prog 62 #[meV m, .int .i64 s] w fun e w' => e = .returned (meV (m.one s)) ∧ Below w.heap.size w w' := by
  by_cases h0 : m.a = 0
  · exact behind_first m s w hm h0 hs
  · obtain ⟨h1, h2, h3, h4, h5, h6, _⟩ := id hm
    refine behind_more m _ s (m.b / 8) (m.c / 4) w (tdiv_pos h3) (tdiv_pos h5) ⟨by omega, by omega⟩ ⟨by omega, by omega⟩ hs ⟨h1, h2⟩ ⟨h3, h4⟩ ⟨h5, h6⟩ (fun v => ?_) (Me.one_brought hm hs h0)
    have := run_eq_me m Me.none v
    rw [← may_zeroF' hm, decide_eq_false h0] at this
    exact this

end Go.Proofs.YtbmjlofehbbkbaaDoor

/- Walks: Hear. -/
namespace Go.Proofs.YtbmjlofehbbkbaaDoor
open Go.RowKit

set_option maxHeartbeats 4000000 in
set_option maxRecDepth 100000 in
theorem hear_arg (m : Me) (v : Value) (w : World) (hm : ¬ m.may) :
    Calls Tryd.prog 46 #[meV m, v] w fun e w' => e = .returned (.tuple #[meV Me.none, .int .i64 2]) ∧ Below w.heap.size w w' := by
  have A1 := hide (me_boxes w m)
  have HM := hide (fun v : World => may_any m v)
  rw [decide_eq_false hm] at HM
  clear hm
  go_enter Tryd.func46, Tryd.ntmps46
  go_upto_region 1 with fail
  generalize (w.alloc (Obj.cells #[Value.int .i64 m.a, Value.int .i64 m.b, Value.int .i64 m.c] 36)).alloc (Obj.cells #[Value.int .i64 0, Value.int .i64 0, Value.int .i64 0] 36) = w1 at *
  go_wp2_with (refine wpList_load_row rfl 36 _ rfl w.heap.size rfl 36 _ (0, 0) _ A1.out.1 Tryd.underlying36 rfl infoM ?_)
  refine (HM.out w1).mono ?_
  rintro e w2 ⟨rfl, hb⟩
  have A2 : Hid (Arr w2 (w.heap.size + 1) 36 (meC Me.none) ∧ Below w.heap.size w w2) := ⟨A1.out.2.1.kept hb, A1.out.2.2.trans (hb.mono A1.out.2.2.size)⟩
  clear hb A1
  go_wp2_with (refine wpList_store_row rfl 36 _ _ rfl (w.heap.size + 1) (meC Me.none).toArray rfl rfl 36 (meC Me.none).toArray A2.out.1 infoM rfl (one_meC _) ?_)
  exact bodyPost_ret (results_ct Tryd.results46 _ _ (w.heap.size + 1) (meC Me.none) rfl (A2.out.1.row _) Tryd.underlying36 rfl infoM) rfl ⟨rfl, below_setRow A2.out.2 (Nat.le_succ _) A2.out.1.lt _⟩

/-- what lies in memory while samples are heard -/
structure TdH (w wr : World) (m : Me) (gc kc : Nat) : Prop where
  b : Arr wr w.heap.size 36 (meC m)
  r : Arr wr (w.heap.size + 1) 36 (meC Me.none)
  l : Arr wr gc 3 [.int .i64 0]
  h : Arr wr kc 3 [.int .i64 60000]
  w : Below w.heap.size w wr
theorem TdH.kept {w wr w' : World} {m : Me} {gc kc : Nat} (h : TdH w wr m gc kc) (hb : Below wr.heap.size wr w') : TdH w w' m gc kc :=
  ⟨h.b.kept hb, h.r.kept hb, h.l.kept hb, h.h.kept hb, h.w.trans (hb.mono h.w.size)⟩
theorem TdH.store {w wr : World} {m : Me} {gc kc : Nat} (h : TdH w wr m gc kc) (n : Me) : TdH w (wr.setRow w.heap.size (meC n).toArray) n gc kc :=
  ⟨h.b.row _, h.r.rowOther _ _ (by omega), h.l.rowOther _ _ (arr_ne h.l h.b (by decide)), h.h.rowOther _ _ (arr_ne h.h h.b (by decide)), below_setRow h.w (Nat.le_refl _) h.b.lt _⟩

/-- how far samples are heard -/
def HrR (m0 : Me) (xs : List Int) (k : Nat) (m : Me) : Prop := m0.may ∧ (∀ s ∈ xs.take k, Samp s) ∧ m = m0.all (xs.take k)
theorem HrR.start (m0 : Me) (xs : List Int) (h : m0.may) : HrR m0 xs 0 m0 := ⟨h, by simp, by simp [Me.all]⟩
theorem HrR.may {m0 m : Me} {xs : List Int} {k : Nat} (h : HrR m0 xs k m) : m.may := by rw [h.2.2]; exact Me.may_all _ h.1 h.2.1
theorem HrR.next {m0 m : Me} {xs : List Int} {k : Nat} (h : HrR m0 xs k m) (hk : k < xs.length) (hs : Samp (xs.getD k 0)) : HrR m0 xs (k + 1) (m.one (xs.getD k 0)) := by
  refine ⟨h.1, fun s hm => ?_, ?_⟩
  · rw [List.take_add_one] at hm
    rcases List.mem_append.1 hm with h1 | h1
    · exact h.2.1 s h1
    · have : s = xs.getD k 0 := by simp [hk] at h1; simp [List.getD, hk, h1]
      rw [this]; exact hs
  · rw [Me.all_take _ _ _ hk, h.2.2]
theorem HrR.bad {m0 m : Me} {xs : List Int} {k : Nat} (_h : HrR m0 xs k m) (hk : k < xs.length) (hs : ¬ Samp (xs.getD k 0)) : hearM m0 xs = Me.none ∧ hearE m0 xs = 2 := by
  have hn : ¬ (m0.may ∧ ∀ s ∈ xs, Samp s) := fun h' => hs (h'.2 _ (by simp [List.getD, hk]))
  exact ⟨if_neg hn, if_neg hn⟩
theorem HrR.done {m0 m : Me} {xs : List Int} {k : Nat} (h : HrR m0 xs k m) (hk : xs.length ≤ k) : hearM m0 xs = m ∧ hearE m0 xs = 0 := by
  have e : xs.take k = xs := List.take_of_length_le hk
  have hn : m0.may ∧ ∀ s ∈ xs, Samp s := ⟨h.1, by have := h.2.1; rwa [e] at this⟩
  exact ⟨by rw [hearM, if_pos hn, h.2.2, e], if_pos hn⟩

set_option maxHeartbeats 8000000 in
set_option maxRecDepth 100000 in
theorem hear_ok (m0 M : Me) (E : Int) (p : Option Addr) (c n : Nat) (xs : List Int) (w : World) (hm : m0.may) (hP : IPiece w p c xs) (hn : xs.length = n) (hM : hearM m0 xs = M) (hE : hearE m0 xs = E) :
    Calls Tryd.prog 46 #[meV m0, .slice p n c] w fun e w' => e = .returned (.tuple #[meV M, .int .i64 E]) ∧ Below w.heap.size w w' := by
  have A1 := hide (me_boxes w m0)
  have HM := hide (fun v : World => may_any m0 v)
  rw [decide_eq_true hm] at HM
  have HW := hide (fun v : World => within_any 0 60000 v)
  have HP := hide hP
  have HS := hide (HrR.start m0 xs hm)
  have HME := hide (And.intro hM hE)
  have HN := hide hn
  have HNM : Hid ((n : Int) ≤ 9223372036854775807) := by
    have h1 := hP.2.2.1
    have h2 := hP.2.2.2
    unfold maxLen at h2
    show _ ≤ _
    omega
  clear hm hP hM hE hn
  go_enter Tryd.func46, Tryd.ntmps46
  go_upto_region 1 with fail
  generalize (w.alloc (Obj.cells #[Value.int .i64 m0.a, Value.int .i64 m0.b, Value.int .i64 m0.c] 36)).alloc (Obj.cells #[Value.int .i64 0, Value.int .i64 0, Value.int .i64 0] 36) = w1 at *
  go_wp2_with (refine wpList_load_row rfl 36 _ rfl w.heap.size rfl 36 _ (0, 0) _ A1.out.1 Tryd.underlying36 rfl infoM ?_)
  refine (HM.out w1).mono ?_
  rintro e w2 ⟨rfl, hb⟩
  have A2 : Hid (Arr w2 w.heap.size 36 (meC m0) ∧ Arr w2 (w.heap.size + 1) 36 (meC Me.none) ∧ Below w.heap.size w w2) := ⟨A1.out.1.kept hb, A1.out.2.1.kept hb, A1.out.2.2.trans (hb.mono A1.out.2.2.size)⟩
  clear hb A1 HM
  go_wp2_with fail
  refine (HW.out w2).mono ?_
  rintro e w3 ⟨vc, rfl, ⟨gc, kc, rfl, hl, hh⟩, hb⟩
  have A3 : Hid (TdH w w3 m0 gc kc) := ⟨A2.out.1.kept hb, A2.out.2.1.kept hb, hl, hh, A2.out.2.2.trans (hb.mono A2.out.2.2.size)⟩
  clear hb A2 HW hl hh
  go_wp2_with fail
  have HB := hide (fun (m : Me) (s : Int) (v : World) (hm : m.may) (hs : Samp s) => behind_any m s v hm hs)
  go_loopg [16] (n + 1) (fun f s16 wr => ∃ (k : Nat) (m : Me), s16 = .int .i64 (k : Int) ∧ k ≤ n ∧ n - k < f ∧ Hid (HrR m0 xs k m ∧ TdH w wr m gc kc))
  case atStart => exact ⟨0, m0, rfl, by omega, by omega, HS.out, A3.out⟩
  case round =>
    obtain ⟨k, m, rfl, hk, hf, HT⟩ := hrel
    clear A3 HS
    by_cases hkn : k < n
    · obtain ⟨g, o, rfl, hc⟩ := (HP.out.kept (HT.out.2.w.mono (Nat.le_refl _))).cell (by rw [HN.out]; omega)
      have hck := hc k (by rw [HN.out]; exact hkn)
      have HX := hide (show xs.getD k 0 = xs.getD k 0 from rfl)
      have HNX := hide (fun (hs : Samp (xs.getD k 0)) => HT.out.1.next (by rw [HN.out]; exact hkn) hs)
      have HBD := hide (fun (hs : ¬ Samp (xs.getD k 0)) => HT.out.1.bad (by rw [HN.out]; exact hkn) hs)
      generalize xs.getD k 0 = x at *
      have HC := hide (cl_any x 0 60000 gc kc wr (HT.out.2.l.cell 0) (HT.out.2.h.cell 0))
      clear hc HP HX
      by_cases hs : Samp x
      · have he : clF 0 60000 x = x := clF_in hs.1 hs.2
        rw [he] at HC
        have hne : (x != x) = false := by simp
        have HH := hide (And.intro (HNX.out hs) (hide (fun v => HB.out m x v HT.out.1.may hs)))
        clear HBD HNX hs he HB
        go_wp2_with fail
        refine HC.out.mono ?_
        rintro e w4 ⟨rfl, rfl⟩
        go_wp2_with (refine wpList_exec (by rfl) _ (exec_load_all 36 (.tmp 2) rfl w.heap.size rfl 36 (meC m) _ HT.out.2.b Tryd.underlying36 rfl infoM) ?_)
        refine (HH.out.2.out _).mono ?_
        rintro e w5 ⟨rfl, hb⟩
        have HT5 := hide (HT.out.2.kept hb)
        clear hb
        go_wp2_with (refine wpList_store_row rfl 36 _ _ rfl w.heap.size (meC (m.one x)).toArray rfl rfl 36 (meC m).toArray HT5.out.b infoM rfl (one_meC _) ?_)
        go_roundg (n - k)
        case measure => omega
        case rel => exact ⟨k + 1, m.one x, by rw [show wrap64 ((k : Int) + 1) = ((k + 1 : Nat) : Int) from by unfold wrap64; have := HNM.out; omega], by omega, by omega, HH.out.1, HT5.out.store _⟩
      · have HE := hide (HBD.out hs)
        have hne : (x != clF 0 60000 x) = true := by
          rw [bne_iff_ne]
          intro e
          exact hs ((clF_eq (by omega)).1 e.symm)
        generalize clF 0 60000 x = y at *
        clear HBD HNX hs HB
        go_wp2_with fail
        refine HC.out.mono ?_
        rintro e w4 ⟨rfl, rfl⟩
        go_wp2_with (refine wpList_store_row rfl 36 _ _ rfl (w.heap.size + 1) (meC Me.none).toArray rfl rfl 36 (meC Me.none).toArray HT.out.2.r infoM rfl (one_meC _) ?_)
        obtain ⟨rfl, rfl⟩ : M = Me.none ∧ E = 2 := ⟨HME.out.1.symm.trans HE.out.1, HME.out.2.symm.trans HE.out.2⟩
        exact bodyPost_ret (results_ct Tryd.results46 _ _ (w.heap.size + 1) (meC Me.none) rfl (HT.out.2.r.row _) Tryd.underlying36 rfl infoM) rfl ⟨rfl, below_setRow HT.out.2.w (Nat.le_succ _) HT.out.2.r.lt _⟩
    · have HD := hide (HT.out.1.done (by rw [HN.out]; omega))
      have hkn' : k = n := by omega
      subst hkn'
      clear HP HB
      go_wp2_with (first
        | (refine wpList_exec (by rfl) _ (exec_load_all 36 (.tmp 2) rfl w.heap.size rfl 36 (meC m) _ HT.out.2.b Tryd.underlying36 rfl infoM) ?_)
        | (refine wpList_store_row rfl 36 _ _ rfl (w.heap.size + 1) (meC m).toArray rfl rfl 36 (meC Me.none).toArray HT.out.2.r infoM rfl (one_meC _) ?_))
      obtain ⟨rfl, rfl⟩ : M = m ∧ E = 0 := ⟨HME.out.1.symm.trans HD.out.1, HME.out.2.symm.trans HD.out.2⟩
      exact bodyPost_ret (results_ct Tryd.results46 _ _ (w.heap.size + 1) (meC M) rfl (HT.out.2.r.row _) Tryd.underlying36 rfl infoM) rfl ⟨rfl, below_setRow HT.out.2.w (Nat.le_succ _) HT.out.2.r.lt _⟩

theorem hear_any (m : Me) (p : Option Addr) (c n : Nat) (xs : List Int) (w : World) (hP : IPiece w p c xs) (hn : xs.length = n) :
    Calls Tryd.prog 46 #[meV m, .slice p n c] w fun e w' => e = .returned (.tuple #[meV (hearM m xs), .int .i64 (hearE m xs)]) ∧ Below w.heap.size w w' := by
  by_cases hm : m.may
  · exact hear_ok m _ _ p c n xs w hm hP hn rfl rfl
  · have h := hear_arg m (.slice p n c) w hm
    rw [hearM, hearE, if_neg (fun h => hm h.1), if_neg (fun h => hm h.1)]
    exact h

end Go.Proofs.YtbmjlofehbbkbaaDoor

/- Walks: the reference's May, One, Mean, Wait. -/
namespace Go.Proofs.YtbmjlofehbbkbaaDoor
open Go.RowKit






set_option maxHeartbeats 4000000 in
set_option maxRecDepth 100000 in
theorem rone_first (m : Me) (s : Int) (w : World) (h0 : (m.a == 0) = true) (hs1 : 0 ≤ s) (hs2 : s ≤ 60000) :
    Calls Tryd.prog 43 #[meV m, .int .i64 s] w fun e w' => e = .returned (meV ⟨1, 8 * s, 2 * s⟩) ∧ Below w.heap.size w w' := by
  have A1 := hide (me_boxes w m)
  have c0 := A1.out.1.cell 0
  simp only [List.getElem?_cons_zero] at c0
  go_enter Tryd.func43, Tryd.ntmps43
  go_upto_region 1 with fail
  generalize (w.alloc (Obj.cells #[Value.int .i64 m.a, Value.int .i64 m.b, Value.int .i64 m.c] 36)).alloc (Obj.cells #[Value.int .i64 0, Value.int .i64 0, Value.int .i64 0] 36) = w1 at *
  go_wp2_with (refine wpList_store_row rfl 36 _ _ rfl (w.heap.size + 1) (meC ⟨1, 8 * s, 2 * s⟩).toArray rfl rfl 36 (meC Me.none).toArray A1.out.2.1 infoM rfl (one_meC _) ?_)
  exact bodyPost_ret (v := meV ⟨1, 8 * s, 2 * s⟩) (results_cell_row Tryd.results43 _ _ (w.heap.size + 1) 36 _ (0, 0) _ rfl (A1.out.2.1.row _) Tryd.underlying36 rfl infoM) rfl ⟨rfl, below_setRow A1.out.2.2 (Nat.le_succ _) A1.out.2.1.lt _⟩

theorem sets2 {w : World} {g : Nat} {t : TypeId} {m : Me} (h : Arr w g t (meC m)) (b c : Int) : Arr ((w.setCell ⟨g, 1, none⟩ (.int .i64 b)).setCell ⟨g, 2, none⟩ (.int .i64 c)) g t (meC ⟨m.a, b, c⟩) := (h.set 1 _).set 2 _
theorem sets3 {w : World} {g : Nat} {t : TypeId} {m : Me} (h : Arr w g t (meC m)) (b c d : Int) : Arr (((w.setCell ⟨g, 1, none⟩ (.int .i64 b)).setCell ⟨g, 2, none⟩ (.int .i64 c)).setCell ⟨g, 2, none⟩ (.int .i64 d)) g t (meC ⟨m.a, b, d⟩) := (sets2 h b c).set 2 _
theorem sets3a {w : World} {g : Nat} {t : TypeId} {m : Me} (h : Arr w g t (meC m)) (a b c : Int) : Arr (((w.setCell ⟨g, 1, none⟩ (.int .i64 b)).setCell ⟨g, 2, none⟩ (.int .i64 c)).setCell ⟨g, 0, none⟩ (.int .i64 a)) g t (meC ⟨a, b, c⟩) := (sets2 h b c).set 0 _
theorem sets4 {w : World} {g : Nat} {t : TypeId} {m : Me} (h : Arr w g t (meC m)) (a b c d : Int) : Arr ((((w.setCell ⟨g, 1, none⟩ (.int .i64 b)).setCell ⟨g, 2, none⟩ (.int .i64 c)).setCell ⟨g, 2, none⟩ (.int .i64 d)).setCell ⟨g, 0, none⟩ (.int .i64 a)) g t (meC ⟨a, b, d⟩) := (sets3 h b c d).set 0 _
theorem name_world {P : Program} {c : Code} {Q : Exit → Act → World → Prop} {a : Act} {w : World} (h : ∀ v, v = w → Code.wp P c Q a v) : Code.wp P c Q a w := h w rfl

set_option maxHeartbeats 4000000 in
set_option maxRecDepth 100000 in
theorem rone_more (m r : Me) (s q8 q4 : Int) (w : World) (e8 : Int.tdiv m.b 8 = q8) (e4 : Int.tdiv m.c 4 = q4) (b8 : 0 ≤ q8 ∧ q8 ≤ 60000) (b4 : 0 ≤ q4 ∧ q4 ≤ m.c) (hs : 0 ≤ s ∧ s ≤ 60000) (ba : 0 ≤ m.a ∧ m.a ≤ 1073741824) (bb : 0 ≤ m.b ∧ m.b ≤ 480007) (bc : 0 ≤ m.c ∧ m.c ≤ 480007)
    (h0 : (m.a == 0) = false)
    (hr : (Me.mk (if m.a < 1073741824 then m.a + 1 else m.a) (m.b + (s - q8)) (if 480007 < m.c - q4 + absF (s - q8) then 480007 else m.c - q4 + absF (s - q8))) = r) :
    Calls Tryd.prog 43 #[meV m, .int .i64 s] w fun e w' => e = .returned (meV r) ∧ Below w.heap.size w w' := by
  have A1 := hide (me_boxes w m)
  have HR := hide hr
  have w8 : wrap64 q8 = q8 := by unfold wrap64; omega
  have w4 : wrap64 q4 = q4 := by unfold wrap64; omega
  clear hr
  obtain ⟨b8, b8'⟩ := b8
  obtain ⟨b4, b4'⟩ := b4
  obtain ⟨hs, hs'⟩ := hs
  obtain ⟨ba, ba'⟩ := ba
  obtain ⟨bb, bb'⟩ := bb
  obtain ⟨bc, bc'⟩ := bc
  go_enter Tryd.func43, Tryd.ntmps43
  go_upto_region 4 with fail
  have hz1 : ((w.alloc (Obj.cells #[Value.int .i64 m.a, Value.int .i64 m.b, Value.int .i64 m.c] 36)).alloc (Obj.cells #[Value.int .i64 0, Value.int .i64 0, Value.int .i64 0] 36)).heap.size = w.heap.size + 1 + 1 := by simp
  generalize (w.alloc (Obj.cells #[Value.int .i64 m.a, Value.int .i64 m.b, Value.int .i64 m.c] 36)).alloc (Obj.cells #[Value.int .i64 0, Value.int .i64 0, Value.int .i64 0] 36) = w1 at *
  have HZ := hide hz1
  have A2 : Hid (Arr (w1.alloc (Obj.cells #[Value.int .i64 0, Value.int .i64 0, Value.int .i64 0] 36)) w.heap.size 36 (meC m) ∧ Arr (w1.alloc (Obj.cells #[Value.int .i64 0, Value.int .i64 0, Value.int .i64 0] 36)) (w.heap.size + 1) 36 (meC Me.none) ∧ Arr (w1.alloc (Obj.cells #[Value.int .i64 0, Value.int .i64 0, Value.int .i64 0] 36)) (w.heap.size + 1 + 1) 36 (meC Me.none) ∧ Below w.heap.size w (w1.alloc (Obj.cells #[Value.int .i64 0, Value.int .i64 0, Value.int .i64 0] 36))) :=
    ⟨A1.out.1.alloc _, A1.out.2.1.alloc _, Arr.newAt w1 _ _ _ hz1, A1.out.2.2.alloc (by omega) _⟩
  go_upto_region 5 with (first
    | (refine wpList_exec (by rfl) _ (exec_load_all 36 (.tmp 2) rfl w.heap.size rfl 36 (meC m) _ A1.out.1 Tryd.underlying36 rfl infoM) ?_)
    | (refine wpList_store_row rfl 36 _ _ rfl (w.heap.size + 1 + 1) (meC m).toArray rfl rfl 36 (meC Me.none).toArray A2.out.2.2.1 infoM rfl (one_meC _) ?_))
  have A3 : Hid (Arr ((w1.alloc (Obj.cells #[Value.int .i64 0, Value.int .i64 0, Value.int .i64 0] 36)).setRow (w.heap.size + 1 + 1) (meC m).toArray) w.heap.size 36 (meC m) ∧ Arr ((w1.alloc (Obj.cells #[Value.int .i64 0, Value.int .i64 0, Value.int .i64 0] 36)).setRow (w.heap.size + 1 + 1) (meC m).toArray) (w.heap.size + 1) 36 (meC Me.none) ∧ Arr ((w1.alloc (Obj.cells #[Value.int .i64 0, Value.int .i64 0, Value.int .i64 0] 36)).setRow (w.heap.size + 1 + 1) (meC m).toArray) (w.heap.size + 1 + 1) 36 (meC m) ∧ Below w.heap.size w ((w1.alloc (Obj.cells #[Value.int .i64 0, Value.int .i64 0, Value.int .i64 0] 36)).setRow (w.heap.size + 1 + 1) (meC m).toArray)) :=
    ⟨A2.out.1.rowOther _ _ (by omega), A2.out.2.1.rowOther _ _ (by omega), A2.out.2.2.1.row _, below_setRow A2.out.2.2.2 (by omega) A2.out.2.2.1.lt _⟩
  generalize (w1.alloc (Obj.cells #[Value.int .i64 0, Value.int .i64 0, Value.int .i64 0] 36)).setRow (w.heap.size + 1 + 1) (meC m).toArray = w2 at *
  clear A1 A2 hz1 HZ
  have c0 := A3.out.1.cell 0
  have c1 := A3.out.1.cell 1
  have c2 := A3.out.1.cell 2
  have x0 := A3.out.2.2.1.cell 0
  have x1 := A3.out.2.2.1.cell 1
  have x2 := A3.out.2.2.1.cell 2
  have f0 := A3.out.2.2.1.frozen 0
  have f1 := A3.out.2.2.1.frozen 1
  have f2 := A3.out.2.2.1.frozen 2
  simp only [List.getElem?_cons_zero, List.getElem?_cons_succ] at c0 c1 c2 x0 x1 x2
  go_upto_region 13 with fail
  all_goals
    refine name_world (fun w3 hw3 => ?_)
    have e := HR.out
    first
      | rw [show absF (s - q8) = s - q8 from if_neg (by omega)] at e
      | rw [show absF (s - q8) = -(s - q8) from if_pos (by omega)] at e
    repeat (first | rw [if_pos (by omega)] at e | rw [if_neg (by omega)] at e)
    have A4 : Hid (Arr w3 (w.heap.size + 1 + 1) 36 (meC r) ∧ Arr w3 (w.heap.size + 1) 36 (meC Me.none) ∧ Below w.heap.size w w3) := by
      rw [hw3]
      refine ⟨?_, ?_, ?_⟩
      · rw [← e]
        first
          | with_reducible exact sets4 A3.out.2.2.1 _ _ _ _
          | with_reducible exact sets3a A3.out.2.2.1 _ _ _
          | with_reducible exact sets3 A3.out.2.2.1 _ _ _
          | with_reducible exact sets2 A3.out.2.2.1 _ _
      · repeat (first | with_reducible exact A3.out.2.1 | with_reducible refine Arr.other ?_ _ _ (show w.heap.size + 1 ≠ w.heap.size + 1 + 1 from by omega))
      · repeat (first | with_reducible exact A3.out.2.2.2 | with_reducible refine Below.setCell ?_ (show w.heap.size ≤ w.heap.size + 1 + 1 from by omega) _)
    clear hw3 A3 c0 c1 c2 x0 x1 x2 f0 f1 f2 HR e
    go_wp2_with (first
      | (refine wpList_exec (by rfl) _ (exec_load_all 36 (.tmp 6) rfl (w.heap.size + 1 + 1) rfl 36 (meC r) _ A4.out.1 Tryd.underlying36 rfl infoM) ?_)
      | (refine wpList_store_row rfl 36 _ _ rfl (w.heap.size + 1) (meC r).toArray rfl rfl 36 (meC Me.none).toArray A4.out.2.1 infoM rfl (one_meC _) ?_))
    exact bodyPost_ret (v := meV r) (results_cell_row Tryd.results43 _ _ (w.heap.size + 1) 36 _ (0, 0) _ rfl (A4.out.2.1.row _) Tryd.underlying36 rfl infoM) rfl ⟨rfl, below_setRow A4.out.2.2 (Nat.le_succ _) A4.out.2.1.lt _⟩

theorem rone_any (m : Me) (s : Int) (w : World) (hm : m.may) (hs : Samp s) :
    Calls Tryd.prog 43 #[meV m, .int .i64 s] w fun e w' => e = .returned (meV (m.one s)) ∧ Below w.heap.size w w' := by
  by_cases h0 : m.a = 0
  · rw [Me.one_zero h0]
    exact rone_first m s w (by simpa using h0) hs.1 hs.2
  · obtain ⟨h1, h2, h3, h4, h5, h6, _⟩ := id hm
    exact rone_more m _ s (m.b / 8) (m.c / 4) w (tdiv_pos h3) (tdiv_pos h5) ⟨by omega, by omega⟩ ⟨by omega, by omega⟩ hs ⟨h1, h2⟩ ⟨h3, h4⟩ ⟨h5, h6⟩ (by simpa using h0) (by rw [Me.one, if_neg h0])

end Go.Proofs.YtbmjlofehbbkbaaDoor
