/-
  Several texts, joined: OA, OB, OC.
-/
import Derived.Test.YtbmjlofehbbkbaaDoorKJ
import Derived.Maps.AppendAt

/- LinkPlays: what is sent opens, sealing, two rows of slices, a link's round. -/
namespace Go.Proofs.YtbmjlofehbbkbaaDoor
open Go.RowKit

/-- what was sent, opened -/
theorem open_snd (L : Lk) (p : Option Addr) (c n : Nat) (text : List Nat) (now : Int) (w : World) (hk : IsKey L.code L.mark) (hx : L.next < 9223372036854775808) (hP : Piece w p c (sndP L now text)) (hl : text.length = n) (hn : n ≤ 1196) (hL : Laid w) :
    Calls Tryd.prog 9 #[keyV L.code L.mark, .slice p (n + 28) c] w fun e w' => ∃ u, e = .returned (.tuple #[noV L.down L.next, u, .int .i64 0]) ∧ w'.ownsRow w.heap.size 5 1 u (n + 4) (u8s (sndT L now text)) ∧ Below w.heap.size w w' := by
  have h := open_any' L.code L.mark p c (n + 28) (sndP L now text) w hk hP (by rw [sndP_length, hl]) hL
  have h0 : opE L.mark (sndP L now text) = 0 := sndP_opE now text (by omega)
  simp only [h0, if_true, sndP_D hx, sndP_N hx, sndP_T hx] at h
  exact h.mono fun e w' ⟨⟨u, h1, h2⟩, h3⟩ => ⟨u, h1, by rw [show n + 28 - 24 = n + 4 by omega] at h2; exact h2, h3⟩

/-- sealing, of whatever is handed in -/
theorem seal_any (code mark : List Nat) (d : Bool) (m : Nat) (p : Option Addr) (c n : Nat) (text : List Nat) (w : World) (hk : IsKey code mark) (hm : m < 18446744073709551616) (hP : Piece w p c text) (hn : text.length = n) (hL : Laid w) :
    Calls Tryd.prog 10 #[keyV code mark, noV d m, .slice p n c] w fun e w' => ((∃ E : Int, E ≠ 0 ∧ e = .returned (.tuple #[.slice none 0 0, .int .i64 E])) ∨ (n ≤ 1200 ∧ ∃ v, e = .returned (.tuple #[v, .int .i64 0]) ∧ w'.ownsRow w.heap.size 5 1 v (n + 24) (u8s (paF code mark (wdF d m) text)))) ∧ Below w.heap.size w w' := by
  by_cases h1 : m < 9223372036854775808
  · by_cases h2 : 1200 < n
    · exact (seal_long code mark d m p c n w h1 h2).mono fun e w' ⟨h, hb⟩ => ⟨Or.inl ⟨3, by omega, h⟩, hb⟩
    · exact (seal_ok code mark d m p c n text w hk h1 hP hn (by omega) hL).mono fun e w' ⟨v, h, ho, hb⟩ => ⟨Or.inr ⟨by omega, v, h, ho⟩, hb⟩
  · exact (seal_arg code mark d m p c n w hm h1).mono fun e w' ⟨h, hb⟩ => ⟨Or.inl ⟨2, by omega, h⟩, hb⟩

/-- one slice more, and where the row lies then -/
theorem wpList_append_slice_at {w : World} {ops : Array Oper} {rest : List Oper} {o : Oper} {a : Act} {Q : Exit → Act → World → Prop} (hgd : o.guard = none) (s x : Operand)
    (ho : o.op = .call { callee := .builtin .append, args := #[s, x], argTypes := #[39, 39] })
    (B : Nat) (v : Value) (xs : List Value) (hs : a.eval s = v) (n : Nat) (hown : w.ownsRow B 42 1 v n xs)
    (g : Nat) (q : Option Addr) (k c : Nat) (hx : a.eval x = .slice (some ⟨g, 0, none⟩) 1 1) (hc : w.cell? ⟨g, 0, none⟩ = some (.slice q k c)) (hsum : n ≤ 1000) (hB : B ≤ w.heap.size)
    (h : ∀ v' w', w'.ownsRow B 42 1 v' (n + 1) (xs ++ [.slice q k c]) → w.grownBy w' v.ownBlock → (v'.ownBlock = v.ownBlock ∨ v'.ownBlock = some w.heap.size) → wpList Tryd.prog ops Q rest (a.put o.dst v') w') :
    wpList Tryd.prog ops Q (o :: rest) a w := by
  obtain ⟨i0, hi, hz0, hz1, hz2⟩ := info_parts infoBs
  refine wpList_append_own_at w hgd s x 39 ho B 42 i0 (.slice none 0 0) 1 24 Tryd.underlying39 hi hz0 hz1 hz2 rfl (by decide) v n xs hs hown ⟨g, 0, none⟩ 1 1 [.slice q k c] hx (by simp) ?_ ?_ (by unfold maxLen; omega) (by omega) hB ?_
  · intro j u hj
    have hj0 : j = 0 := by have := (List.getElem?_eq_some_iff.1 hj).1; simpa using this
    subst hj0
    rw [Addr.add_mid]
    simp at hj
    rw [← hj]
    exact hc
  · intro u hu
    rw [List.mem_singleton] at hu
    rw [hu]
    rfl
  · intro v' w' h1 h2 _ h3
    exact h v' w' h1 h2 h3

end Go.Proofs.YtbmjlofehbbkbaaDoor

/- LinkPlays: what lies in memory between its rounds. -/
namespace Go.Proofs.YtbmjlofehbbkbaaDoor
open Go.RowKit

/-- a packet that is kept -/
structure Rw where
  q : Option Addr
  c : Nat
  P : List Nat
abbrev Rw.V (l : Rw) : Value := .slice l.q l.P.length l.c
def Rw.okIn (l : Rw) (W w : World) : Prop := w.ownsRow W.heap.size 5 1 l.V l.P.length (u8s l.P) ∧ l.P.length ≤ 1224 ∧ BytesN l.P
/-- a row of them -/
structure RwS (W wr : World) (v : Value) (ls : List Rw) : Prop where
  r : wr.ownsRow W.heap.size 42 1 v ls.length (ls.map Rw.V)
  ps : ∀ l ∈ ls, l.okIn W wr
theorem RwS.none (W wr : World) : RwS W wr (.slice none 0 0) [] := ⟨World.ownsRow_nil _ _ _ _, fun l hl => by cases hl⟩
theorem RwS.kept {W wr w' : World} {v : Value} {ls : List Rw} (h : RwS W wr v ls) (hb : Below wr.heap.size wr w') : RwS W w' v ls := ⟨own_below h.r hb, fun l hl => ⟨own_below (h.ps l hl).1 hb, (h.ps l hl).2⟩⟩
theorem RwS.arr {W wr w' : World} {v : Value} {ls : List Rw} {X : Nat} {t : TypeId} {vs : List Value} (h : RwS W wr v ls) (hA : Arr wr X t vs) (hg : wr.grownBy w' (some X)) (h1 : t ≠ 42) (h2 : t ≠ 5) : RwS W w' v ls :=
  ⟨h.r.kept hg (.inr (own_ne_any h.r hA h1)), fun l hl => ⟨(h.ps l hl).1.kept hg (.inr (own_ne_any (h.ps l hl).1 hA h2)), (h.ps l hl).2⟩⟩
/-- one more in the one row, none in the other -/
theorem RwS.more {W w w' : World} {a a' b : Value} {xs ys : List Rw} {l : Rw} (h1 : RwS W w a xs) (h2 : RwS W w b ys) (ap : a.ownBlock = Option.none ∨ b.ownBlock = Option.none ∨ a.ownBlock ≠ b.ownBlock) (hl : l.okIn W w)
    (hr : w'.ownsRow W.heap.size 42 1 a' (xs.length + 1) (xs.map Rw.V ++ [l.V])) (hg : w.grownBy w' a.ownBlock) (hat : a'.ownBlock = a.ownBlock ∨ a'.ownBlock = some w.heap.size) :
    RwS W w' a' (xs ++ [l]) ∧ RwS W w' b ys ∧ (a'.ownBlock = Option.none ∨ b.ownBlock = Option.none ∨ a'.ownBlock ≠ b.ownBlock) := by
  have e : ∀ m : Rw, m.okIn W w → m.okIn W w' := fun m hm => ⟨hm.1.kept hg (rows_ne hm.1 h1.r (by decide)), hm.2⟩
  refine ⟨⟨by simpa using hr, fun m hm => ?_⟩, ⟨h2.r.kept hg ?_, fun m hm => e m (h2.ps m hm)⟩, ?_⟩
  · rcases List.mem_append.1 hm with h | h
    · exact e m (h1.ps m h)
    · rw [List.mem_singleton] at h
      subst h
      exact e m hl
  · cases hb : b.ownBlock with
    | none => exact Or.inl rfl
    | some j =>
      right
      rw [hb] at ap
      rcases ap with h | h | h
      · rw [h]; simp
      · cases h
      · exact fun e' => h e'.symm
  · rcases hat with h | h
    · rw [h]; exact ap
    · cases hb : b.ownBlock with
      | none => exact Or.inr (Or.inl rfl)
      | some j =>
        right; right
        rw [h]
        intro e'
        have h3 := (h2.r.lt j hb).2
        cases e'
        omega

/-- what lies in memory between the rounds -/
structure PlS (W wr : World) (g k : Nat) (code mark : List Nat) (down : Bool) (L : Lk) (s t : Int) (a b : Value) (xs ys : List Rw) : Prop where
  l : LkAt wr g L
  r : RL wr k L s t
  c : L.code = code
  m : L.mark = mark
  d : L.down = down
  be : Below W.heap.size W wr
  bg : W.heap.size ≤ g
  bk : W.heap.size ≤ k
  ne : g ≠ k
  sent : RwS W wr a xs
  heard : RwS W wr b ys
  ap : a.ownBlock = none ∨ b.ownBlock = none ∨ a.ownBlock ≠ b.ownBlock
  kb : Arr wr W.heap.size 25 (kCells code mark)
theorem PlS.kept {W wr w' : World} {g k : Nat} {code mark : List Nat} {down : Bool} {L : Lk} {s t : Int} {a b : Value} {xs ys : List Rw} (h : PlS W wr g k code mark down L s t a b xs ys) (hb : Below wr.heap.size wr w') : PlS W w' g k code mark down L s t a b xs ys :=
  ⟨h.l.kept hb, h.r.kept hb, h.c, h.m, h.d, h.be.trans (hb.mono h.be.size), h.bg, h.bk, h.ne, h.sent.kept hb, h.heard.kept hb, h.ap, h.kb.kept hb⟩
/-- the link changes -/
theorem PlS.link {W wr w' : World} {g k : Nat} {code mark : List Nat} {down : Bool} {L : Lk} {s t : Int} {a b : Value} {xs ys : List Rw} (h : PlS W wr g k code mark down L s t a b xs ys) (hg : wr.grownBy w' (some g)) :
    RL w' k L s t ∧ Below W.heap.size W w' ∧ RwS W w' a xs ∧ RwS W w' b ys ∧ Arr w' W.heap.size 25 (kCells code mark) :=
  ⟨h.r.grown hg (fun e => h.ne e.symm), h.be.grown hg h.be.size (fun j hj => by cases hj; exact h.bg), h.sent.arr h.l.a hg (by decide) (by decide), h.heard.arr h.l.a hg (by decide) (by decide), h.kb.grown hg (arr_ne h.kb h.l.a (by decide))⟩
/-- both change -/
theorem PlS.both {W wr v w' : World} {g k : Nat} {code mark : List Nat} {down : Bool} {L K : Lk} {s t s' t' : Int} {a b : Value} {xs ys : List Rw} (h : PlS W wr g k code mark down L s t a b xs ys) (hg : wr.grownBy v (some g)) (hk : v.grownBy w' (some k)) (hl : LkAt w' g K) (hr : RL w' k K s' t') (hc : K.code = L.code) (hm : K.mark = L.mark) (hd : K.down = L.down) :
    PlS W w' g k code mark down K s' t' a b xs ys := by
  obtain ⟨h1, h2, h3, h4, h5⟩ := h.link hg
  exact ⟨hl, hr, hc.trans h.c, hm.trans h.m, hd.trans h.d, h2.grown hk h2.size (fun j hj => by cases hj; exact h.bk), h.bg, h.bk, h.ne, h3.arr h1.a hk (by decide) (by decide), h4.arr h1.a hk (by decide) (by decide), h.ap, h5.grown hk (arr_ne h5 h1.a (by decide))⟩
/-- what was sent, kept -/
theorem PlS.more {W w w' : World} {g k : Nat} {code mark : List Nat} {down : Bool} {L : Lk} {s t : Int} {a a' b : Value} {xs ys : List Rw} {l : Rw} (h : PlS W w g k code mark down L s t a b xs ys) (hl : l.okIn W w)
    (hr : w'.ownsRow W.heap.size 42 1 a' (xs.length + 1) (xs.map Rw.V ++ [l.V])) (hg : w.grownBy w' a.ownBlock) (hat : a'.ownBlock = a.ownBlock ∨ a'.ownBlock = some w.heap.size) : PlS W w' g k code mark down L s t a' b (xs ++ [l]) ys := by
  obtain ⟨h1, h2, h3⟩ := h.sent.more h.heard h.ap hl hr hg hat
  exact ⟨⟨h.l.a.keptR hg (own_ne_any h.sent.r h.l.a (by decide)), h.l.ok⟩, ⟨h.r.a.keptR hg (own_ne_any h.sent.r h.r.a (by decide)), h.r.e, h.r.ok⟩, h.c, h.m, h.d, h.be.grown hg h.be.size (fun j hj => (h.sent.r.lt j hj).1), h.bg, h.bk, h.ne, h1, h2, h3, h.kb.keptR hg (own_ne_any h.sent.r h.kb (by decide))⟩
/-- what was heard, kept -/
theorem PlS.more' {W w w' : World} {g k : Nat} {code mark : List Nat} {down : Bool} {L : Lk} {s t : Int} {a b b' : Value} {xs ys : List Rw} {l : Rw} (h : PlS W w g k code mark down L s t a b xs ys) (hl : l.okIn W w)
    (hr : w'.ownsRow W.heap.size 42 1 b' (ys.length + 1) (ys.map Rw.V ++ [l.V])) (hg : w.grownBy w' b.ownBlock) (hat : b'.ownBlock = b.ownBlock ∨ b'.ownBlock = some w.heap.size) : PlS W w' g k code mark down L s t a b' xs (ys ++ [l]) := by
  obtain ⟨h1, h2, h3⟩ := h.heard.more h.sent (by rcases h.ap with h | h | h; exact Or.inr (Or.inl h); exact Or.inl h; exact Or.inr (Or.inr fun e => h e.symm)) hl hr hg hat
  exact ⟨⟨h.l.a.keptR hg (own_ne_any h.heard.r h.l.a (by decide)), h.l.ok⟩, ⟨h.r.a.keptR hg (own_ne_any h.heard.r h.r.a (by decide)), h.r.e, h.r.ok⟩, h.c, h.m, h.d, h.be.grown hg h.be.size (fun j hj => (h.heard.r.lt j hj).1), h.bg, h.bk, h.ne, h2, h1, by rcases h3 with h | h | h; exact Or.inr (Or.inl h); exact Or.inl h; exact Or.inr (Or.inr fun e => h e.symm), h.kb.keptR hg (own_ne_any h.heard.r h.kb (by decide))⟩
/-- the link is its copy, the old one is let go -/
theorem PlS.copy {W wr w1 w' : World} {g g' k : Nat} {code mark : List Nat} {down : Bool} {L : Lk} {s t : Int} {a b : Value} {xs ys : List Rw} (h : PlS W wr g k code mark down L s t a b xs ys) (hb : Below wr.heap.size wr w1) (hl : LkAt w1 g' L) (hn : wr.heap.size ≤ g') (hg : w1.grownBy w' (some g)) : PlS W w' g' k code mark down L s t a b xs ys := by
  have h1 := h.kept hb
  obtain ⟨h2, h3, h4, h5, h6⟩ := h1.link hg
  have hlt := h.l.lt
  have hkt := h.r.a.lt
  exact ⟨hl.grown hg (by omega), h2, h.c, h.m, h.d, h3, Nat.le_trans h.be.size hn, h.bk, by omega, h4, h5, h.ap, h6⟩

end Go.Proofs.YtbmjlofehbbkbaaDoor

/- LinkPlays: hearing, between its rounds. -/
namespace Go.Proofs.YtbmjlofehbbkbaaDoor
open Go.RowKit

/-- whatever is heard -/
theorem PlS.hear {W w : World} {g k : Nat} {code mark : List Nat} {d : Bool} {L : Lk} {s t : Int} {a b : Value} {xs ys : List Rw} (h : PlS W w g k code mark d L s t a b xs ys) (h2 : 2 ≤ W.heap.size) (hLa : Laid w) (o : Ob) (p : Option Addr) (c n : Nat) (B : List Nat) (hP : Piece w p c B) (hn : B.length = n) (hn2 : n ≤ 1300)
    (hpg : ∀ e, p = some e → B ≠ [] → e.block ≠ g) (hpk : ∀ e, p = some e → B ≠ [] → e.block ≠ k) :
    Calls Tryd.prog 11 #[.pointer (some ⟨g, 0, none⟩), .pointer (some ⟨k, 0, none⟩), keyV code mark, .agg o.C.toArray, .slice p n c] w fun e w' => e = .returned (.bool true) ∧ ∃ L' s' t', PlS W w' g k code mark d L' s' t' a b xs ys ∧ (∀ l : Rw, l.okIn W w → l.okIn W w') ∧ ∀ (X : Nat) (ty : TypeId) (vs : List Value), Arr w X ty vs → X ≠ g → X ≠ k → Arr w' X ty vs := by
  have h1 := lhear_any g k L s t o p c n B w h.l h.r hP hn hn2 hpg hpk h.ne (Nat.le_trans h2 h.bg) hLa
  rw [h.c, h.m] at h1
  refine h1.mono ?_
  rintro e w' ⟨rfl, LT, hp, e1, e2, e3⟩
  obtain ⟨s', t', hr⟩ := hp.r
  obtain ⟨v, b1, b2⟩ := hp.b
  exact ⟨rfl, LT, s', t', h.both b1 b2 hp.l hr (e1.trans h.c.symm) (e2.trans h.m.symm) e3, fun l hl => by
    have h3 := hl.1.kept b1 (.inr (own_ne_any hl.1 h.l.a (by decide)))
    exact ⟨h3.kept b2 (.inr (own_ne_any h3 (h.link b1).1.a (by decide))), hl.2⟩, fun X ty vs hA hg hk => (hA.grown b1 hg).grown b2 hk⟩
/-- what was handed in is heard -/
theorem PlS.hear_in {W w : World} {g k : Nat} {code mark : List Nat} {d : Bool} {L : Lk} {s t : Int} {a b : Value} {xs ys : List Rw} (h : PlS W w g k code mark d L s t a b xs ys) (h2 : 2 ≤ W.heap.size) (hLa : Laid w) (o : Ob) (p : Option Addr) (c n : Nat) (B : List Nat) (hP : Piece W p c B) (hn : B.length = n) (hn2 : n ≤ 1300) :
    Calls Tryd.prog 11 #[.pointer (some ⟨g, 0, none⟩), .pointer (some ⟨k, 0, none⟩), keyV code mark, .agg o.C.toArray, .slice p n c] w fun e w' => e = .returned (.bool true) ∧ ∃ L' s' t', PlS W w' g k code mark d L' s' t' a b xs ys ∧ (∀ l : Rw, l.okIn W w → l.okIn W w') ∧ ∀ (X : Nat) (ty : TypeId) (vs : List Value), Arr w X ty vs → X ≠ g → X ≠ k → Arr w' X ty vs :=
  h.hear h2 hLa o p c n B (hP.kept h.be) hn hn2 (fun e he hx => by have h1 := piece_lt hP e he hx; have h3 := h.bg; omega) (fun e he hx => by have h1 := piece_lt hP e he hx; have h3 := h.bk; omega)
/-- a packet that is kept is heard -/
theorem PlS.hear_own {W w : World} {g k : Nat} {code mark : List Nat} {d : Bool} {L : Lk} {s t : Int} {a b : Value} {xs ys : List Rw} (h : PlS W w g k code mark d L s t a b xs ys) (h2 : 2 ≤ W.heap.size) (hLa : Laid w) (o : Ob) (q : Option Addr) (c n : Nat) (P : List Nat) (hl : Rw.okIn ⟨q, c, P⟩ W w) (hn : P.length = n) :
    Calls Tryd.prog 11 #[.pointer (some ⟨g, 0, none⟩), .pointer (some ⟨k, 0, none⟩), keyV code mark, .agg o.C.toArray, .slice q n c] w fun e w' => e = .returned (.bool true) ∧ ∃ L' s' t', PlS W w' g k code mark d L' s' t' a b xs ys ∧ (∀ l : Rw, l.okIn W w → l.okIn W w') ∧ ∀ (X : Nat) (ty : TypeId) (vs : List Value), Arr w X ty vs → X ≠ g → X ≠ k → Arr w' X ty vs := by
  subst hn
  obtain ⟨p', c', e, hP, _⟩ := own_piece_n hl.1 rfl hl.2.2
  have e0 : Value.slice q P.length c = Value.slice p' P.length c' := e
  cases e0
  refine h.hear h2 hLa o q c P.length P hP rfl (Nat.le_trans hl.2.1 (by omega)) (fun e ha _ e1 => ?_) (fun e ha _ e1 => ?_)
  · exact own_ne_any hl.1 h.l.a (by decide) (by show (Value.slice q P.length c).ownBlock = some g; rw [ha, ← e1]; rfl)
  · exact own_ne_any hl.1 h.r.a (by decide) (by show (Value.slice q P.length c).ownBlock = some k; rw [ha, ← e1]; rfl)
/-- a row, as a slice -/
theorem RwS.shape {W w : World} {v : Value} {ls : List Rw} (h : RwS W w v ls) : ∃ p n cap, v = .slice p n cap ∧ n = ls.length := by
  rcases h.r.2 with ⟨rfl, h0⟩ | ⟨g, cap, cur, rfl, _⟩
  · exact ⟨Option.none, 0, 0, rfl, h0.symm⟩
  · exact ⟨_, _, _, rfl, rfl⟩
/-- a packet of a row, by the remainder of a number -/
theorem RwS.pick {W w : World} {v : Value} {ls : List Rw} (h : RwS W w v ls) (A : Int) (h0 : 0 < ls.length) (hn : ls.length ≤ 1000) : ∃ (i : Nat) (l : Rw) (gb cap : Nat), l ∈ ls ∧ ls[i]? = some l ∧ i < ls.length ∧ v = .slice (some ⟨gb, 0, Option.none⟩) ls.length cap ∧
    Int.tmod (IntKind.u64.wrap A) (ls.length : Int) = (i : Int) ∧ IntKind.i64.wrap (i : Int) = (i : Int) ∧ IntKind.u64.wrap (ls.length : Int) = (ls.length : Int) := by
  obtain ⟨gb, cap, rfl, _⟩ := own_shape h.r h0
  have hu : (0 : Int) ≤ IntKind.u64.wrap A := by rw [IntKind.wrap_u64]; omega
  obtain ⟨i, hi⟩ : ∃ i : Nat, Int.tmod (IntKind.u64.wrap A) (ls.length : Int) = (i : Int) := ⟨(Int.tmod (IntKind.u64.wrap A) (ls.length : Int)).toNat, (Int.toNat_of_nonneg (Int.tmod_nonneg _ hu)).symm⟩
  have hlt : i < ls.length := by
    have h1 := Int.tmod_lt_of_pos (IntKind.u64.wrap A) (show (0 : Int) < (ls.length : Int) by omega)
    omega
  exact ⟨i, ls[i], gb, cap, List.getElem_mem hlt, List.getElem?_eq_getElem hlt, hlt, rfl, hi, by rw [IntKind.wrap_i64]; omega, by rw [IntKind.wrap_u64]; omega⟩
theorem RwS.at {W w : World} {gb cap i : Nat} {ls : List Rw} {l : Rw} (h : RwS W w (.slice (some ⟨gb, 0, Option.none⟩) ls.length cap) ls) (hi : ls[i]? = some l) : w.cell? ⟨gb, i, Option.none⟩ = some l.V := by
  have hlt : i < ls.length := (List.getElem?_eq_some_iff.1 hi).1
  have h1 : w.cell? ⟨gb, i, Option.none⟩ = (ls.map Rw.V)[i]? := h.r.cellAt i (by omega)
  rw [List.getElem?_map, hi] at h1
  exact h1
/-- one is sent: by the link, and by the document's -/
theorem PlS.sent_ok {W w w6 w7 : World} {g k : Nat} {code mark : List Nat} {d : Bool} {L : Lk} {s t : Int} {a b : Value} {xs ys : List Rw} (h : PlS W w g k code mark d L s t a b xs ys) (h6 : w.grownBy w6 (some g)) (hl : LkAt w6 g L.sent) (hr : RL w7 k L.sent s t) (h7 : w6.grownBy w7 (some k)) : PlS W w7 g k code mark d L.sent s t a b xs ys :=
  h.both h6 h7 (hl.grown h7 h.ne) hr rfl rfl rfl

theorem lit_piece {w : World} {g c : Nat} {l : List Nat} {t : TypeId} {f : Nat × Nat} (h : w.heap[g]? = some (.cells (u8s l).toArray t f)) (hb : BytesN l) (hlc : l.length ≤ c) (hc : c ≤ maxLen) : Piece w (some ⟨g, 0, none⟩) c l :=
  ⟨Or.inr ⟨g, 0, rfl, fun i hi => by rw [Nat.zero_add, cell_of_row w g i _ t f h]; simpa using u8s_at hi⟩, (fun e => by cases e), hb, hlc, hc⟩
theorem other_piece (w : World) : Piece (w.alloc (Obj.cells (u8s [111, 116, 104, 101, 114]).toArray 5 (5, 6))) (some ⟨w.heap.size, 0, none⟩) 5 [111, 116, 104, 101, 114] ∧ Below w.heap.size w (w.alloc (Obj.cells (u8s [111, 116, 104, 101, 114]).toArray 5 (5, 6))) :=
  ⟨lit_piece (heap_alloc_new w _) (by intro x hx; simp only [List.mem_cons, List.not_mem_nil, or_false] at hx; omega) (by decide) (by decide), (Below.refl _ _).alloc (Nat.le_refl _) _⟩
/-- one is sent, whatever comes of it -/
theorem send_let (g : Nat) (L : Lk) (p : Option Addr) (c n : Nat) (text : List Nat) (now : Int) (w : World) (h : LkAt w g L) (hP : Piece w p c text) (hn : text.length = n) (hL : Laid w) (hg : 2 ≤ g) :
    Calls Tryd.prog 7 #[.pointer (some ⟨g, 0, none⟩), .int .i64 now, .slice p n c] w fun e w' => ∃ v E L', e = .returned (.tuple #[v, .int .i64 E]) ∧ w.grownBy w' (some g) ∧ LkAt w' g L' := by
  refine (send_any g L p c n text now w h hP hn hL hg).mono fun e w' h1 => ?_
  split at h1
  · obtain ⟨v, e1, _, e2, e3⟩ := h1
    exact ⟨v, 0, _, e1, e3, e2⟩
  · obtain ⟨e1, rfl⟩ := h1
    exact ⟨_, _, L, e1, grown_refl _ _, h⟩

end Go.Proofs.YtbmjlofehbbkbaaDoor
