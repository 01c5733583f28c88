/-
  LinkThrough, the tied card: what one end sends is heard by the other one as it was; heard again, or later, or with a tag that was changed, or by the one that sent it, it changes nothing; no condition but the two tables, which the card ties to the program's text.
-/
import Derived.Test.YtanjbblkijhibaaDoorJU
import Derived.Test.YtanjbblkijhibaaDoorKG
import Derived.Test.YtanjbblkijhibaaDoorKH
namespace Go.Proofs.YtanjbblkijhibaaDoor
namespace LinkThroughProof
open Go.ChangeShapes Go.WideShapes Go.ChangeAt Go.WideMaps Go.WideElems Go.RowKit

/-- two ends, of which the first one sends next -/
structure Ft (code mark : List Nat) (k : Nat) (F T : Lk) (up : Bool) : Prop where
  fc : F.code = code
  fm : F.mark = mark
  tc : T.code = code
  tm : T.mark = mark
  fd : F.down = !up
  td : T.down = up
  fn : F.next ≤ k
  tn : T.next ≤ k
  th : T.heard = true → T.newest < F.next
  fh : F.heard = true → F.newest < T.next
theorem Ft.swap {code mark : List Nat} {k : Nat} {F T : Lk} {up : Bool} (h : Ft code mark k F T up) : Ft code mark k T F (!up) := ⟨h.tc, h.tm, h.fc, h.fm, by rw [h.td, Bool.not_not], h.fd, h.tn, h.fn, h.fh, h.th⟩
theorem tws_swap {w wx : World} {gu gd : Nat} {U D : Lk} (h : TwS w wx gu gd U D) : TwS w wx gd gu D U := ⟨h.d, h.u, h.b, h.bd, h.bu, fun e => h.ne e.symm⟩
theorem Ft.sent {code mark : List Nat} {k : Nat} {F T : Lk} {up : Bool} (h : Ft code mark k F T up) : Ft code mark (k + 1) F.sent T up :=
  ⟨h.fc, h.fm, h.tc, h.tm, h.fd, h.td, Nat.succ_le_succ h.fn, Nat.le_succ_of_le h.tn, fun e => Nat.lt_succ_of_lt (h.th e), fun e => h.fh e⟩
theorem Ft.fresh {code mark : List Nat} {k : Nat} {F T : Lk} {up : Bool} (h : Ft code mark k F T up) : T.fresh F.next = true := by
  unfold Lk.fresh
  cases e : T.heard
  · rfl
  · simp [h.th e]
theorem took_eq {T : Lk} {n : Nat} (hf : T.fresh n = true) (s x now frm : Int) : T.took n s x now frm = { T with heard := true, newest := n, addr := if T.down then frm else T.addr, is := true, stamp := s, told := now, m := metF T.m x now } := by unfold Lk.took; rw [if_pos hf]
theorem Ft.heard {code mark : List Nat} {k : Nat} {F T : Lk} {up : Bool} (h : Ft code mark k F T up) (s x now frm : Int) : Ft code mark (k + 1) F.sent (T.took F.next s x now frm) up := by
  rw [took_eq h.fresh]
  exact ⟨h.fc, h.fm, h.tc, h.tm, h.fd, h.td, Nat.succ_le_succ h.fn, Nat.le_succ_of_le h.tn, fun _ => Nat.lt_succ_self _, fun e => h.fh e⟩
theorem Ft.told {code mark : List Nat} {k : Nat} {F T : Lk} {up : Bool} (h : Ft code mark k F T up) (s x now frm : Int) : (T.took F.next s x now frm).newest = F.next ∧ (T.took F.next s x now frm).heard = true ∧ (up = true → (T.took F.next s x now frm).addr = frm) ∧ (T.took F.next s x now frm).fresh F.next = false ∧ (T.took F.next s x now frm).code = T.code ∧ (T.took F.next s x now frm).mark = T.mark ∧ (T.took F.next s x now frm).down = T.down := by
  rw [took_eq h.fresh]
  refine ⟨rfl, rfl, fun e => ?_, by simp [Lk.fresh], rfl, rfl, rfl⟩
  show (if T.down = true then frm else T.addr) = frm
  rw [if_pos (by rw [h.td]; exact e)]

/-- a packet that comes late -/
structure LP where
  q : Option Addr
  c : Nat
  P : List Nat
  wh : Bool
abbrev LP.V (l : LP) : Value := .slice l.q l.P.length l.c
def LateOk (code mark : List Nat) (l : LP) : Prop := ∃ (F : Lk) (now : Int) (text : List Nat), F.code = code ∧ F.mark = mark ∧ F.down = (!l.wh) ∧ F.next < 9223372036854775808 ∧ text.length ≤ 1196 ∧ l.P = sndP F now text ∧ BytesN l.P
structure LtS (W wr : World) (code mark : List Nat) (v9 v10 : Value) (ls : List LP) : Prop where
  r9 : wr.ownsRow W.heap.size 42 1 v9 ls.length (ls.map LP.V)
  r10 : wr.ownsRow W.heap.size 4 1 v10 ls.length (ls.map fun l => Value.bool l.wh)
  ps : ∀ l ∈ ls, wr.ownsRow W.heap.size 5 1 l.V l.P.length (u8s l.P) ∧ LateOk code mark l
theorem LtS.kept {W wr w' : World} {code mark : List Nat} {v9 v10 : Value} {ls : List LP} (h : LtS W wr code mark v9 v10 ls) (hb : Below wr.heap.size wr w') : LtS W w' code mark v9 v10 ls :=
  ⟨own_below h.r9 hb, own_below h.r10 hb, fun l hl => ⟨own_below (h.ps l hl).1 hb, (h.ps l hl).2⟩⟩
theorem LtS.link {W wr w' : World} {code mark : List Nat} {v9 v10 : Value} {ls : List LP} {g : Nat} {L : Lk} (h : LtS W wr code mark v9 v10 ls) (hL : LkAt wr g L) (hg : wr.grownBy w' (some g)) : LtS W w' code mark v9 v10 ls :=
  ⟨row_lk h.r9 hL hg (by decide), row_lk h.r10 hL hg (by decide), fun l hl => ⟨row_lk (h.ps l hl).1 hL hg (by decide), (h.ps l hl).2⟩⟩

theorem own_row {w w' : World} {B B' : Nat} {e e' : TypeId} {k k' : Nat} {v v' : Value} {n n' : Nat} {xs xs' : List Value} (h : w.ownsRow B e k v n xs) (h' : w.ownsRow B' e' k' v' n' xs') (hg : w.grownBy w' v'.ownBlock) (ht : e ≠ e') : w'.ownsRow B e k v n xs := h.kept hg (rows_ne h h' ht)
theorem lk_row {w w' : World} {B : Nat} {e : TypeId} {k : Nat} {v : Value} {n : Nat} {xs : List Value} {g : Nat} {L : Lk} (h : LkAt w g L) (h' : w.ownsRow B e k v n xs) (hg : w.grownBy w' v.ownBlock) (ht : 59 ≠ e) : LkAt w' g L := ⟨h.a.keptR hg (own_ne_any h' h.a ht), h.ok⟩

theorem tws_row {W w w' : World} {ga gb : Nat} {A B : Lk} {e : TypeId} {k : Nat} {v : Value} {n : Nat} {xs : List Value} (h : TwS W w ga gb A B) (h' : w.ownsRow W.heap.size e k v n xs) (hg : w.grownBy w' v.ownBlock) (ht : 59 ≠ e) : TwS W w' ga gb A B :=
  ⟨lk_row h.u h' hg ht, lk_row h.d h' hg ht, h.b.grown hg h.b.size (fun k hk => (h'.lt k hk).1), h.bu, h.bd, h.ne⟩
/-- one packet more that comes late: its row of slices is longer .. -/
theorem lt_slice {W w w' : World} {code mark : List Nat} {v9 v9' v10 : Value} {ls : List LP} {u : Value} (h : LtS W w code mark v9 v10 ls) (hg : w.grownBy w' v9.ownBlock) (_h9 : w'.ownsRow W.heap.size 42 1 v9' (ls.length + 1) (ls.map LP.V ++ [u])) :
    w'.ownsRow W.heap.size 4 1 v10 ls.length (ls.map fun l => Value.bool l.wh) ∧ ∀ l ∈ ls, w'.ownsRow W.heap.size 5 1 l.V l.P.length (u8s l.P) ∧ LateOk code mark l :=
  ⟨own_row h.r10 h.r9 hg (by decide), fun l hl => ⟨own_row (h.ps l hl).1 h.r9 hg (by decide), (h.ps l hl).2⟩⟩
/-- .. and its row of bools -/
theorem lt_bool {W w w' : World} {code mark : List Nat} {v9 v10 v10' : Value} {ls : List LP} {l : LP} (h9 : w.ownsRow W.heap.size 42 1 v9 (ls.length + 1) (ls.map LP.V ++ [l.V])) (h10 : w.ownsRow W.heap.size 4 1 v10 ls.length (ls.map fun l => Value.bool l.wh))
    (hps : ∀ l ∈ ls, w.ownsRow W.heap.size 5 1 l.V l.P.length (u8s l.P) ∧ LateOk code mark l) (hl : w.ownsRow W.heap.size 5 1 l.V l.P.length (u8s l.P)) (hok : LateOk code mark l) (hg : w.grownBy w' v10.ownBlock)
    (h10' : w'.ownsRow W.heap.size 4 1 v10' (ls.length + 1) ((ls.map fun l => Value.bool l.wh) ++ [Value.bool l.wh])) : LtS W w' code mark v9 v10' (ls ++ [l]) := by
  refine ⟨?_, ?_, fun m hm => ?_⟩
  · have := own_row h9 h10 hg (by decide)
    simpa using this
  · simpa using h10'
  · rcases List.mem_append.1 hm with h | h
    · exact ⟨own_row (hps m h).1 h10 hg (by decide), (hps m h).2⟩
    · rw [List.mem_singleton] at h
      subst h
      exact ⟨own_row hl h10 hg (by decide), hok⟩

/-- the second loop's rounds -/
structure L2S (W wr : World) (code mark : List Nat) (gu gd : Nat) (v9 v10 : Value) (ls : List LP) : Prop where
  t : ∃ U D, TwS W wr gu gd U D ∧ U.code = code ∧ U.mark = mark ∧ D.code = code ∧ D.mark = mark ∧ U.down = false ∧ D.down = true
  l : LtS W wr code mark v9 v10 ls

set_option maxHeartbeats 8000000 in
set_option maxRecDepth 100000 in
theorem walk_long (code mark : List Nat) (sp : Option Addr) (n sc : Nat) (W : World) (hk : IsKey code mark) (hn : 40 < n)
    (hK : ∀ v, Below W.heap.size W v → Calls Tryd.prog 8 #[] v fun e w' => e = .returned (.bool true) ∧ Below v.heap.size v w') :
    Calls Tryd.prog 5 #[keyV code mark, .slice sp n sc] W fun r w' => r = .returned (.bool true) ∧ Below W.heap.size W w' := by
  have HK := hide hK
  have IK := hide hk.info
  have A1 := hide (key_box W code mark)
  have d1 : decide ((40 : Int) < (n : Int)) = true := by simp; omega
  have HN1 : Hid (∀ v : World, Calls Tryd.prog 9 #[keyV code mark, .bool false, .int .u64 0, .int .i64 1] v fun e w' => ∃ p : Option Addr, e = .returned (.tuple #[.pointer p, .int .i64 0]) ∧ Below v.heap.size v w') := fun v => (lnew_ok code mark false 0 1 v hk (by omega) ⟨by omega, by omega⟩).mono fun e w' ⟨g, h1, _, _, h2⟩ => ⟨_, h1, h2⟩
  have HN2 : Hid (∀ v : World, Calls Tryd.prog 9 #[keyV code mark, .bool true, .int .u64 0, .int .i64 2] v fun e w' => ∃ p : Option Addr, e = .returned (.tuple #[.pointer p, .int .i64 0]) ∧ Below v.heap.size v w') := fun v => (lnew_ok code mark true 0 2 v hk (by omega) ⟨by omega, by omega⟩).mono fun e w' ⟨g, h1, _, _, h2⟩ => ⟨_, h1, h2⟩
  clear hK hk hn
  go_enter Tryd.func5, Tryd.ntmps5
  go_upto_region 1 with fail
  generalize W.alloc (Obj.cells (kCells code mark).toArray 25) = w1 at *
  go_wp2_with fail
  refine (HK.out w1 A1.out.2).mono ?_
  rintro r w2 ⟨rfl, hb⟩
  have A2 : Hid (Arr w2 W.heap.size 25 (kCells code mark) ∧ Below W.heap.size W w2) := ⟨A1.out.1.kept hb, A1.out.2.trans (hb.mono A1.out.2.size)⟩
  clear hb A1 HK
  go_wp2_with (refine wpList_load_row rfl 25 _ rfl W.heap.size rfl 25 _ (0, 0) _ A2.out.1 Tryd.underlying25 rfl IK.out ?_)
  refine (HN1.out w2).mono ?_
  rintro r w3 ⟨p, rfl, hb⟩
  have A3 : Hid (Arr w3 W.heap.size 25 (kCells code mark) ∧ Below W.heap.size W w3) := ⟨A2.out.1.kept hb, A2.out.2.trans (hb.mono A2.out.2.size)⟩
  clear hb A2 HN1
  go_wp2_with (refine wpList_load_row rfl 25 _ rfl W.heap.size rfl 25 _ (0, 0) _ A3.out.1 Tryd.underlying25 rfl IK.out ?_)
  refine (HN2.out w3).mono ?_
  rintro r w4 ⟨p2, rfl, hb⟩
  have HB := hide (A3.out.2.trans (hb.mono A3.out.2.size))
  clear hb A3 HN2
  go_wp2
  go_ret
  exact ⟨rfl, HB.out⟩

theorem hcase_of {n : Nat} {go takes wh : Int} : (decide ((1196 : Int) < (n : Int)) = true) ∨ (decide ((1196 : Int) < (n : Int)) = false ∧ decide (go < 0) = true) ∨ (decide ((1196 : Int) < (n : Int)) = false ∧ decide (go < 0) = false ∧ decide (1073741824 < go) = true) ∨ (decide ((1196 : Int) < (n : Int)) = false ∧ decide (go < 0) = false ∧ decide (1073741824 < go) = false ∧ decide (takes < 0) = true) ∨
    (decide ((1196 : Int) < (n : Int)) = false ∧ decide (go < 0) = false ∧ decide (1073741824 < go) = false ∧ decide (takes < 0) = false ∧ decide (100000 < takes) = true) ∨ (decide ((1196 : Int) < (n : Int)) = false ∧ decide (go < 0) = false ∧ decide (1073741824 < go) = false ∧ decide (takes < 0) = false ∧ decide (100000 < takes) = false ∧ decide (wh < 0) = true) ∨
    (decide ((1196 : Int) < (n : Int)) = false ∧ decide (go < 0) = false ∧ decide (1073741824 < go) = false ∧ decide (takes < 0) = false ∧ decide (100000 < takes) = false ∧ decide (wh < 0) = false ∧ decide (65535 < wh) = true) ∨ (decide ((1196 : Int) < (n : Int)) = false ∧ decide (go < 0) = false ∧ decide (1073741824 < go) = false ∧ decide (takes < 0) = false ∧ decide (100000 < takes) = false ∧ decide (wh < 0) = false ∧ decide (65535 < wh) = false) := by
  simp only [decide_eq_true_eq, decide_eq_false_iff_not]
  omega

theorem rem_two (k : Nat) : Int.tmod (k : Int) 2 = ((k % 2 : Nat) : Int) := by rw [Int.tmod_eq_emod_of_nonneg (by omega)]; omega
theorem wrap_succ (k : Nat) (h : k < 40) : wrap64 ((k : Int) + 1) = ((k + 1 : Nat) : Int) := by unfold wrap64; omega
theorem wrap_two (k : Nat) : wrap64 ((k % 2 : Nat) : Int) = ((k % 2 : Nat) : Int) := by unfold wrap64; omega
theorem wrap_next {N : Nat} (h : N < 9223372036854775808) : IntKind.u64.wrap ((N : Int) + 1) = ((N + 1 : Nat) : Int) := by rw [(show ∀ n : Int, IntKind.u64.wrap n = n % 18446744073709551616 from fun n => by simp [IntKind.wrap, IntKind.bits, IntKind.signed])]; omega
theorem sum_go {go takes : Int} (h1 : 0 ≤ go) (h2 : go ≤ 1073741824) (h3 : 0 ≤ takes) (h4 : takes ≤ 100000) : ∃ sg : Int, wrap64 (go + takes) = sg ∧ IsTime sg := ⟨go + takes, by unfold wrap64; omega, by omega, by omega⟩
theorem row_slice {w : World} {B : Nat} {e : TypeId} {k : Nat} {v : Value} {n : Nat} {xs : List Value} (h : w.ownsRow B e k v n xs) : ∃ p c, v = .slice p n c := by
  rcases h.2 with ⟨rfl, h0⟩ | ⟨g, cap, cur, rfl, _⟩
  · subst h0; exact ⟨none, 0, rfl⟩
  · exact ⟨_, _, rfl⟩
theorem lateOk_of {code mark : List Nat} {k : Nat} {F T : Lk} {up : Bool} (h : Ft code mark k F T up) (hx : F.next < 9223372036854775808) {now : Int} {text : List Nat} (hn : text.length ≤ 1196) (hb : BytesN text) (hk : IsKey F.code F.mark) (q : Option Addr) (c : Nat) : LateOk code mark ⟨q, c, sndP F now text, up⟩ :=
  ⟨F, now, text, h.fc, h.fm, h.fd, hx, hn, rfl, sndP_bytes hk _ hb⟩
theorem back {code mark : List Nat} {W w : World} {gu gd gf gt : Nat} {F T : Lk} {k : Nat} {up : Bool} (hf : gf = if up then gu else gd) (ht : gt = if up then gd else gu) (h : TwS W w gf gt F T) (hF : Ft code mark k F T up) : ∃ U D, TwS W w gu gd U D ∧ Ft code mark k U D true := by
  cases up
  · simp only [Bool.false_eq_true, if_false] at hf ht
    subst hf ht
    exact ⟨T, F, tws_swap h, hF.swap⟩
  · simp only [if_true] at hf ht
    subst hf ht
    exact ⟨F, T, h, hF⟩

set_option maxHeartbeats 16000000 in
set_option maxRecDepth 100000 in
theorem walk_in (code mark : List Nat) (sp : Option Addr) (n sc : Nat) (xs : List Wy) (W : World) (hk : IsKey code mark) (hn : xs.length = n) (h40 : n ≤ 40) (hR : RowIn Wy.C 5 W sp xs) (hI : ∀ y ∈ xs, WyIn W y) (h2 : 2 ≤ W.heap.size) (hLB : ∀ v, Below W.heap.size W v → Laid v)
    (hK : ∀ v, Below W.heap.size W v → Calls Tryd.prog 8 #[] v fun e w' => e = .returned (.bool true) ∧ Below v.heap.size v w') :
    Calls Tryd.prog 5 #[keyV code mark, .slice sp n sc] W fun r w' => r = .returned (.bool true) ∧ Below W.heap.size W w' := by
  have HK := hide hK
  have IK := hide hk.info
  have HKY := hide hk
  have H2 := hide h2
  have HLB := hide hLB
  have HRI := hide (And.intro hR hI)
  have HXN := hide hn
  have H40 := hide h40
  have A1 := hide (key_box W code mark)
  have d1 : decide ((40 : Int) < (n : Int)) = false := by simp; omega
  have HN1 : Hid (∀ v : World, Calls Tryd.prog 9 #[keyV code mark, .bool false, .int .u64 0, .int .i64 1] v fun e w' => ∃ g, e = .returned (.tuple #[.pointer (some ⟨g, 0, none⟩), .int .i64 0]) ∧ v.heap.size ≤ g ∧ LkAt w' g (newL code mark false 0 1) ∧ Below v.heap.size v w') := fun v => lnew_ok code mark false 0 1 v hk (by omega) ⟨by omega, by omega⟩
  have HN2 : Hid (∀ v : World, Calls Tryd.prog 9 #[keyV code mark, .bool true, .int .u64 0, .int .i64 2] v fun e w' => ∃ g, e = .returned (.tuple #[.pointer (some ⟨g, 0, none⟩), .int .i64 0]) ∧ v.heap.size ≤ g ∧ LkAt w' g (newL code mark true 0 2) ∧ Below v.heap.size v w') := fun v => lnew_ok code mark true 0 2 v hk (by omega) ⟨by omega, by omega⟩
  have HF0 : Hid (Ft code mark 0 (newL code mark false 0 1) (newL code mark true 0 2) true) := ⟨rfl, rfl, rfl, rfl, rfl, rfl, Nat.le_refl _, Nat.le_refl _, (fun e => by cases e), (fun e => by cases e)⟩
  clear hK hk h2 hLB hR hI hn h40
  go_enter Tryd.func5, Tryd.ntmps5
  go_upto_region 1 with fail
  generalize W.alloc (Obj.cells (kCells code mark).toArray 25) = w1 at *
  go_wp2_with fail
  refine (HK.out w1 A1.out.2).mono ?_
  rintro r w2 ⟨rfl, hb⟩
  have A2 : Hid (Arr w2 W.heap.size 25 (kCells code mark) ∧ Below W.heap.size W w2) := ⟨A1.out.1.kept hb, A1.out.2.trans (hb.mono A1.out.2.size)⟩
  clear hb A1 HK
  go_wp2_with (refine wpList_load_row rfl 25 _ rfl W.heap.size rfl 25 _ (0, 0) _ A2.out.1 Tryd.underlying25 rfl IK.out ?_)
  refine (HN1.out w2).mono ?_
  rintro r w3 ⟨gu, rfl, hu1, hu2, hb⟩
  have A3 : Hid (Arr w3 W.heap.size 25 (kCells code mark) ∧ Below W.heap.size W w3 ∧ W.heap.size ≤ gu ∧ LkAt w3 gu (newL code mark false 0 1)) := ⟨A2.out.1.kept hb, A2.out.2.trans (hb.mono A2.out.2.size), Nat.le_trans A2.out.2.size hu1, hu2⟩
  clear hb A2 HN1 hu1 hu2
  go_wp2_with (refine wpList_load_row rfl 25 _ rfl W.heap.size rfl 25 _ (0, 0) _ A3.out.1 Tryd.underlying25 rfl IK.out ?_)
  refine (HN2.out w3).mono ?_
  rintro r w4 ⟨gd, rfl, hd1, hd2, hb⟩
  have A4 : Hid (TwS W w4 gu gd (newL code mark false 0 1) (newL code mark true 0 2)) := ⟨A3.out.2.2.2.kept hb, hd2, A3.out.2.1.trans (hb.mono A3.out.2.1.size), A3.out.2.2.1, Nat.le_trans A3.out.2.1.size hd1, by have := A3.out.2.2.2.lt; omega⟩
  have L4 : Hid (LtS W w4 code mark (.slice none 0 0) (.slice none 0 0) []) := ⟨World.ownsRow_nil _ _ _ _, World.ownsRow_nil _ _ _ _, fun l hl => by cases hl⟩
  clear hb A3 HN2 hd1 hd2
  go_wp2_with fail
  clear d1
  go_loopg [9, 10, 11] (n + 1) (fun f s9 s10 s11 wr => ∃ (k : Nat) (ls : List LP), s11 = .int .i64 (k : Int) ∧ k ≤ n ∧ n - k < f ∧ ls.length ≤ k ∧ Hid (∃ U D, TwS W wr gu gd U D ∧ Ft code mark k U D true) ∧ Hid (LtS W wr code mark s9 s10 ls))
  case atStart => exact ⟨0, [], rfl, by omega, by omega, Nat.le_refl _, ⟨_, _, A4.out, HF0.out⟩, L4.out⟩
  case round =>
    obtain ⟨k, ls, rfl, hk, hf, hls, HT, HL⟩ := hrel
    clear A4 L4 HF0
    by_cases hkn : k < n
    · have hki : (k : Int) < (n : Int) := by omega
      obtain ⟨U, D, hTw, hFt⟩ := HT.out
      have HTW := hide hTw
      have HFT := hide hFt
      clear hTw hFt HT
      obtain ⟨q, o, y, rfl, hy, hr⟩ := HRI.out.1.at HTW.out.b (by rw [HXN.out]; exact hkn)
      have hyi := HRI.out.2 y (List.mem_of_getElem? hy)
      obtain ⟨m, hm⟩ : ∃ m, y.b.length = m := ⟨_, rfl⟩
      have hpm := hyi.p.2.2.2
      unfold maxLen at hpm
      rw [hm] at hpm
      have HYI := hide hyi
      have HM := hide hm
      obtain ⟨up, tb, tp, tc, go, takes, wh⟩ := y
      simp only at hm
      simp only [Wy.C, hm] at hr
      have HR := hide hr
      have hmc : (m : Int) ≤ 9223372036854775807 := by omega
      clear hy hyi hpm hr hm
      have HWF : Hid ((Lit.int .i64 go).wf = true ∧ (Lit.int .i64 takes).wf = true ∧ (Lit.int .i64 wh).wf = true ∧ Piece W tp tc tb) := ⟨HYI.out.go, HYI.out.takes, HYI.out.wh, HYI.out.p⟩
      have HMB : Hid (tb.length = m) := HM.out
      clear HYI HM
      go_upto_region 15 with (refine wpList_exec (by rfl) _ (exec_load_mid 71 (.tmp 70) rfl q (o + k * 5) rfl (wyL up tp m tc go takes wh) _ HR.out Tryd.underlying71 rfl infoWy) ?_)
      have HBX := hide (wy_box wr up tp m tc go takes wh)
      clear HR
      have HT5 := hide (HTW.out.kept HBX.out.2)
      have HL5 := hide (HL.out.kept HBX.out.2)
      have HX5 := hide HBX.out.1
      clear HBX HTW HL
      generalize wr.alloc (Obj.cells #[Value.bool up, Value.slice tp m tc, Value.int .i64 go, Value.int .i64 takes, Value.int .i64 wh] 71) = w5 at *
      generalize wr.heap.size = gx at *
      have x0 : w5.cell? ⟨gx, 0, none⟩ = some (.bool up) := HX5.out.cell 0
      have x1 : w5.cell? ⟨gx, 1, none⟩ = some (.slice tp m tc) := HX5.out.cell 1
      have x2 : w5.cell? ⟨gx, 2, none⟩ = some (.int .i64 go) := HX5.out.cell 2
      have x3 : w5.cell? ⟨gx, 3, none⟩ = some (.int .i64 takes) := HX5.out.cell 3
      have x4 : w5.cell? ⟨gx, 4, none⟩ = some (.int .i64 wh) := HX5.out.cell 4
      rcases (hcase_of (n := m) (go := go) (takes := takes) (wh := wh)) with h1 | ⟨h1, h2⟩ | ⟨h1, h2, h3⟩ | ⟨h1, h2, h3, h4⟩ | ⟨h1, h2, h3, h4, h5⟩ | ⟨h1, h2, h3, h4, h5, h6⟩ | ⟨h1, h2, h3, h4, h5, h6, h7⟩ | ⟨h1, h2, h3, h4, h5, h6, h7⟩
      iterate 7
        · go_wp2
          go_ret
          exact ⟨rfl, HT5.out.b⟩
      have HBD : Hid (m ≤ 1196 ∧ 0 ≤ go ∧ go ≤ 1073741824 ∧ 0 ≤ takes ∧ takes ≤ 100000 ∧ 0 ≤ wh ∧ wh ≤ 65535) := by
        simp only [decide_eq_false_iff_not] at h1 h2 h3 h4 h5 h6 h7
        show _ ∧ _
        omega
      go_upto_region 17 with fail
      clear h1 h2 h3 h4 h5 h6 h7
      go_upto_if 109 with fail
      go_cut [13, 14] (fun s13 s14 wx => s13 = .pointer (some ⟨if up then gu else gd, 0, none⟩) ∧ s14 = .pointer (some ⟨if up then gd else gu, 0, none⟩) ∧ wx = w5)
      case first =>
        cases up
        · go_wp2
          go_meet
          case rel => exact ⟨rfl, rfl, rfl⟩
        · go_wp2
          go_meet
          case rel => exact ⟨rfl, rfl, rfl⟩
      case rest =>
        obtain ⟨rfl, rfl, rfl⟩ := hcut
        generalize hgf : (if up = true then gu else gd) = gf at *
        generalize hgt : (if up = true then gd else gu) = gt at *
        have HFTT : Hid (∃ F T, TwS W wc gf gt F T ∧ Ft code mark k F T up) := by
          subst hgf hgt
          cases up
          · exact ⟨D, U, tws_swap HT5.out, HFT.out.swap⟩
          · exact ⟨U, D, HT5.out, HFT.out⟩
        have HGF := hide hgf
        have HGT := hide hgt
        clear hgf hgt HT5 HFT
        obtain ⟨F, T, h1, h2⟩ := HFTT.out
        have HTW := hide h1
        have HFT := hide h2
        have HK40 : Hid (k < 40) := by have := H40.out; show _ < _; omega
        have HFX : Hid (F.next < 9223372036854775808) := by have := h2.fn; have := HK40.out; show _ < _; omega
        have HKF : Hid (IsKey F.code F.mark) := by have := HKY.out; rw [← h2.fc, ← h2.fm] at this; exact this
        clear h1 h2 HFTT
        go_wp2_with fail
        refine (next_at wc gf F HTW.out.u).mono ?_
        rintro r wn ⟨rfl, hw⟩
        obtain rfl : wc = wn := hw.symm
        go_wp2_with fail
        refine (send_good gf F tp tc m tb go wc HTW.out.u ⟨HBD.out.2.1, by have := HBD.out.2.2.1; omega⟩ HFX.out (HWF.out.2.2.2.kept HTW.out.b) HMB.out HBD.out.1 (HLB.out _ HTW.out.b) (Nat.le_trans H2.out HTW.out.bu)).mono ?_
        rintro r w6 ⟨t6, rfl, ho, hl6, hg6⟩
        obtain ⟨pa, ca, rfl, _, _⟩ := own_piece_n ho (by rw [sndP_length, HMB.out]) (sndP_bytes HKF.out _ HWF.out.2.2.2.2.2.1)
        have HP6 := hide (own_base ho HTW.out.b.size)
        have HL6 := hide (HL5.out.link HTW.out.u hg6)
        have HX6 := hide (HX5.out.grown hg6 (arr_ne HX5.out HTW.out.u.a (by decide)))
        have HT6 := hide (HTW.out.up hl6 hg6)
        clear ho hl6 hg6 HL5 HX5 HTW x0 x1 x2 x3 x4
        obtain ⟨N1, hN1⟩ : ∃ N1, N1 = F.next + 1 := ⟨_, rfl⟩
        have hwn : IntKind.u64.wrap ((F.next : Int) + 1) = (N1 : Int) := by rw [hN1]; exact wrap_next HFX.out
        have HNT : Hid (Calls Tryd.prog 21 #[.pointer (some ⟨gf, 0, none⟩)] w6 fun r w' => r = .returned (.int .u64 (N1 : Int)) ∧ w' = w6) := by
          have h := next_at w6 gf F.sent HT6.out.u
          rw [show F.sent.next = N1 from hN1.symm] at h
          exact h
        clear hN1
        go_wp2_with fail
        refine HNT.out.mono ?_
        rintro r wn ⟨rfl, hw⟩
        obtain rfl : w6 = wn := hw.symm
        have hm2 := rem_two k
        have hwk := wrap_succ k HK40.out
        have hw2 := wrap_two k
        by_cases hodd : k % 2 = 1
        · as_aux_lemma =>
            rw [hodd] at hm2 hw2
            go_upto_region 25 with fail
            clear hwn HNT hm2 hw2
            have hPL : (sndP F go tb).length = m + 28 := by rw [sndP_length, HMB.out]
            have HAL : Hid (Below w6.heap.size w6 (w6.alloc (Obj.cells #[Value.slice pa (m + 28) ca] 42))) := (Below.refl _ _).alloc (Nat.le_refl _) _
            have HL6a := hide (HL6.out.kept HAL.out)
            have HT6a := hide (HT6.out.kept HAL.out)
            have HX6a := hide (HX6.out.kept HAL.out)
            have HP6a := hide (own_below HP6.out HAL.out)
            have HLS : Hid (ls.length ≤ 1000) := Nat.le_trans hls (Nat.le_trans (Nat.le_of_lt HK40.out) (by decide))
            have HPL := hide hPL
            clear hPL HL6 HT6 HX6 HP6 HAL
            go_upto_region 26 with (at_builtin; refine wpList_append_slice rfl (.tmp 135) (.tmp 137) rfl W.heap.size u9 (ls.map LP.V) rfl ls.length HL6a.out.r9 w6.heap.size pa (m + 28) ca rfl (by simp) HLS.out HT6a.out.b.size ?_; intro v9 w7 hown hgrow)
            have HO9 := hide hown
            have HR7 := hide (lt_slice HL6a.out hgrow hown)
            have HP7 := hide (own_row HP6a.out HL6a.out.r9 hgrow (by decide))
            have HT7 := hide (tws_row HT6a.out HL6a.out.r9 hgrow (by decide))
            have HX7 := hide (HX6a.out.keptR hgrow (own_ne_any HL6a.out.r9 HX6a.out (by decide)))
            clear hown hgrow HL6a HT6a HX6a HP6a
            have x0 : w7.cell? ⟨gx, 0, none⟩ = some (.bool up) := HX7.out.cell 0
            have HAL : Hid (Below w7.heap.size w7 (w7.alloc (Obj.cells #[Value.bool up] 4))) := (Below.refl _ _).alloc (Nat.le_refl _) _
            have HT7a := hide (HT7.out.kept HAL.out)
            have HP7a := hide (own_below HP7.out HAL.out)
            have HO9a := hide (own_below HO9.out HAL.out)
            have HR7a : Hid ((w7.alloc (Obj.cells #[Value.bool up] 4)).ownsRow W.heap.size 4 1 u10 ls.length (ls.map fun l => Value.bool l.wh) ∧ ∀ l ∈ ls, (w7.alloc (Obj.cells #[Value.bool up] 4)).ownsRow W.heap.size 5 1 l.V l.P.length (u8s l.P) ∧ LateOk code mark l) := ⟨own_below HR7.out.1 HAL.out, fun l hl => ⟨own_below (HR7.out.2 l hl).1 HAL.out, (HR7.out.2 l hl).2⟩⟩
            clear HT7 HP7 HO9 HR7 HX7 HAL
            go_wp2_with (at_builtin; refine wpList_append_bool rfl (.tmp 139) (.tmp 142) rfl W.heap.size u10 (ls.map fun l => Value.bool l.wh) rfl ls.length HR7a.out.1 w7.heap.size up rfl (by simp) HLS.out HT7a.out.b.size ?_; intro v10 w8 hown hgrow; have HO10 := hide (And.intro hown hgrow); clear hown hgrow)
            have HT8 := hide (tws_row HT7a.out HR7a.out.1 HO10.out.2 (by decide))
            have HL8 : Hid (LtS W w8 code mark v9 v10 (ls ++ [⟨pa, ca, sndP F go tb, up⟩])) := by
              have e := HPL.out
              have h9 := HO9a.out
              have hp := HP7a.out
              rw [← e] at h9 hp
              exact lt_bool (l := ⟨pa, ca, sndP F go tb, up⟩) h9 HR7a.out.1 HR7a.out.2 hp (lateOk_of HFT.out HFX.out (by rw [HMB.out]; exact HBD.out.1) HWF.out.2.2.2.2.2.1 HKF.out pa ca) HO10.out.2 HO10.out.1
            have HBK := hide (back HGF.out.symm HGT.out.symm HT8.out HFT.out.sent)
            clear HT7a HP7a HO9a HR7a HO10 HT8 x0 hodd
            go_roundg (n - k)
            case measure => exact hf
            case rel => exact ⟨k + 1, ls ++ [(⟨pa, ca, sndP F go tb, up⟩ : LP)], by rw [hwk], hkn, Nat.sub_lt_sub_left hkn (Nat.lt_succ_self k), by rw [List.length_append]; exact Nat.succ_le_succ hls, HBK.out, HL8.out⟩
        · as_aux_lemma =>
            have h0 : k % 2 = 0 := (Nat.mod_two_eq_zero_or_one k).resolve_right hodd
            rw [h0] at hm2 hw2
            go_upto_region 27 with fail
            clear hwn HNT hm2 hw2
            have x2 : w6.cell? ⟨gx, 2, none⟩ = some (.int .i64 go) := HX6.out.cell 2
            have x3 : w6.cell? ⟨gx, 3, none⟩ = some (.int .i64 takes) := HX6.out.cell 3
            have x4 : w6.cell? ⟨gx, 4, none⟩ = some (.int .i64 wh) := HX6.out.cell 4
            obtain ⟨sg, hws, hst⟩ := sum_go HBD.out.2.1 HBD.out.2.2.1 HBD.out.2.2.2.1 HBD.out.2.2.2.2.1
            have HST := hide hst
            obtain ⟨pa', ca', hpv, hpp, _⟩ := own_piece_n HP6.out (by rw [sndP_length, HMB.out]) (sndP_bytes HKF.out _ HWF.out.2.2.2.2.2.1)
            cases hpv
            have hH := hear_snd gt F T pa ca m tb go sg wh w6 HT6.out.d HST.out ⟨HBD.out.2.2.2.2.2.1, HBD.out.2.2.2.2.2.2⟩ HFX.out HMB.out HBD.out.1 (by rw [HFT.out.tc, HFT.out.fc]) (by rw [HFT.out.tm, HFT.out.fm]) (by rw [HFT.out.fd, HFT.out.td]; cases up <;> decide) hpp (HLB.out _ HT6.out.b)
            rw [HFT.out.fresh] at hH
            have HH := hide hH
            have HTD := hide (HFT.out.told (go % 65535) (F.at go) sg wh)
            have HFT7 := hide (HFT.out.heard (go % 65535) (F.at go) sg wh)
            generalize T.took F.next (go % 65535) (F.at go) sg wh = T7 at *
            clear hH hpp hst
            go_wp2_with fail
            clear x2 x3 x4 hws
            refine HH.out.mono ?_
            rintro r w7 ⟨t7, rfl, ho, hl7, hg7⟩
            obtain ⟨p7, c7, rfl, hp7, _⟩ := own_piece_n ho HMB.out HWF.out.2.2.2.2.2.1
            have HQ7 := hide hp7
            have HL7 := hide (HL6.out.link HT6.out.d hg7)
            have HX7 := hide (HX6.out.grown hg7 (arr_ne HX6.out HT6.out.d.a (by decide)))
            have HP7 := hide (row_lk HP6.out HT6.out.d hg7 (by decide))
            have HT7 := hide (HT6.out.down hl7 hg7)
            clear ho hl7 hg7 hp7 HL6 HX6 HP6 HT6 HH
            have hNW := newest_at w7 gt T7 HT7.out.d
            rw [HTD.out.1, HTD.out.2.1] at hNW
            have HNW := hide hNW
            clear hNW
            go_wp2_with fail
            refine HNW.out.mono ?_
            rintro r w8 ⟨rfl, hb⟩
            have HQ8 := hide (HQ7.out.kept hb)
            have HL8 := hide ((HL7.out.kept hb).kept (Below.refl _ _).drew)
            have HX8 := hide ((HX7.out.kept hb).kept (Below.refl _ _).drew)
            have HP8 := hide (own_below (own_below HP7.out hb) (Below.refl _ _).drew)
            have HT8 := hide ((HT7.out.kept hb).kept (Below.refl _ _).drew)
            clear hb HQ7 HL7 HX7 HP7 HT7 HNW
            go_upto_region 29 with fail
            have HX0 : Hid (∀ v, Hid (v = w8.drew) → v.cell? ⟨gx, 0, none⟩ = some (.bool up)) := fun v hv => by rw [hv.out]; exact HX8.out.cell 0
            have HX1 : Hid (∀ v, Hid (v = w8.drew) → v.cell? ⟨gx, 1, none⟩ = some (.slice tp m tc)) := fun v hv => by rw [hv.out]; exact HX8.out.cell 1
            have HX4 : Hid (∀ v, Hid (v = w8.drew) → v.cell? ⟨gx, 4, none⟩ = some (.int .i64 wh)) := fun v hv => by rw [hv.out]; exact HX8.out.cell 4
            have hcv1 := conv_any (HQ8.out.kept (Below.refl _ _).drew).1 (c := c7) m HMB.out
            have hcv2 := conv_any (HWF.out.2.2.2.kept HT8.out.b).1 (c := tc) m HMB.out
            generalize strF tb = SB at *
            go_cut [196] (fun s196 wx => s196 = .bool false ∧ wx = w8.drew)
            case first =>
              clear HL8 HP8
              cases hup : up
              · rw [hup] at HX0
                clear HX4
                refine wp_region_held_drew (S := fun v => Hid (v = w8.drew)) (by kernel_rfl) (hide rfl) (fun hHeld => ?_)
                refine take_dstH (i := 0) (d := 163) (v := ?_) rfl rfl (by kernel_rfl) (by kernel_rfl) (by kernel_rfl) (fun _ _ _ h => h) (by rfl) hHeld ?_ ?_
                rotate_left
                · intro wZ hSw; clear hSw; go_simp; first | (with_reducible rfl) | (rw [if_pos (by omega)]; with_reducible rfl) | skip
                try simp only [Act.put, List.setIfInBounds_toArray, List.set_cons_zero, List.set_cons_succ]
                refine take_dstH (i := 1) (d := 164) (v := ?_) rfl rfl (by kernel_rfl) (by kernel_rfl) (by kernel_rfl) (fun _ _ _ h => h) (by rfl) hHeld ?_ ?_
                rotate_left
                · intro wZ hSw; clear hSw; go_simp; first | (with_reducible rfl) | (rw [if_pos (by omega)]; with_reducible rfl) | skip
                try simp only [Act.put, List.setIfInBounds_toArray, List.set_cons_zero, List.set_cons_succ]
                refine take_dstH (i := 2) (d := 165) (v := ?_) rfl rfl (by kernel_rfl) (by kernel_rfl) (by kernel_rfl) (fun _ _ _ h => h) (by rfl) hHeld ?_ ?_
                rotate_left
                · intro wZ hSw; clear hSw; go_simp; first | (with_reducible rfl) | (rw [if_pos (by omega)]; with_reducible rfl) | skip
                try simp only [Act.put, List.setIfInBounds_toArray, List.set_cons_zero, List.set_cons_succ]
                refine take_dstH (i := 3) (d := 166) (v := ?_) rfl rfl (by kernel_rfl) (by kernel_rfl) (by kernel_rfl) (fun _ _ _ h => h) (by rfl) hHeld ?_ ?_
                rotate_left
                · intro wZ hSw; clear hSw; go_simp; first | (with_reducible rfl) | (rw [if_pos (by omega)]; with_reducible rfl) | skip
                try simp only [Act.put, List.setIfInBounds_toArray, List.set_cons_zero, List.set_cons_succ]
                refine take_dstH (i := 4) (d := 167) (v := ?_) rfl rfl (by kernel_rfl) (by kernel_rfl) (by kernel_rfl) (fun _ _ _ h => h) (by rfl) hHeld ?_ ?_
                rotate_left
                · intro wZ hSw; clear hSw; go_simp; first | (with_reducible rfl) | (rw [if_pos (by omega)]; with_reducible rfl) | skip
                try simp only [Act.put, List.setIfInBounds_toArray, List.set_cons_zero, List.set_cons_succ]
                refine take_dstH (i := 5) (d := 168) (v := ?_) rfl rfl (by kernel_rfl) (by kernel_rfl) (by kernel_rfl) (fun _ _ _ h => h) (by rfl) hHeld ?_ ?_
                rotate_left
                · intro wZ hSw; clear hSw; go_simp; first | (with_reducible rfl) | (rw [if_pos (by omega)]; with_reducible rfl) | skip
                try simp only [Act.put, List.setIfInBounds_toArray, List.set_cons_zero, List.set_cons_succ]
                refine take_dstH (i := 6) (d := 169) (v := ?_) rfl rfl (by kernel_rfl) (by kernel_rfl) (by kernel_rfl) (fun _ _ _ h => h) (by rfl) hHeld ?_ ?_
                rotate_left
                · intro wZ hSw; clear hSw; go_simp; first | (with_reducible rfl) | (rw [if_pos (by omega)]; with_reducible rfl) | skip
                try simp only [Act.put, List.setIfInBounds_toArray, List.set_cons_zero, List.set_cons_succ]
                refine take_dstH (i := 7) (d := 170) (v := ?_) rfl rfl (by kernel_rfl) (by kernel_rfl) (by kernel_rfl) (fun _ _ _ h => h) (by rfl) hHeld ?_ ?_
                rotate_left
                · intro wZ hSw; clear hSw; go_simp; first | (with_reducible rfl) | (rw [if_pos (by omega)]; with_reducible rfl) | skip
                try simp only [Act.put, List.setIfInBounds_toArray, List.set_cons_zero, List.set_cons_succ]
                refine take_dstH (i := 9) (d := 172) (v := ?_) rfl rfl (by kernel_rfl) (by kernel_rfl) (by kernel_rfl) (fun _ _ _ h => h) (by rfl) hHeld ?_ ?_
                rotate_left
                · intro wZ hSw; clear hSw; go_simp; first | (with_reducible rfl) | (rw [if_pos (by omega)]; with_reducible rfl) | skip
                try simp only [Act.put, List.setIfInBounds_toArray, List.set_cons_zero, List.set_cons_succ]
                refine take_dstH (i := 10) (d := 173) (v := ?_) rfl rfl (by kernel_rfl) (by kernel_rfl) (by kernel_rfl) (fun _ _ _ h => h) (by rfl) hHeld ?_ ?_
                rotate_left
                · intro wZ hSw; have hfS := HX1.out wZ hSw; clear hSw; go_simp; first | (with_reducible rfl) | (rw [if_pos (by omega)]; with_reducible rfl) | skip
                try simp only [Act.put, List.setIfInBounds_toArray, List.set_cons_zero, List.set_cons_succ]
                refine wpAnyH_ready (rs := [8, 11]) (by kernel_rfl) (by simp) ?_
                refine (AllReadyH.cons rfl (fun K hK => ?_) (AllReadyH.cons rfl (fun K hK => ?_) AllReadyH.nil))
                focus
                  go_simp
                  refine hK.out _ _ ?_ (fun hHeld => ?_)
                  · exact hHeld
                  clear hK K
                  try simp only [Act.put, List.setIfInBounds_toArray, List.set_cons_zero, List.set_cons_succ]
                  refine wpAnyH_ready (rs := [11]) (by kernel_rfl) (by simp) ?_
                  refine (AllReadyH.cons rfl (fun K hK => ?_) AllReadyH.nil)
                  go_simp
                  refine hK.out _ _ ?_ (fun hHeld => ?_)
                  · exact hHeld
                  clear hK K
                  try simp only [Act.put, List.setIfInBounds_toArray, List.set_cons_zero, List.set_cons_succ]
                  refine take_dstH (i := 12) (d := 175) (v := ?_) rfl rfl (by kernel_rfl) (by kernel_rfl) (by kernel_rfl) (fun _ _ _ h => h) (by rfl) hHeld ?_ ?_
                  rotate_left
                  · intro wZ hSw; clear hSw; go_simp; first | (with_reducible rfl) | (rw [if_pos (by omega)]; with_reducible rfl) | skip
                  try simp only [Act.put, List.setIfInBounds_toArray, List.set_cons_zero, List.set_cons_succ]
                  refine take_dstH (i := 13) (d := 176) (v := ?_) rfl rfl (by kernel_rfl) (by kernel_rfl) (by kernel_rfl) (fun _ _ _ h => h) (by rfl) hHeld ?_ ?_
                  rotate_left
                  · intro wZ hSw; clear hSw; go_simp; first | (with_reducible rfl) | (rw [if_pos (by omega)]; with_reducible rfl) | skip
                  try simp only [Act.put, List.setIfInBounds_toArray, List.set_cons_zero, List.set_cons_succ]
                  refine take_dstH (i := 14) (d := 177) (v := ?_) rfl rfl (by kernel_rfl) (by kernel_rfl) (by kernel_rfl) (fun _ _ _ h => h) (by rfl) hHeld ?_ ?_
                  rotate_left
                  · intro wZ hSw; clear hSw; go_simp; first | (with_reducible rfl) | (rw [if_pos (by omega)]; with_reducible rfl) | skip
                  try simp only [Act.put, List.setIfInBounds_toArray, List.set_cons_zero, List.set_cons_succ]
                  refine take_dstH (i := 15) (d := 178) (v := ?_) rfl rfl (by kernel_rfl) (by kernel_rfl) (by kernel_rfl) (fun _ _ _ h => h) (by rfl) hHeld ?_ ?_
                  rotate_left
                  · intro wZ hSw; clear hSw; go_simp; first | (with_reducible rfl) | (rw [if_pos (by omega)]; with_reducible rfl) | skip
                  try simp only [Act.put, List.setIfInBounds_toArray, List.set_cons_zero, List.set_cons_succ]
                  refine take_dstH (i := 16) (d := 179) (v := ?_) rfl rfl (by kernel_rfl) (by kernel_rfl) (by kernel_rfl) (fun _ _ _ h => h) (by rfl) hHeld ?_ ?_
                  rotate_left
                  · intro wZ hSw; clear hSw; go_simp; first | (with_reducible rfl) | (rw [if_pos (by omega)]; with_reducible rfl) | skip
                  try simp only [Act.put, List.setIfInBounds_toArray, List.set_cons_zero, List.set_cons_succ]
                  refine take_dstH (i := 17) (d := 180) (v := ?_) rfl rfl (by kernel_rfl) (by kernel_rfl) (by kernel_rfl) (fun _ _ _ h => h) (by rfl) hHeld ?_ ?_
                  rotate_left
                  · intro wZ hSw; clear hSw; go_simp; first | (with_reducible rfl) | (rw [if_pos (by omega)]; with_reducible rfl) | skip
                  try simp only [Act.put, List.setIfInBounds_toArray, List.set_cons_zero, List.set_cons_succ]
                  refine take_dstH (i := 18) (d := 181) (v := ?_) rfl rfl (by kernel_rfl) (by kernel_rfl) (by kernel_rfl) (fun _ _ _ h => h) (by rfl) hHeld ?_ ?_
                  rotate_left
                  · intro wZ hSw; clear hSw; go_simp; first | (with_reducible rfl) | (rw [if_pos (by omega)]; with_reducible rfl) | skip
                  try simp only [Act.put, List.setIfInBounds_toArray, List.set_cons_zero, List.set_cons_succ]
                  refine take_dstH (i := 19) (d := 182) (v := ?_) rfl rfl (by kernel_rfl) (by kernel_rfl) (by kernel_rfl) (fun _ _ _ h => h) (by rfl) hHeld ?_ ?_
                  rotate_left
                  · intro wZ hSw; clear hSw; go_simp; first | (with_reducible rfl) | (rw [if_pos (by omega)]; with_reducible rfl) | skip
                  try simp only [Act.put, List.setIfInBounds_toArray, List.set_cons_zero, List.set_cons_succ]
                  refine take_dstH (i := 20) (d := 183) (v := ?_) rfl rfl (by kernel_rfl) (by kernel_rfl) (by kernel_rfl) (fun _ _ _ h => h) (by rfl) hHeld ?_ ?_
                  rotate_left
                  · intro wZ hSw; clear hSw; go_simp; first | (with_reducible rfl) | (rw [if_pos (by omega)]; with_reducible rfl) | skip
                  try simp only [Act.put, List.setIfInBounds_toArray, List.set_cons_zero, List.set_cons_succ]
                  refine take_dstH (i := 21) (d := 184) (v := ?_) rfl rfl (by kernel_rfl) (by kernel_rfl) (by kernel_rfl) (fun _ _ _ h => h) (by rfl) hHeld ?_ ?_
                  rotate_left
                  · intro wZ hSw; clear hSw; go_simp; first | (with_reducible rfl) | (rw [if_pos (by omega)]; with_reducible rfl) | skip
                  try simp only [Act.put, List.setIfInBounds_toArray, List.set_cons_zero, List.set_cons_succ]
                  refine take_dstH (i := 22) (d := 185) (v := ?_) rfl rfl (by kernel_rfl) (by kernel_rfl) (by kernel_rfl) (fun _ _ _ h => h) (by rfl) hHeld ?_ ?_
                  rotate_left
                  · intro wZ hSw; clear hSw; go_simp; first | (with_reducible rfl) | (rw [if_pos (by omega)]; with_reducible rfl) | skip
                  try simp only [Act.put, List.setIfInBounds_toArray, List.set_cons_zero, List.set_cons_succ]
                  refine take_dstH (i := 23) (d := 186) (v := ?_) rfl rfl (by kernel_rfl) (by kernel_rfl) (by kernel_rfl) (fun _ _ _ h => h) (by rfl) hHeld ?_ ?_
                  rotate_left
                  · intro wZ hSw; clear hSw; go_simp; first | (with_reducible rfl) | (rw [if_pos (by omega)]; with_reducible rfl) | skip
                  try simp only [Act.put, List.setIfInBounds_toArray, List.set_cons_zero, List.set_cons_succ]
                  refine take_dstH (i := 24) (d := 187) (v := ?_) rfl rfl (by kernel_rfl) (by kernel_rfl) (by kernel_rfl) (fun _ _ _ h => h) (by rfl) hHeld ?_ ?_
                  rotate_left
                  · intro wZ hSw; clear hSw; go_simp; first | (with_reducible rfl) | (rw [if_pos (by omega)]; with_reducible rfl) | skip
                  try simp only [Act.put, List.setIfInBounds_toArray, List.set_cons_zero, List.set_cons_succ]
                  refine take_dstH (i := 25) (d := 188) (v := ?_) rfl rfl (by kernel_rfl) (by kernel_rfl) (by kernel_rfl) (fun _ _ _ h => h) (by rfl) hHeld ?_ ?_
                  rotate_left
                  · intro wZ hSw; have hfS := HX0.out wZ hSw; clear hSw; go_simp; first | (with_reducible rfl) | (rw [if_pos (by omega)]; with_reducible rfl) | skip
                  try simp only [Act.put, List.setIfInBounds_toArray, List.set_cons_zero, List.set_cons_succ]
                  refine take_dstH (i := 26) (d := 189) (v := ?_) rfl rfl (by kernel_rfl) (by kernel_rfl) (by kernel_rfl) (fun _ _ _ h => h) (by rfl) hHeld ?_ ?_
                  rotate_left
                  · intro wZ hSw; clear hSw; go_simp; first | (with_reducible rfl) | (rw [if_pos (by omega)]; with_reducible rfl) | skip
                  try simp only [Act.put, List.setIfInBounds_toArray, List.set_cons_zero, List.set_cons_succ]
                  refine skip_dstH (i := 27) (d := 190) rfl rfl (by kernel_rfl) (by kernel_rfl) (by kernel_rfl) (fun _ _ _ h => h) (by rfl) hHeld ?_
                  try simp only [Act.put, List.setIfInBounds_toArray, List.set_cons_zero, List.set_cons_succ]
                  refine skip_dstH (i := 28) (d := 191) rfl rfl (by kernel_rfl) (by kernel_rfl) (by kernel_rfl) (fun _ _ _ h => h) (by rfl) hHeld ?_
                  try simp only [Act.put, List.setIfInBounds_toArray, List.set_cons_zero, List.set_cons_succ]
                  refine skip_dstH (i := 29) (d := 192) rfl rfl (by kernel_rfl) (by kernel_rfl) (by kernel_rfl) (fun _ _ _ h => h) (by rfl) hHeld ?_
                  try simp only [Act.put, List.setIfInBounds_toArray, List.set_cons_zero, List.set_cons_succ]
                  refine skip_dstH (i := 30) (d := 193) rfl rfl (by kernel_rfl) (by kernel_rfl) (by kernel_rfl) (fun _ _ _ h => h) (by rfl) hHeld ?_
                  try simp only [Act.put, List.setIfInBounds_toArray, List.set_cons_zero, List.set_cons_succ]
                  refine skip_dstH (i := 31) (d := 194) rfl rfl (by kernel_rfl) (by kernel_rfl) (by kernel_rfl) (fun _ _ _ h => h) (by rfl) hHeld ?_
                  try simp only [Act.put, List.setIfInBounds_toArray, List.set_cons_zero, List.set_cons_succ]
                  refine take_dstH (i := 32) (d := 195) (v := ?_) rfl rfl (by kernel_rfl) (by kernel_rfl) (by kernel_rfl) (fun _ _ _ h => h) (by rfl) hHeld ?_ ?_
                  rotate_left
                  · intro wZ hSw; clear hSw; go_simp; first | (with_reducible rfl) | (rw [if_pos (by omega)]; with_reducible rfl) | skip
                  try simp only [Act.put, List.setIfInBounds_toArray, List.set_cons_zero, List.set_cons_succ]
                  refine take_dstH (i := 33) (d := 196) (v := ?_) rfl rfl (by kernel_rfl) (by kernel_rfl) (by kernel_rfl) (fun _ _ _ h => h) (by rfl) hHeld ?_ ?_
                  rotate_left
                  · intro wZ hSw; clear hSw; go_simp; first | (with_reducible rfl) | (rw [if_pos (by omega)]; with_reducible rfl) | skip
                  try simp only [Act.put, List.setIfInBounds_toArray, List.set_cons_zero, List.set_cons_succ]
                  refine wpAnyH_done (by kernel_rfl) ?_ _
                rotate_left 1
                focus
                  go_simp
                  refine hK.out _ _ ?_ (fun hHeld => ?_)
                  · exact hHeld
                  clear hK K
                  try simp only [Act.put, List.setIfInBounds_toArray, List.set_cons_zero, List.set_cons_succ]
                  refine wpAnyH_ready (rs := [8]) (by kernel_rfl) (by simp) ?_
                  refine (AllReadyH.cons rfl (fun K hK => ?_) AllReadyH.nil)
                  go_simp
                  refine hK.out _ _ ?_ (fun hHeld => ?_)
                  · exact hHeld
                  clear hK K
                  try simp only [Act.put, List.setIfInBounds_toArray, List.set_cons_zero, List.set_cons_succ]
                  refine take_dstH (i := 12) (d := 175) (v := ?_) rfl rfl (by kernel_rfl) (by kernel_rfl) (by kernel_rfl) (fun _ _ _ h => h) (by rfl) hHeld ?_ ?_
                  rotate_left
                  · intro wZ hSw; clear hSw; go_simp; first | (with_reducible rfl) | (rw [if_pos (by omega)]; with_reducible rfl) | skip
                  try simp only [Act.put, List.setIfInBounds_toArray, List.set_cons_zero, List.set_cons_succ]
                  refine take_dstH (i := 13) (d := 176) (v := ?_) rfl rfl (by kernel_rfl) (by kernel_rfl) (by kernel_rfl) (fun _ _ _ h => h) (by rfl) hHeld ?_ ?_
                  rotate_left
                  · intro wZ hSw; clear hSw; go_simp; first | (with_reducible rfl) | (rw [if_pos (by omega)]; with_reducible rfl) | skip
                  try simp only [Act.put, List.setIfInBounds_toArray, List.set_cons_zero, List.set_cons_succ]
                  refine take_dstH (i := 14) (d := 177) (v := ?_) rfl rfl (by kernel_rfl) (by kernel_rfl) (by kernel_rfl) (fun _ _ _ h => h) (by rfl) hHeld ?_ ?_
                  rotate_left
                  · intro wZ hSw; clear hSw; go_simp; first | (with_reducible rfl) | (rw [if_pos (by omega)]; with_reducible rfl) | skip
                  try simp only [Act.put, List.setIfInBounds_toArray, List.set_cons_zero, List.set_cons_succ]
                  refine take_dstH (i := 15) (d := 178) (v := ?_) rfl rfl (by kernel_rfl) (by kernel_rfl) (by kernel_rfl) (fun _ _ _ h => h) (by rfl) hHeld ?_ ?_
                  rotate_left
                  · intro wZ hSw; clear hSw; go_simp; first | (with_reducible rfl) | (rw [if_pos (by omega)]; with_reducible rfl) | skip
                  try simp only [Act.put, List.setIfInBounds_toArray, List.set_cons_zero, List.set_cons_succ]
                  refine take_dstH (i := 16) (d := 179) (v := ?_) rfl rfl (by kernel_rfl) (by kernel_rfl) (by kernel_rfl) (fun _ _ _ h => h) (by rfl) hHeld ?_ ?_
                  rotate_left
                  · intro wZ hSw; clear hSw; go_simp; first | (with_reducible rfl) | (rw [if_pos (by omega)]; with_reducible rfl) | skip
                  try simp only [Act.put, List.setIfInBounds_toArray, List.set_cons_zero, List.set_cons_succ]
                  refine take_dstH (i := 17) (d := 180) (v := ?_) rfl rfl (by kernel_rfl) (by kernel_rfl) (by kernel_rfl) (fun _ _ _ h => h) (by rfl) hHeld ?_ ?_
                  rotate_left
                  · intro wZ hSw; clear hSw; go_simp; first | (with_reducible rfl) | (rw [if_pos (by omega)]; with_reducible rfl) | skip
                  try simp only [Act.put, List.setIfInBounds_toArray, List.set_cons_zero, List.set_cons_succ]
                  refine take_dstH (i := 18) (d := 181) (v := ?_) rfl rfl (by kernel_rfl) (by kernel_rfl) (by kernel_rfl) (fun _ _ _ h => h) (by rfl) hHeld ?_ ?_
                  rotate_left
                  · intro wZ hSw; clear hSw; go_simp; first | (with_reducible rfl) | (rw [if_pos (by omega)]; with_reducible rfl) | skip
                  try simp only [Act.put, List.setIfInBounds_toArray, List.set_cons_zero, List.set_cons_succ]
                  refine take_dstH (i := 19) (d := 182) (v := ?_) rfl rfl (by kernel_rfl) (by kernel_rfl) (by kernel_rfl) (fun _ _ _ h => h) (by rfl) hHeld ?_ ?_
                  rotate_left
                  · intro wZ hSw; clear hSw; go_simp; first | (with_reducible rfl) | (rw [if_pos (by omega)]; with_reducible rfl) | skip
                  try simp only [Act.put, List.setIfInBounds_toArray, List.set_cons_zero, List.set_cons_succ]
                  refine take_dstH (i := 20) (d := 183) (v := ?_) rfl rfl (by kernel_rfl) (by kernel_rfl) (by kernel_rfl) (fun _ _ _ h => h) (by rfl) hHeld ?_ ?_
                  rotate_left
                  · intro wZ hSw; clear hSw; go_simp; first | (with_reducible rfl) | (rw [if_pos (by omega)]; with_reducible rfl) | skip
                  try simp only [Act.put, List.setIfInBounds_toArray, List.set_cons_zero, List.set_cons_succ]
                  refine take_dstH (i := 21) (d := 184) (v := ?_) rfl rfl (by kernel_rfl) (by kernel_rfl) (by kernel_rfl) (fun _ _ _ h => h) (by rfl) hHeld ?_ ?_
                  rotate_left
                  · intro wZ hSw; clear hSw; go_simp; first | (with_reducible rfl) | (rw [if_pos (by omega)]; with_reducible rfl) | skip
                  try simp only [Act.put, List.setIfInBounds_toArray, List.set_cons_zero, List.set_cons_succ]
                  refine take_dstH (i := 22) (d := 185) (v := ?_) rfl rfl (by kernel_rfl) (by kernel_rfl) (by kernel_rfl) (fun _ _ _ h => h) (by rfl) hHeld ?_ ?_
                  rotate_left
                  · intro wZ hSw; clear hSw; go_simp; first | (with_reducible rfl) | (rw [if_pos (by omega)]; with_reducible rfl) | skip
                  try simp only [Act.put, List.setIfInBounds_toArray, List.set_cons_zero, List.set_cons_succ]
                  refine take_dstH (i := 23) (d := 186) (v := ?_) rfl rfl (by kernel_rfl) (by kernel_rfl) (by kernel_rfl) (fun _ _ _ h => h) (by rfl) hHeld ?_ ?_
                  rotate_left
                  · intro wZ hSw; clear hSw; go_simp; first | (with_reducible rfl) | (rw [if_pos (by omega)]; with_reducible rfl) | skip
                  try simp only [Act.put, List.setIfInBounds_toArray, List.set_cons_zero, List.set_cons_succ]
                  refine take_dstH (i := 24) (d := 187) (v := ?_) rfl rfl (by kernel_rfl) (by kernel_rfl) (by kernel_rfl) (fun _ _ _ h => h) (by rfl) hHeld ?_ ?_
                  rotate_left
                  · intro wZ hSw; clear hSw; go_simp; first | (with_reducible rfl) | (rw [if_pos (by omega)]; with_reducible rfl) | skip
                  try simp only [Act.put, List.setIfInBounds_toArray, List.set_cons_zero, List.set_cons_succ]
                  refine take_dstH (i := 25) (d := 188) (v := ?_) rfl rfl (by kernel_rfl) (by kernel_rfl) (by kernel_rfl) (fun _ _ _ h => h) (by rfl) hHeld ?_ ?_
                  rotate_left
                  · intro wZ hSw; have hfS := HX0.out wZ hSw; clear hSw; go_simp; first | (with_reducible rfl) | (rw [if_pos (by omega)]; with_reducible rfl) | skip
                  try simp only [Act.put, List.setIfInBounds_toArray, List.set_cons_zero, List.set_cons_succ]
                  refine take_dstH (i := 26) (d := 189) (v := ?_) rfl rfl (by kernel_rfl) (by kernel_rfl) (by kernel_rfl) (fun _ _ _ h => h) (by rfl) hHeld ?_ ?_
                  rotate_left
                  · intro wZ hSw; clear hSw; go_simp; first | (with_reducible rfl) | (rw [if_pos (by omega)]; with_reducible rfl) | skip
                  try simp only [Act.put, List.setIfInBounds_toArray, List.set_cons_zero, List.set_cons_succ]
                  refine skip_dstH (i := 27) (d := 190) rfl rfl (by kernel_rfl) (by kernel_rfl) (by kernel_rfl) (fun _ _ _ h => h) (by rfl) hHeld ?_
                  try simp only [Act.put, List.setIfInBounds_toArray, List.set_cons_zero, List.set_cons_succ]
                  refine skip_dstH (i := 28) (d := 191) rfl rfl (by kernel_rfl) (by kernel_rfl) (by kernel_rfl) (fun _ _ _ h => h) (by rfl) hHeld ?_
                  try simp only [Act.put, List.setIfInBounds_toArray, List.set_cons_zero, List.set_cons_succ]
                  refine skip_dstH (i := 29) (d := 192) rfl rfl (by kernel_rfl) (by kernel_rfl) (by kernel_rfl) (fun _ _ _ h => h) (by rfl) hHeld ?_
                  try simp only [Act.put, List.setIfInBounds_toArray, List.set_cons_zero, List.set_cons_succ]
                  refine skip_dstH (i := 30) (d := 193) rfl rfl (by kernel_rfl) (by kernel_rfl) (by kernel_rfl) (fun _ _ _ h => h) (by rfl) hHeld ?_
                  try simp only [Act.put, List.setIfInBounds_toArray, List.set_cons_zero, List.set_cons_succ]
                  refine skip_dstH (i := 31) (d := 194) rfl rfl (by kernel_rfl) (by kernel_rfl) (by kernel_rfl) (fun _ _ _ h => h) (by rfl) hHeld ?_
                  try simp only [Act.put, List.setIfInBounds_toArray, List.set_cons_zero, List.set_cons_succ]
                  refine take_dstH (i := 32) (d := 195) (v := ?_) rfl rfl (by kernel_rfl) (by kernel_rfl) (by kernel_rfl) (fun _ _ _ h => h) (by rfl) hHeld ?_ ?_
                  rotate_left
                  · intro wZ hSw; clear hSw; go_simp; first | (with_reducible rfl) | (rw [if_pos (by omega)]; with_reducible rfl) | skip
                  try simp only [Act.put, List.setIfInBounds_toArray, List.set_cons_zero, List.set_cons_succ]
                  refine take_dstH (i := 33) (d := 196) (v := ?_) rfl rfl (by kernel_rfl) (by kernel_rfl) (by kernel_rfl) (fun _ _ _ h => h) (by rfl) hHeld ?_ ?_
                  rotate_left
                  · intro wZ hSw; clear hSw; go_simp; first | (with_reducible rfl) | (rw [if_pos (by omega)]; with_reducible rfl) | skip
                  try simp only [Act.put, List.setIfInBounds_toArray, List.set_cons_zero, List.set_cons_succ]
                  refine wpAnyH_done (by kernel_rfl) ?_ _
                all_goals
                  go_wp2_with fail
                  go_meet
                  case rel => exact ⟨rfl, rfl⟩
              · have hgd : gd = gt := by have h := HGT.out; rw [hup] at h; exact h
                have HADR : Hid (Calls Tryd.prog 20 #[.pointer (some ⟨gd, 0, none⟩)] w8.drew fun r w' => r = .returned (.int .i64 wh) ∧ w' = w8.drew) := by
                  have h := addr_at w8.drew gt T7 HT8.out.d
                  rw [HTD.out.2.2.1 hup, ← hgd] at h
                  exact h
                rw [hup] at HX0
                clear hgd
                refine wp_region_held_drew (S := fun v => Hid (v = w8.drew)) (by kernel_rfl) (hide rfl) (fun hHeld => ?_)
                refine take_dstH (i := 0) (d := 163) (v := ?_) rfl rfl (by kernel_rfl) (by kernel_rfl) (by kernel_rfl) (fun _ _ _ h => h) (by rfl) hHeld ?_ ?_
                rotate_left
                · intro wZ hSw; clear hSw; go_simp; first | (with_reducible rfl) | (rw [if_pos (by omega)]; with_reducible rfl) | skip
                try simp only [Act.put, List.setIfInBounds_toArray, List.set_cons_zero, List.set_cons_succ]
                refine take_dstH (i := 1) (d := 164) (v := ?_) rfl rfl (by kernel_rfl) (by kernel_rfl) (by kernel_rfl) (fun _ _ _ h => h) (by rfl) hHeld ?_ ?_
                rotate_left
                · intro wZ hSw; clear hSw; go_simp; first | (with_reducible rfl) | (rw [if_pos (by omega)]; with_reducible rfl) | skip
                try simp only [Act.put, List.setIfInBounds_toArray, List.set_cons_zero, List.set_cons_succ]
                refine take_dstH (i := 2) (d := 165) (v := ?_) rfl rfl (by kernel_rfl) (by kernel_rfl) (by kernel_rfl) (fun _ _ _ h => h) (by rfl) hHeld ?_ ?_
                rotate_left
                · intro wZ hSw; clear hSw; go_simp; first | (with_reducible rfl) | (rw [if_pos (by omega)]; with_reducible rfl) | skip
                try simp only [Act.put, List.setIfInBounds_toArray, List.set_cons_zero, List.set_cons_succ]
                refine take_dstH (i := 3) (d := 166) (v := ?_) rfl rfl (by kernel_rfl) (by kernel_rfl) (by kernel_rfl) (fun _ _ _ h => h) (by rfl) hHeld ?_ ?_
                rotate_left
                · intro wZ hSw; clear hSw; go_simp; first | (with_reducible rfl) | (rw [if_pos (by omega)]; with_reducible rfl) | skip
                try simp only [Act.put, List.setIfInBounds_toArray, List.set_cons_zero, List.set_cons_succ]
                refine take_dstH (i := 4) (d := 167) (v := ?_) rfl rfl (by kernel_rfl) (by kernel_rfl) (by kernel_rfl) (fun _ _ _ h => h) (by rfl) hHeld ?_ ?_
                rotate_left
                · intro wZ hSw; clear hSw; go_simp; first | (with_reducible rfl) | (rw [if_pos (by omega)]; with_reducible rfl) | skip
                try simp only [Act.put, List.setIfInBounds_toArray, List.set_cons_zero, List.set_cons_succ]
                refine take_dstH (i := 5) (d := 168) (v := ?_) rfl rfl (by kernel_rfl) (by kernel_rfl) (by kernel_rfl) (fun _ _ _ h => h) (by rfl) hHeld ?_ ?_
                rotate_left
                · intro wZ hSw; clear hSw; go_simp; first | (with_reducible rfl) | (rw [if_pos (by omega)]; with_reducible rfl) | skip
                try simp only [Act.put, List.setIfInBounds_toArray, List.set_cons_zero, List.set_cons_succ]
                refine take_dstH (i := 6) (d := 169) (v := ?_) rfl rfl (by kernel_rfl) (by kernel_rfl) (by kernel_rfl) (fun _ _ _ h => h) (by rfl) hHeld ?_ ?_
                rotate_left
                · intro wZ hSw; clear hSw; go_simp; first | (with_reducible rfl) | (rw [if_pos (by omega)]; with_reducible rfl) | skip
                try simp only [Act.put, List.setIfInBounds_toArray, List.set_cons_zero, List.set_cons_succ]
                refine take_dstH (i := 7) (d := 170) (v := ?_) rfl rfl (by kernel_rfl) (by kernel_rfl) (by kernel_rfl) (fun _ _ _ h => h) (by rfl) hHeld ?_ ?_
                rotate_left
                · intro wZ hSw; clear hSw; go_simp; first | (with_reducible rfl) | (rw [if_pos (by omega)]; with_reducible rfl) | skip
                try simp only [Act.put, List.setIfInBounds_toArray, List.set_cons_zero, List.set_cons_succ]
                refine take_dstH (i := 9) (d := 172) (v := ?_) rfl rfl (by kernel_rfl) (by kernel_rfl) (by kernel_rfl) (fun _ _ _ h => h) (by rfl) hHeld ?_ ?_
                rotate_left
                · intro wZ hSw; clear hSw; go_simp; first | (with_reducible rfl) | (rw [if_pos (by omega)]; with_reducible rfl) | skip
                try simp only [Act.put, List.setIfInBounds_toArray, List.set_cons_zero, List.set_cons_succ]
                refine take_dstH (i := 10) (d := 173) (v := ?_) rfl rfl (by kernel_rfl) (by kernel_rfl) (by kernel_rfl) (fun _ _ _ h => h) (by rfl) hHeld ?_ ?_
                rotate_left
                · intro wZ hSw; have hfS := HX1.out wZ hSw; clear hSw; go_simp; first | (with_reducible rfl) | (rw [if_pos (by omega)]; with_reducible rfl) | skip
                try simp only [Act.put, List.setIfInBounds_toArray, List.set_cons_zero, List.set_cons_succ]
                refine wpAnyH_ready (rs := [8, 11]) (by kernel_rfl) (by simp) ?_
                refine (AllReadyH.cons rfl (fun K hK => ?_) (AllReadyH.cons rfl (fun K hK => ?_) AllReadyH.nil))
                focus
                  go_simp
                  refine hK.out _ _ ?_ (fun hHeld => ?_)
                  · exact hHeld
                  clear hK K
                  try simp only [Act.put, List.setIfInBounds_toArray, List.set_cons_zero, List.set_cons_succ]
                  refine wpAnyH_ready (rs := [11]) (by kernel_rfl) (by simp) ?_
                  refine (AllReadyH.cons rfl (fun K hK => ?_) AllReadyH.nil)
                  go_simp
                  refine hK.out _ _ ?_ (fun hHeld => ?_)
                  · exact hHeld
                  clear hK K
                  try simp only [Act.put, List.setIfInBounds_toArray, List.set_cons_zero, List.set_cons_succ]
                  refine take_dstH (i := 12) (d := 175) (v := ?_) rfl rfl (by kernel_rfl) (by kernel_rfl) (by kernel_rfl) (fun _ _ _ h => h) (by rfl) hHeld ?_ ?_
                  rotate_left
                  · intro wZ hSw; clear hSw; go_simp; first | (with_reducible rfl) | (rw [if_pos (by omega)]; with_reducible rfl) | skip
                  try simp only [Act.put, List.setIfInBounds_toArray, List.set_cons_zero, List.set_cons_succ]
                  refine take_dstH (i := 13) (d := 176) (v := ?_) rfl rfl (by kernel_rfl) (by kernel_rfl) (by kernel_rfl) (fun _ _ _ h => h) (by rfl) hHeld ?_ ?_
                  rotate_left
                  · intro wZ hSw; clear hSw; go_simp; first | (with_reducible rfl) | (rw [if_pos (by omega)]; with_reducible rfl) | skip
                  try simp only [Act.put, List.setIfInBounds_toArray, List.set_cons_zero, List.set_cons_succ]
                  refine take_dstH (i := 14) (d := 177) (v := ?_) rfl rfl (by kernel_rfl) (by kernel_rfl) (by kernel_rfl) (fun _ _ _ h => h) (by rfl) hHeld ?_ ?_
                  rotate_left
                  · intro wZ hSw; clear hSw; go_simp; first | (with_reducible rfl) | (rw [if_pos (by omega)]; with_reducible rfl) | skip
                  try simp only [Act.put, List.setIfInBounds_toArray, List.set_cons_zero, List.set_cons_succ]
                  refine take_dstH (i := 15) (d := 178) (v := ?_) rfl rfl (by kernel_rfl) (by kernel_rfl) (by kernel_rfl) (fun _ _ _ h => h) (by rfl) hHeld ?_ ?_
                  rotate_left
                  · intro wZ hSw; clear hSw; go_simp; first | (with_reducible rfl) | (rw [if_pos (by omega)]; with_reducible rfl) | skip
                  try simp only [Act.put, List.setIfInBounds_toArray, List.set_cons_zero, List.set_cons_succ]
                  refine take_dstH (i := 16) (d := 179) (v := ?_) rfl rfl (by kernel_rfl) (by kernel_rfl) (by kernel_rfl) (fun _ _ _ h => h) (by rfl) hHeld ?_ ?_
                  rotate_left
                  · intro wZ hSw; clear hSw; go_simp; first | (with_reducible rfl) | (rw [if_pos (by omega)]; with_reducible rfl) | skip
                  try simp only [Act.put, List.setIfInBounds_toArray, List.set_cons_zero, List.set_cons_succ]
                  refine take_dstH (i := 17) (d := 180) (v := ?_) rfl rfl (by kernel_rfl) (by kernel_rfl) (by kernel_rfl) (fun _ _ _ h => h) (by rfl) hHeld ?_ ?_
                  rotate_left
                  · intro wZ hSw; clear hSw; go_simp; first | (with_reducible rfl) | (rw [if_pos (by omega)]; with_reducible rfl) | skip
                  try simp only [Act.put, List.setIfInBounds_toArray, List.set_cons_zero, List.set_cons_succ]
                  refine take_dstH (i := 18) (d := 181) (v := ?_) rfl rfl (by kernel_rfl) (by kernel_rfl) (by kernel_rfl) (fun _ _ _ h => h) (by rfl) hHeld ?_ ?_
                  rotate_left
                  · intro wZ hSw; clear hSw; go_simp; first | (with_reducible rfl) | (rw [if_pos (by omega)]; with_reducible rfl) | skip
                  try simp only [Act.put, List.setIfInBounds_toArray, List.set_cons_zero, List.set_cons_succ]
                  refine take_dstH (i := 19) (d := 182) (v := ?_) rfl rfl (by kernel_rfl) (by kernel_rfl) (by kernel_rfl) (fun _ _ _ h => h) (by rfl) hHeld ?_ ?_
                  rotate_left
                  · intro wZ hSw; clear hSw; go_simp; first | (with_reducible rfl) | (rw [if_pos (by omega)]; with_reducible rfl) | skip
                  try simp only [Act.put, List.setIfInBounds_toArray, List.set_cons_zero, List.set_cons_succ]
                  refine take_dstH (i := 20) (d := 183) (v := ?_) rfl rfl (by kernel_rfl) (by kernel_rfl) (by kernel_rfl) (fun _ _ _ h => h) (by rfl) hHeld ?_ ?_
                  rotate_left
                  · intro wZ hSw; clear hSw; go_simp; first | (with_reducible rfl) | (rw [if_pos (by omega)]; with_reducible rfl) | skip
                  try simp only [Act.put, List.setIfInBounds_toArray, List.set_cons_zero, List.set_cons_succ]
                  refine take_dstH (i := 21) (d := 184) (v := ?_) rfl rfl (by kernel_rfl) (by kernel_rfl) (by kernel_rfl) (fun _ _ _ h => h) (by rfl) hHeld ?_ ?_
                  rotate_left
                  · intro wZ hSw; clear hSw; go_simp; first | (with_reducible rfl) | (rw [if_pos (by omega)]; with_reducible rfl) | skip
                  try simp only [Act.put, List.setIfInBounds_toArray, List.set_cons_zero, List.set_cons_succ]
                  refine take_dstH (i := 22) (d := 185) (v := ?_) rfl rfl (by kernel_rfl) (by kernel_rfl) (by kernel_rfl) (fun _ _ _ h => h) (by rfl) hHeld ?_ ?_
                  rotate_left
                  · intro wZ hSw; clear hSw; go_simp; first | (with_reducible rfl) | (rw [if_pos (by omega)]; with_reducible rfl) | skip
                  try simp only [Act.put, List.setIfInBounds_toArray, List.set_cons_zero, List.set_cons_succ]
                  refine take_dstH (i := 23) (d := 186) (v := ?_) rfl rfl (by kernel_rfl) (by kernel_rfl) (by kernel_rfl) (fun _ _ _ h => h) (by rfl) hHeld ?_ ?_
                  rotate_left
                  · intro wZ hSw; clear hSw; go_simp; first | (with_reducible rfl) | (rw [if_pos (by omega)]; with_reducible rfl) | skip
                  try simp only [Act.put, List.setIfInBounds_toArray, List.set_cons_zero, List.set_cons_succ]
                  refine take_dstH (i := 24) (d := 187) (v := ?_) rfl rfl (by kernel_rfl) (by kernel_rfl) (by kernel_rfl) (fun _ _ _ h => h) (by rfl) hHeld ?_ ?_
                  rotate_left
                  · intro wZ hSw; clear hSw; go_simp; first | (with_reducible rfl) | (rw [if_pos (by omega)]; with_reducible rfl) | skip
                  try simp only [Act.put, List.setIfInBounds_toArray, List.set_cons_zero, List.set_cons_succ]
                  refine take_dstH (i := 25) (d := 188) (v := ?_) rfl rfl (by kernel_rfl) (by kernel_rfl) (by kernel_rfl) (fun _ _ _ h => h) (by rfl) hHeld ?_ ?_
                  rotate_left
                  · intro wZ hSw; have hfS := HX0.out wZ hSw; clear hSw; go_simp; first | (with_reducible rfl) | (rw [if_pos (by omega)]; with_reducible rfl) | skip
                  try simp only [Act.put, List.setIfInBounds_toArray, List.set_cons_zero, List.set_cons_succ]
                  refine take_dstH (i := 26) (d := 189) (v := ?_) rfl rfl (by kernel_rfl) (by kernel_rfl) (by kernel_rfl) (fun _ _ _ h => h) (by rfl) hHeld ?_ ?_
                  rotate_left
                  · intro wZ hSw; clear hSw; go_simp; first | (with_reducible rfl) | (rw [if_pos (by omega)]; with_reducible rfl) | skip
                  try simp only [Act.put, List.setIfInBounds_toArray, List.set_cons_zero, List.set_cons_succ]
                  refine take_dstH (i := 27) (d := 190) (v := ?_) rfl rfl (by kernel_rfl) (by kernel_rfl) (by kernel_rfl) (fun _ _ _ h => h) (by rfl) hHeld ?_ ?_
                  rotate_left
                  · intro wZ hSw; clear hSw; go_simp; first | (with_reducible rfl) | (rw [if_pos (by omega)]; with_reducible rfl) | skip
                  try simp only [Act.put, List.setIfInBounds_toArray, List.set_cons_zero, List.set_cons_succ]
                  refine take_dstH (i := 29) (d := 192) (v := ?_) rfl rfl (by kernel_rfl) (by kernel_rfl) (by kernel_rfl) (fun _ _ _ h => h) (by rfl) hHeld ?_ ?_
                  rotate_left
                  · intro wZ hSw; clear hSw; go_simp; first | (with_reducible rfl) | (rw [if_pos (by omega)]; with_reducible rfl) | skip
                  try simp only [Act.put, List.setIfInBounds_toArray, List.set_cons_zero, List.set_cons_succ]
                  refine take_dstH (i := 30) (d := 193) (v := ?_) rfl rfl (by kernel_rfl) (by kernel_rfl) (by kernel_rfl) (fun _ _ _ h => h) (by rfl) hHeld ?_ ?_
                  rotate_left
                  · intro wZ hSw; have hfS := HX4.out wZ hSw; clear hSw; go_simp; first | (with_reducible rfl) | (rw [if_pos (by omega)]; with_reducible rfl) | skip
                  try simp only [Act.put, List.setIfInBounds_toArray, List.set_cons_zero, List.set_cons_succ]
                  refine wpAnyH_ready (rs := [28]) (by kernel_rfl) (by simp) ?_
                  refine (AllReadyH.cons rfl (fun K hK => ?_) AllReadyH.nil)
                  go_simp
                  (refine Calls.mono HADR.out ?_; rintro e wa ⟨rfl, rfl⟩)
                  go_wp2_with fail
                  refine hK.out _ _ ?_ (fun hHeld => ?_)
                  · exact hide rfl
                  clear hK K
                  try simp only [Act.put, List.setIfInBounds_toArray, List.set_cons_zero, List.set_cons_succ]
                  refine take_dstH (i := 31) (d := 194) (v := ?_) rfl rfl (by kernel_rfl) (by kernel_rfl) (by kernel_rfl) (fun _ _ _ h => h) (by rfl) hHeld ?_ ?_
                  rotate_left
                  · intro wZ hSw; clear hSw; go_simp; first | (with_reducible rfl) | (rw [if_pos (by omega)]; with_reducible rfl) | skip
                  try simp only [Act.put, List.setIfInBounds_toArray, List.set_cons_zero, List.set_cons_succ]
                  refine take_dstH (i := 32) (d := 195) (v := ?_) rfl rfl (by kernel_rfl) (by kernel_rfl) (by kernel_rfl) (fun _ _ _ h => h) (by rfl) hHeld ?_ ?_
                  rotate_left
                  · intro wZ hSw; clear hSw; go_simp; first | (with_reducible rfl) | (rw [if_pos (by omega)]; with_reducible rfl) | skip
                  try simp only [Act.put, List.setIfInBounds_toArray, List.set_cons_zero, List.set_cons_succ]
                  refine take_dstH (i := 33) (d := 196) (v := ?_) rfl rfl (by kernel_rfl) (by kernel_rfl) (by kernel_rfl) (fun _ _ _ h => h) (by rfl) hHeld ?_ ?_
                  rotate_left
                  · intro wZ hSw; clear hSw; go_simp; first | (with_reducible rfl) | (rw [if_pos (by omega)]; with_reducible rfl) | skip
                  try simp only [Act.put, List.setIfInBounds_toArray, List.set_cons_zero, List.set_cons_succ]
                  refine wpAnyH_done (by kernel_rfl) ?_ _
                rotate_left 1
                focus
                  go_simp
                  refine hK.out _ _ ?_ (fun hHeld => ?_)
                  · exact hHeld
                  clear hK K
                  try simp only [Act.put, List.setIfInBounds_toArray, List.set_cons_zero, List.set_cons_succ]
                  refine wpAnyH_ready (rs := [8]) (by kernel_rfl) (by simp) ?_
                  refine (AllReadyH.cons rfl (fun K hK => ?_) AllReadyH.nil)
                  go_simp
                  refine hK.out _ _ ?_ (fun hHeld => ?_)
                  · exact hHeld
                  clear hK K
                  try simp only [Act.put, List.setIfInBounds_toArray, List.set_cons_zero, List.set_cons_succ]
                  refine take_dstH (i := 12) (d := 175) (v := ?_) rfl rfl (by kernel_rfl) (by kernel_rfl) (by kernel_rfl) (fun _ _ _ h => h) (by rfl) hHeld ?_ ?_
                  rotate_left
                  · intro wZ hSw; clear hSw; go_simp; first | (with_reducible rfl) | (rw [if_pos (by omega)]; with_reducible rfl) | skip
                  try simp only [Act.put, List.setIfInBounds_toArray, List.set_cons_zero, List.set_cons_succ]
                  refine take_dstH (i := 13) (d := 176) (v := ?_) rfl rfl (by kernel_rfl) (by kernel_rfl) (by kernel_rfl) (fun _ _ _ h => h) (by rfl) hHeld ?_ ?_
                  rotate_left
                  · intro wZ hSw; clear hSw; go_simp; first | (with_reducible rfl) | (rw [if_pos (by omega)]; with_reducible rfl) | skip
                  try simp only [Act.put, List.setIfInBounds_toArray, List.set_cons_zero, List.set_cons_succ]
                  refine take_dstH (i := 14) (d := 177) (v := ?_) rfl rfl (by kernel_rfl) (by kernel_rfl) (by kernel_rfl) (fun _ _ _ h => h) (by rfl) hHeld ?_ ?_
                  rotate_left
                  · intro wZ hSw; clear hSw; go_simp; first | (with_reducible rfl) | (rw [if_pos (by omega)]; with_reducible rfl) | skip
                  try simp only [Act.put, List.setIfInBounds_toArray, List.set_cons_zero, List.set_cons_succ]
                  refine take_dstH (i := 15) (d := 178) (v := ?_) rfl rfl (by kernel_rfl) (by kernel_rfl) (by kernel_rfl) (fun _ _ _ h => h) (by rfl) hHeld ?_ ?_
                  rotate_left
                  · intro wZ hSw; clear hSw; go_simp; first | (with_reducible rfl) | (rw [if_pos (by omega)]; with_reducible rfl) | skip
                  try simp only [Act.put, List.setIfInBounds_toArray, List.set_cons_zero, List.set_cons_succ]
                  refine take_dstH (i := 16) (d := 179) (v := ?_) rfl rfl (by kernel_rfl) (by kernel_rfl) (by kernel_rfl) (fun _ _ _ h => h) (by rfl) hHeld ?_ ?_
                  rotate_left
                  · intro wZ hSw; clear hSw; go_simp; first | (with_reducible rfl) | (rw [if_pos (by omega)]; with_reducible rfl) | skip
                  try simp only [Act.put, List.setIfInBounds_toArray, List.set_cons_zero, List.set_cons_succ]
                  refine take_dstH (i := 17) (d := 180) (v := ?_) rfl rfl (by kernel_rfl) (by kernel_rfl) (by kernel_rfl) (fun _ _ _ h => h) (by rfl) hHeld ?_ ?_
                  rotate_left
                  · intro wZ hSw; clear hSw; go_simp; first | (with_reducible rfl) | (rw [if_pos (by omega)]; with_reducible rfl) | skip
                  try simp only [Act.put, List.setIfInBounds_toArray, List.set_cons_zero, List.set_cons_succ]
                  refine take_dstH (i := 18) (d := 181) (v := ?_) rfl rfl (by kernel_rfl) (by kernel_rfl) (by kernel_rfl) (fun _ _ _ h => h) (by rfl) hHeld ?_ ?_
                  rotate_left
                  · intro wZ hSw; clear hSw; go_simp; first | (with_reducible rfl) | (rw [if_pos (by omega)]; with_reducible rfl) | skip
                  try simp only [Act.put, List.setIfInBounds_toArray, List.set_cons_zero, List.set_cons_succ]
                  refine take_dstH (i := 19) (d := 182) (v := ?_) rfl rfl (by kernel_rfl) (by kernel_rfl) (by kernel_rfl) (fun _ _ _ h => h) (by rfl) hHeld ?_ ?_
                  rotate_left
                  · intro wZ hSw; clear hSw; go_simp; first | (with_reducible rfl) | (rw [if_pos (by omega)]; with_reducible rfl) | skip
                  try simp only [Act.put, List.setIfInBounds_toArray, List.set_cons_zero, List.set_cons_succ]
                  refine take_dstH (i := 20) (d := 183) (v := ?_) rfl rfl (by kernel_rfl) (by kernel_rfl) (by kernel_rfl) (fun _ _ _ h => h) (by rfl) hHeld ?_ ?_
                  rotate_left
                  · intro wZ hSw; clear hSw; go_simp; first | (with_reducible rfl) | (rw [if_pos (by omega)]; with_reducible rfl) | skip
                  try simp only [Act.put, List.setIfInBounds_toArray, List.set_cons_zero, List.set_cons_succ]
                  refine take_dstH (i := 21) (d := 184) (v := ?_) rfl rfl (by kernel_rfl) (by kernel_rfl) (by kernel_rfl) (fun _ _ _ h => h) (by rfl) hHeld ?_ ?_
                  rotate_left
                  · intro wZ hSw; clear hSw; go_simp; first | (with_reducible rfl) | (rw [if_pos (by omega)]; with_reducible rfl) | skip
                  try simp only [Act.put, List.setIfInBounds_toArray, List.set_cons_zero, List.set_cons_succ]
                  refine take_dstH (i := 22) (d := 185) (v := ?_) rfl rfl (by kernel_rfl) (by kernel_rfl) (by kernel_rfl) (fun _ _ _ h => h) (by rfl) hHeld ?_ ?_
                  rotate_left
                  · intro wZ hSw; clear hSw; go_simp; first | (with_reducible rfl) | (rw [if_pos (by omega)]; with_reducible rfl) | skip
                  try simp only [Act.put, List.setIfInBounds_toArray, List.set_cons_zero, List.set_cons_succ]
                  refine take_dstH (i := 23) (d := 186) (v := ?_) rfl rfl (by kernel_rfl) (by kernel_rfl) (by kernel_rfl) (fun _ _ _ h => h) (by rfl) hHeld ?_ ?_
                  rotate_left
                  · intro wZ hSw; clear hSw; go_simp; first | (with_reducible rfl) | (rw [if_pos (by omega)]; with_reducible rfl) | skip
                  try simp only [Act.put, List.setIfInBounds_toArray, List.set_cons_zero, List.set_cons_succ]
                  refine take_dstH (i := 24) (d := 187) (v := ?_) rfl rfl (by kernel_rfl) (by kernel_rfl) (by kernel_rfl) (fun _ _ _ h => h) (by rfl) hHeld ?_ ?_
                  rotate_left
                  · intro wZ hSw; clear hSw; go_simp; first | (with_reducible rfl) | (rw [if_pos (by omega)]; with_reducible rfl) | skip
                  try simp only [Act.put, List.setIfInBounds_toArray, List.set_cons_zero, List.set_cons_succ]
                  refine take_dstH (i := 25) (d := 188) (v := ?_) rfl rfl (by kernel_rfl) (by kernel_rfl) (by kernel_rfl) (fun _ _ _ h => h) (by rfl) hHeld ?_ ?_
                  rotate_left
                  · intro wZ hSw; have hfS := HX0.out wZ hSw; clear hSw; go_simp; first | (with_reducible rfl) | (rw [if_pos (by omega)]; with_reducible rfl) | skip
                  try simp only [Act.put, List.setIfInBounds_toArray, List.set_cons_zero, List.set_cons_succ]
                  refine take_dstH (i := 26) (d := 189) (v := ?_) rfl rfl (by kernel_rfl) (by kernel_rfl) (by kernel_rfl) (fun _ _ _ h => h) (by rfl) hHeld ?_ ?_
                  rotate_left
                  · intro wZ hSw; clear hSw; go_simp; first | (with_reducible rfl) | (rw [if_pos (by omega)]; with_reducible rfl) | skip
                  try simp only [Act.put, List.setIfInBounds_toArray, List.set_cons_zero, List.set_cons_succ]
                  refine take_dstH (i := 27) (d := 190) (v := ?_) rfl rfl (by kernel_rfl) (by kernel_rfl) (by kernel_rfl) (fun _ _ _ h => h) (by rfl) hHeld ?_ ?_
                  rotate_left
                  · intro wZ hSw; clear hSw; go_simp; first | (with_reducible rfl) | (rw [if_pos (by omega)]; with_reducible rfl) | skip
                  try simp only [Act.put, List.setIfInBounds_toArray, List.set_cons_zero, List.set_cons_succ]
                  refine take_dstH (i := 29) (d := 192) (v := ?_) rfl rfl (by kernel_rfl) (by kernel_rfl) (by kernel_rfl) (fun _ _ _ h => h) (by rfl) hHeld ?_ ?_
                  rotate_left
                  · intro wZ hSw; clear hSw; go_simp; first | (with_reducible rfl) | (rw [if_pos (by omega)]; with_reducible rfl) | skip
                  try simp only [Act.put, List.setIfInBounds_toArray, List.set_cons_zero, List.set_cons_succ]
                  refine take_dstH (i := 30) (d := 193) (v := ?_) rfl rfl (by kernel_rfl) (by kernel_rfl) (by kernel_rfl) (fun _ _ _ h => h) (by rfl) hHeld ?_ ?_
                  rotate_left
                  · intro wZ hSw; have hfS := HX4.out wZ hSw; clear hSw; go_simp; first | (with_reducible rfl) | (rw [if_pos (by omega)]; with_reducible rfl) | skip
                  try simp only [Act.put, List.setIfInBounds_toArray, List.set_cons_zero, List.set_cons_succ]
                  refine wpAnyH_ready (rs := [28]) (by kernel_rfl) (by simp) ?_
                  refine (AllReadyH.cons rfl (fun K hK => ?_) AllReadyH.nil)
                  go_simp
                  (refine Calls.mono HADR.out ?_; rintro e wa ⟨rfl, rfl⟩)
                  go_wp2_with fail
                  refine hK.out _ _ ?_ (fun hHeld => ?_)
                  · exact hide rfl
                  clear hK K
                  try simp only [Act.put, List.setIfInBounds_toArray, List.set_cons_zero, List.set_cons_succ]
                  refine take_dstH (i := 31) (d := 194) (v := ?_) rfl rfl (by kernel_rfl) (by kernel_rfl) (by kernel_rfl) (fun _ _ _ h => h) (by rfl) hHeld ?_ ?_
                  rotate_left
                  · intro wZ hSw; clear hSw; go_simp; first | (with_reducible rfl) | (rw [if_pos (by omega)]; with_reducible rfl) | skip
                  try simp only [Act.put, List.setIfInBounds_toArray, List.set_cons_zero, List.set_cons_succ]
                  refine take_dstH (i := 32) (d := 195) (v := ?_) rfl rfl (by kernel_rfl) (by kernel_rfl) (by kernel_rfl) (fun _ _ _ h => h) (by rfl) hHeld ?_ ?_
                  rotate_left
                  · intro wZ hSw; clear hSw; go_simp; first | (with_reducible rfl) | (rw [if_pos (by omega)]; with_reducible rfl) | skip
                  try simp only [Act.put, List.setIfInBounds_toArray, List.set_cons_zero, List.set_cons_succ]
                  refine take_dstH (i := 33) (d := 196) (v := ?_) rfl rfl (by kernel_rfl) (by kernel_rfl) (by kernel_rfl) (fun _ _ _ h => h) (by rfl) hHeld ?_ ?_
                  rotate_left
                  · intro wZ hSw; clear hSw; go_simp; first | (with_reducible rfl) | (rw [if_pos (by omega)]; with_reducible rfl) | skip
                  try simp only [Act.put, List.setIfInBounds_toArray, List.set_cons_zero, List.set_cons_succ]
                  refine wpAnyH_done (by kernel_rfl) ?_ _
                all_goals
                  go_wp2_with fail
                  go_meet
                  case rel => exact ⟨rfl, rfl⟩
            case rest =>
              obtain ⟨rfl, hwc⟩ := hcut
              clear HX0 HX1 HX4 hcv1 hcv2 HQ8
              generalize w8.drew = w9 at *
              obtain rfl : w9 = wc := hwc.symm
              obtain ⟨pa', ca', hpv, hpp, _⟩ := own_piece_n HP8.out (by rw [sndP_length, HMB.out]) (sndP_bytes HKF.out _ HWF.out.2.2.2.2.2.1)
              cases hpv
              have HNO := hide (nothing_any gf gt F T7 pa ca m tb up tp tc go go takes wh w9 HT8.out.u HT8.out.d hpp HBD.out.1 (HWF.out.2.2.2.kept HT8.out.b) HMB.out HFX.out (HFT7.out.tc.trans HFT.out.fc.symm) (HFT7.out.tm.trans HFT.out.fm.symm) (by rw [HFT.out.fd, HFT7.out.td]; cases up <;> decide) HTD.out.2.2.2.1 ⟨HBD.out.2.1, Int.le_trans HBD.out.2.2.1 (by decide)⟩ (HLB.out _ HT8.out.b))
              clear hpp
              go_wp2_with (refine wpList_load_row rfl 71 _ rfl gx rfl 71 _ (0, 0) _ HX8.out Tryd.underlying71 rfl infoWy ?_)
              refine HNO.out.mono ?_
              rintro r wa ⟨rfl, hb⟩
              have HBK := hide (back HGF.out.symm HGT.out.symm (HT8.out.kept hb) HFT7.out)
              have HL9 := hide (HL8.out.kept hb)
              clear hb HT8 HL8 HX8 HP8 HNO
              go_wp2_with fail
              go_roundg (n - k)
              case measure => exact hf
              case rel => exact ⟨k + 1, ls, by rw [hwk], hkn, Nat.sub_lt_sub_left hkn (Nat.lt_succ_self k), Nat.le_succ_of_le hls, HBK.out, HL9.out⟩
    · as_aux_lemma =>
        have hki : ¬ (k : Int) < (n : Int) := by omega
        have H2S : Hid (L2S W wr code mark gu gd u9 u10 ls) := by
          obtain ⟨U, D, h1, h2⟩ := HT.out
          exact ⟨⟨U, D, h1, h2.fc, h2.fm, h2.tc, h2.tm, h2.fd, h2.td⟩, HL.out⟩
        have HLS : Hid (ls.length ≤ 40) := by have := H40.out; show _ ≤ _; omega
        obtain ⟨p9, c9, rfl⟩ := row_slice HL.out.r9
        obtain ⟨p10, c10, rfl⟩ := row_slice HL.out.r10
        clear HT HL hkn hk hf hls
        go_wp2_with fail
        clear hki
        go_loopg [23] (ls.length + 1) (fun f s23 wx => ∃ j : Nat, s23 = .int .i64 (j : Int) ∧ j ≤ ls.length ∧ ls.length - j < f ∧ Hid (L2S W wx code mark gu gd (.slice p9 ls.length c9) (.slice p10 ls.length c10) ls))
        case atStart => exact ⟨0, rfl, by omega, by omega, H2S.out⟩
        case round =>
          obtain ⟨j, rfl, hj, hf, HS⟩ := hrel
          clear H2S
          by_cases hjl : j < ls.length
          · have hwj := wrap_succ j (Nat.lt_of_lt_of_le hjl HLS.out)
            have hjd : decide (j < ls.length) = true := by simpa using hjl
            obtain ⟨l, hl, hlm⟩ : ∃ l, ls[j]? = some l ∧ l ∈ ls := ⟨ls[j], List.getElem?_eq_getElem hjl, List.getElem_mem hjl⟩
            obtain ⟨g9, k9, e9, _, _, _, _⟩ := own_shape HS.out.l.r9 (Nat.lt_of_le_of_lt (Nat.zero_le _) hjl)
            obtain ⟨g10, k10, e10, _, _, _, _⟩ := own_shape HS.out.l.r10 (Nat.lt_of_le_of_lt (Nat.zero_le _) hjl)
            obtain ⟨rfl, _, rfl⟩ := Value.slice.inj e9
            obtain ⟨rfl, _, rfl⟩ := Value.slice.inj e10
            have hc9 : Hid (∀ v : World, v.ownsRow W.heap.size 42 1 (.slice (some ⟨g9, 0, none⟩) ls.length c9) ls.length (ls.map LP.V) → v.cell? ⟨g9, j, none⟩ = some (.slice l.q l.P.length l.c)) := fun v h => by
              have := h.cellAt j (by simpa using hjl)
              rw [this, List.getElem?_map, hl]
              rfl
            have hc10 : Hid (∀ v : World, v.ownsRow W.heap.size 4 1 (.slice (some ⟨g10, 0, none⟩) ls.length c10) ls.length (ls.map fun l => Value.bool l.wh) → v.cell? ⟨g10, j, none⟩ = some (.bool l.wh)) := fun v h => by
              have := h.cellAt j (by simpa using hjl)
              rw [this, List.getElem?_map, hl]
              rfl
            obtain ⟨F, now, text, hLO⟩ := (HS.out.l.ps l hlm).2
            have HLO := hide hLO
            have HLM := hide hlm
            obtain ⟨N, hN⟩ : ∃ N, text.length = N := ⟨_, rfl⟩
            have hPN : l.P.length = N + 28 := by rw [hLO.2.2.2.2.2.1, sndP_length, hN]
            rw [hPN] at hc9
            have HNN := hide hN
            have HPN := hide hPN
            have b10 := hc10.out _ HS.out.l.r10
            clear e9 e10 hl hlm hLO hN hPN
            go_upto_if 213 with fail
            clear b10 hjd
            go_cut [24] (fun s24 wx => s24 = .pointer (some ⟨if l.wh then gd else gu, 0, none⟩) ∧ wx = wr)
            case first =>
              cases hw : l.wh
              · go_wp2
                go_meet
                case rel => exact ⟨by rw [hw]; rfl, rfl⟩
              · go_wp2
                go_meet
                case rel => exact ⟨by rw [hw]; rfl, rfl⟩
            case rest =>
              obtain ⟨rfl, hwc⟩ := hcut
              obtain rfl : wr = wc := hwc.symm
              generalize hg : (if l.wh = true then gd else gu) = g at *
              have HAB : Hid (∃ A B gb, TwS W wr g gb A B ∧ A.code = code ∧ A.mark = mark ∧ A.down = l.wh ∧ ∀ (A' : Lk) (w' : World), TwS W w' g gb A' B → A'.code = code → A'.mark = mark → A'.down = l.wh → ∃ U D, TwS W w' gu gd U D ∧ U.code = code ∧ U.mark = mark ∧ D.code = code ∧ D.mark = mark ∧ U.down = false ∧ D.down = true) := by
                obtain ⟨U, D, t, a1, a2, a3, a4, a5, a6⟩ := HS.out.t
                subst hg
                cases hw : l.wh
                · exact ⟨U, D, gd, t, a1, a2, a5, fun A' w' h b1 b2 b3 => ⟨A', D, h, b1, b2, a3, a4, b3, a6⟩⟩
                · exact ⟨D, U, gu, tws_swap t, a3, a4, a6, fun A' w' h b1 b2 b3 => ⟨U, A', tws_swap h, a1, a2, b1, b2, a5, b3⟩⟩
              obtain ⟨A, B, gb, t1, t2, t3, t4, t5⟩ := HAB.out
              have HT0 := hide t1
              have HAC := hide (And.intro t2 (And.intro t3 t4))
              have HBK := hide t5
              have HL0 := hide HS.out.l
              clear hg t1 t2 t3 t4 t5 HAB HS
              go_wp2_with fail
              refine (newest_at wr g A HT0.out.u).mono ?_
              rintro r w1 ⟨rfl, hb⟩
              have HT1 := hide (HT0.out.kept hb)
              have HL1 := hide (HL0.out.kept hb)
              clear hb HT0 HL0
              go_wp2_with fail
              refine (copy_at w1 g A HT1.out.u).mono ?_
              rintro r w2 ⟨gk, rfl, _, hk2, hb⟩
              have HT2 := hide (HT1.out.kept hb)
              have HL2 := hide (HL1.out.kept hb)
              have HK2 := hide hk2
              clear hb hk2 HT1 HL1
              have c9' := hc9.out _ HL2.out.r9
              have hPb := HLO.out.2.2.2.2.2.2
              obtain ⟨ql, cl, hpv, hpp, _⟩ := own_piece_n (HL2.out.ps l HLM.out).1 rfl hPb
              obtain ⟨hq1, _, hq2⟩ := Value.slice.inj hpv
              subst hq1 hq2
              rw [HLO.out.2.2.2.2.2.1] at hpp
              have HPP := hide hpp
              clear hpv hpp hPb
              have hld : F.down ≠ A.down := by rw [HLO.out.2.2.1, HAC.out.2.2]; cases l.wh <;> decide
              have HLD := hide hld
              have hN6 : N ≤ 1196 := by rw [← HNN.out]; exact HLO.out.2.2.2.2.1
              have HN6 := hide hN6
              have htm : IsTime 2147483648 := ⟨by decide, by decide⟩
              have had : IsAddr 3 := ⟨by decide, by decide⟩
              have HTM := hide (And.intro htm had)
              clear hld hN6 htm had
              by_cases hfr : A.fresh F.next = true
              · as_aux_lemma =>
                  have hH := hear_snd g F A l.q l.c N text now 2147483648 3 w2 HT2.out.u HTM.out.1 HTM.out.2 HLO.out.2.2.2.1 HNN.out HN6.out (HAC.out.1.trans HLO.out.1.symm) (HAC.out.2.1.trans HLO.out.2.1.symm) HLD.out HPP.out (HLB.out _ HT2.out.b)
                  rw [hfr, took_eq hfr] at hH
                  have HH := hide hH
                  have HFR : Hid (A.heard = true → decide (F.next ≤ A.newest) = false) := fun e => by
                    unfold Lk.fresh at hfr
                    rw [e] at hfr
                    simp at hfr
                    simpa using hfr
                  clear hH hfr
                  go_wp2_with fail
                  clear c9'
                  refine HH.out.mono ?_
                  rintro r w3 ⟨v3, rfl, _, hl3, hg3⟩
                  have HL3 := hide (HL2.out.link HT2.out.u hg3)
                  have HT3 := hide (HT2.out.up hl3 hg3)
                  clear hl3 hg3 HH HT2 HL2 HPP HK2
                  have HNW := hide (newest_at w3 g _ HT3.out.u)
                  simp only at HNW
                  go_wp2_with fail
                  refine HNW.out.mono ?_
                  rintro r w4 ⟨rfl, hb⟩
                  have HL4 := hide (HL3.out.kept hb)
                  have HT4 := hide (HBK.out _ w4 (HT3.out.kept hb) HAC.out.1 HAC.out.2.1 HAC.out.2.2)
                  clear hb HL3 HT3 HNW HBK
                  cases hh : A.heard
                  · go_wp2_with fail
                    go_roundg (ls.length - j)
                    case measure => exact hf
                    case rel => exact ⟨j + 1, by rw [hwj], hjl, Nat.sub_lt_sub_left hjl (Nat.lt_succ_self j), HT4.out, HL4.out⟩
                  · have hdd := HFR.out hh
                    go_wp2_with fail
                    go_roundg (ls.length - j)
                    case measure => exact hf
                    case rel => exact ⟨j + 1, by rw [hwj], hjl, Nat.sub_lt_sub_left hjl (Nat.lt_succ_self j), HT4.out, HL4.out⟩
              · as_aux_lemma =>
                  have hfr' : A.fresh F.next = false := eq_false_of_ne_true hfr
                  have hH := hear_old g F A l.q l.c N text now 2147483648 3 w2 HT2.out.u HTM.out.1 HTM.out.2 HLO.out.2.2.2.1 HNN.out HN6.out (HAC.out.1.trans HLO.out.1.symm) (HAC.out.2.1.trans HLO.out.2.1.symm) HLD.out HPP.out (HLB.out _ HT2.out.b) hfr'
                  have hh : A.heard = true := by
                    unfold Lk.fresh at hfr'
                    cases e : A.heard
                    · rw [e] at hfr'; simp at hfr'
                    · rfl
                  have HH := hide hH
                  clear hH hfr hfr'
                  go_wp2_with fail
                  clear c9'
                  refine HH.out.mono ?_
                  rintro r w3 ⟨v3, rfl, _, hb⟩
                  have HL3 := hide (HL2.out.kept hb)
                  have HT3 := hide (HT2.out.kept hb)
                  have HK3 := hide (HK2.out.kept hb)
                  clear hb HH HT2 HL2 HPP HK2
                  go_wp2_with fail
                  refine (newest_at w3 g A HT3.out.u).mono ?_
                  rintro r w4 ⟨rfl, hb⟩
                  have HL4 := hide (HL3.out.kept hb)
                  have HT4 := hide (HT3.out.kept hb)
                  have HK4 := hide (HK3.out.kept hb)
                  clear hb HL3 HT3 HK3
                  go_wp2_with fail
                  refine (same_lk w4 g gk A HT4.out.u HK4.out).mono ?_
                  rintro r w5 ⟨rfl, hb⟩
                  have HL5 := hide (HL4.out.kept hb)
                  have HT5 := hide (HBK.out _ w5 (HT4.out.kept hb) HAC.out.1 HAC.out.2.1 HAC.out.2.2)
                  clear hb HL4 HT4 HK4 HBK
                  go_wp2_with fail
                  go_roundg (ls.length - j)
                  case measure => exact hf
                  case rel => exact ⟨j + 1, by rw [hwj], hjl, Nat.sub_lt_sub_left hjl (Nat.lt_succ_self j), HT5.out, HL5.out⟩
          · have hjd : decide (j < ls.length) = false := by simpa using hjl
            obtain ⟨U, D, hTw, _⟩ := HS.out.t
            have HB := hide hTw.b
            clear hTw
            go_wp2
            go_ret
            exact ⟨rfl, HB.out⟩

theorem walk (code mark : List Nat) (sp : Option Addr) (sc : Nat) (xs : List Wy) (W : World) (hk : IsKey code mark) (hx : RowIn Wy.C 5 W sp xs ∧ ∀ y ∈ xs, WyIn W y) (hL : Laid W) :
    Calls Tryd.prog 5 #[keyV code mark, .slice sp xs.length sc] W fun r w' => r = .returned (.bool true) ∧ Below W.heap.size W w' := by
  have hL2 := hL.size
  have hLB : ∀ v, Below W.heap.size W v → Laid v := fun v hb => hL.keptB (B := W.heap.size) hL2 hb
  have hK := fun v hb => lknown_any v (hLB v hb)
  by_cases h : 40 < xs.length
  · exact walk_long code mark sp xs.length sc W hk h hK
  · exact walk_in code mark sp xs.length sc xs W hk rfl (by omega) hx.1 hx.2 hL2 hLB hK

set_option maxRecDepth 100000 in
theorem lifted (os : Os) (started : os.Started) (H : Type) (enc : TypeId × Value → H) :
    ReturnsInHanded {} Tryd.checked os 5 .any (fun w args => (Rows.linkThroughSpec.pre enc Tryd.prog Tryd.f5 [] false w args ∧ laidMetH Tryd.prog laid2 w) ∧ sizedMet enc Tryd.prog Tryd.f5 (OpenSpec.ofChange Rows.linkThroughSpec) false w args)
      (Rows.linkThroughSpec.post enc Tryd.prog Tryd.f5 false true false false) := by
  refine returnsInHanded_of_change_and (C := Tryd.checked) (X := fun w _ => laidMetH Tryd.prog laid2 w) (fun _ _ _ hh h => h.of_heap hh) own started (by kernel_rfl) Tryd.func5
    (ChangeSpec.witness_shaped (enc := enc) (C := Tryd.checked) (os := os) (X := fun w _ => laidMetH Tryd.prog laid2 w) false (World.doorLaid Tryd.prog 400 os) #[.agg zeroK.toArray, .slice none 0 0] 8 rfl (World.shaped_of_RefB (by kernel_rfl) (by kernel_rfl)) (by kernel_rfl) (by kernel_rfl) (by kernel_rfl) (door_met os _)) ?_
  intro W base args ds gs before hval0 hW _ hsz hL _
  have hval : ∀ (j : Nat) t v, Tryd.f5.params[j]? = some t → args[j]? = some v → Value.okWide Tryd.prog W .any base t v := hval0
  have hW' := hW
  obtain ⟨p, q, hA0, hV, rfl, hfz, hnd⟩ := hW
  have hA : DataW.TrodAll enc Tryd.prog W 0 (fun _ => true) true Tryd.f5.params.toList args.toList ds p := hA0
  rw [Tryd.params5] at hA hval
  obtain ⟨v0, vs0, d0, ds0, p0, q0, hargs, rfl, rfl, h0, r0⟩ := trodAll_cons hA
  obtain ⟨v1, vs1, d1, ds1, p1, q1, rfl, rfl, rfl, h1, r1⟩ := trodAll_cons r0
  obtain ⟨rfl, rfl, rfl⟩ := trodAll_nil r1
  obtain rfl : args = #[v0, v1] := by cases args; simp_all
  obtain ⟨rfl, rfl⟩ := trodVars_none hV
  have k0 := h0
  obtain ⟨x0, y0, rfl, w0, z0⟩ := open_key (hval 0 25 v0 rfl rfl) h0
  obtain ⟨a1, len1, cap1, rfl⟩ := okWide_slice Tryd.underlying68 (hval 1 68 v1 rfl rfl)
  have k1 := h1
  have lt1 : ∀ x ∈ p1, x.block < W.heap.size := by obtain ⟨m, hm⟩ := k1; exact DataW.trod_lt m _ _ _ hm
  obtain ⟨fuel1, hf1⟩ := h1
  obtain ⟨a1', cap1', x1, hcs1, w1⟩ := ways_of hf1
  simp [Value.cells] at hcs1
  obtain ⟨rfl, rfl, rfl⟩ := hcs1
  clear hf1
  clear hA0 hval0
  refine (walk x0 y0 a1 cap1 x1 W w0 w1 (of_laid hL)).mono fun e W' ⟨he, bel⟩ => ?_
  subst he
  exact ⟨_, rfl, _, _, _, [], _, [], hW', trodAll_mk1 (shut_bool Tryd.underlying4 _), (trodAll_cons_mk (Below.trod laidOut (by kernel_rfl) (of_decide_eq_true (by kernel_rfl)) k0 bel (fun x hx => (z0 x hx).elim)) (trodAll_cons_mk (Below.trod laidOut (by kernel_rfl) (of_decide_eq_true (by kernel_rfl)) k1 bel lt1) trodAll_mk0)), rfl, bel.frame _, fun h => by cases h⟩

theorem row : Rows.LinkThroughSaid :=
  OpenClaim.holds_of_wide 5 Tryd.f5 rfl rfl rfl rfl rfl rfl rfl ⟨rfl, rfl, rfl, rfl, rfl⟩ rfl rfl rfl rfl rfl (by kernel_rfl) Tryd.func5 (by kernel_rfl)
    (of_decide_eq_true (by kernel_rfl)) (by unfold Func.isWrapper; first | (rw [if_pos (by decide +kernel)]; kernel_rfl) | (rw [if_neg (by decide +kernel)]; exact ⟨rfl, rfl⟩))
    (fun os started H enc _ => lifted os started H enc)

theorem card : Rows.LinkThroughCardSaid :=
  Claim7.holds_tied_plain_at .later [] [.data, .data] true (true, Rows.linkThroughCard.stood.harness.2) false
    row (fun _ h => by cases h) (by kernel_rfl) (fun _ h => by cases h) linkThrough_row_tie rfl ⟨rfl, rfl⟩ (by kernel_rfl) rfl
    (fun f fn hf hfn => by
      obtain rfl : f = 5 := Option.some.inj ((show Tryd.prog.funcNamed "oriel/oriellaw09.LinkThrough" = some 5 by kernel_rfl).symm.trans hf) |>.symm
      obtain rfl : fn = Tryd.f5 := (Option.some.inj (Tryd.func5.symm.trans hfn)).symm
      exact ⟨by kernel_rfl, fun j t ht => by
        rw [Tryd.params5] at ht
        have hm : t ∈ [25, 68] := by simpa using Array.mem_of_getElem? ht
        have hall : ([25, 68].all fun u => !Tryd.prog.wantsStandIn u) = true := by kernel_rfl
        exact (show Tryd.prog.wantsStandIn t = false by simpa using List.all_eq_true.1 hall t hm)⟩)
    (by kernel_rfl)

end LinkThroughProof

/-- What one end sends is heard by the other one as it was; heard again, or later, or with a tag that was changed, or by the one that sent it, it changes nothing. -/
theorem linkThrough_holds : Rows.LinkThroughCardSaid := LinkThroughProof.card

#print axioms linkThrough_holds
end Go.Proofs.YtanjbblkijhibaaDoor
