/-
  Several texts, joined: IA, IB, IC, ID, IE.
-/
import Derived.Test.YtbmjlofehbbkbaaDoorJP
import Derived.Test.YtbmjlofehbbkbaaDoorJX
import Derived.Test.YtbmjlofehbbkbaaDoorJE
import Derived.Test.YtbmjlofehbbkbaaDoorJQ

/- Plain: an end of a way: what it is, what it sends, what it is behind a packet. -/
namespace Go.Proofs.YtbmjlofehbbkbaaDoor
open Go.RowKit

/-- an end of a way -/
structure Lk where
  code : List Nat
  mark : List Nat
  down : Bool
  next : Nat
  addr : Int
  heard : Bool
  newest : Nat
  m : Me
  is : Bool
  stamp : Int
  told : Int

structure Lk.ok (L : Lk) : Prop where
  key : IsKey L.code L.mark
  next : L.next ≤ 9223372036854775808
  a0 : 0 ≤ L.addr
  a1 : L.addr ≤ 65535
  newest : L.newest < 9223372036854775808
  may : L.m.may
  s0 : 0 ≤ L.stamp
  s1 : L.stamp ≤ 65534
  t0 : 0 ≤ L.told
  t1 : L.told ≤ 1099511627776

/-- what stands behind the key -/
abbrev lkT (L : Lk) (made : Bool) : List Value := [.bool L.down, .bool made, .int .u64 (L.next : Int), .int .i64 L.addr, .bool L.heard, .int .u64 (L.newest : Int), .int .i64 L.m.a, .int .i64 L.m.b, .int .i64 L.m.c, .bool L.is, .int .i64 L.stamp, .int .i64 L.told]
/-- its cells -/
def lkC (L : Lk) : List Value := kCells L.code L.mark ++ lkT L true
theorem kC_length {a b : List Nat} (h : IsKey a b) : (kCells a b).length = 48 := by simp [kCells, u8s, h.c.len, h.ml]
theorem lkC_length {L : Lk} (h : IsKey L.code L.mark) : (lkC L).length = 60 := by rw [lkC, List.length_append, kC_length h]; rfl
theorem lkC_at {L : Lk} (h : IsKey L.code L.mark) (j : Nat) : (lkC L)[48 + j]? = (lkT L true)[j]? := by
  rw [lkC, List.getElem?_append_right (by rw [kC_length h]; omega), kC_length h]
  congr 1
  omega
theorem one_lkC (L : Lk) : (lkC L).toArray.all (·.oneCell') = true := by
  have h1 := one_kCells L.code L.mark
  apply all_oneCell_toArray
  intro v hv
  rcases List.mem_append.1 hv with h | h
  · exact (Array.all_eq_true_iff_forall_mem.1 h1) v (by simpa using h)
  · simp only [List.mem_cons, List.not_mem_nil, or_false] at h
    rcases h with rfl | rfl | rfl | rfl | rfl | rfl | rfl | rfl | rfl | rfl | rfl | rfl <;> rfl

/-- two bytes of a number -/
def fx2 (x : Nat) : List Nat := [x / 256 % 256, x % 256]
theorem fx2_length (x : Nat) : (fx2 x).length = 2 := rfl
theorem fx2_bytes (x : Nat) : BytesN (fx2 x) := by
  intro y hy
  simp only [fx2, List.mem_cons, List.not_mem_nil, or_false] at hy
  omega
theorem fixF2 (x : Nat) : fixF 2 x = (fx2 x).map Int.ofNat := by simp [fixF, fx2]

/-- what is sent of an echo at a time -/
def atF (is : Bool) (stamp told now : Int) : Int := if is = true ∧ told ≤ now ∧ now - told ≤ 1000 then (stamp + (now - told)) % 65535 else 65535
theorem atF_in (is : Bool) (stamp told now : Int) : 0 ≤ atF is stamp told now ∧ atF is stamp told now ≤ 65535 := by
  unfold atF
  split <;> omega
abbrev Lk.at (L : Lk) (now : Int) : Int := atF L.is L.stamp L.told now

abbrev IsTime (now : Int) : Prop := 0 ≤ now ∧ now ≤ 1099511627776
abbrev IsAddr (a : Int) : Prop := 0 ≤ a ∧ a ≤ 65535

/-- what a packet's text is -/
def sndT (L : Lk) (now : Int) (text : List Nat) : List Nat := fx2 (now % 65535).toNat ++ fx2 (L.at now).toNat ++ text
theorem sndT_length (L : Lk) (now : Int) (text : List Nat) : (sndT L now text).length = text.length + 4 := by simp [sndT, fx2]
theorem sndT_bytes (L : Lk) (now : Int) {text : List Nat} (h : BytesN text) : BytesN (sndT L now text) := bytes_append (bytes_append (fx2_bytes _) (fx2_bytes _)) h
/-- the packet -/
def sndP (L : Lk) (now : Int) (text : List Nat) : List Nat := paF L.code L.mark (wdF L.down L.next) (sndT L now text)
theorem sndP_length (L : Lk) (now : Int) (text : List Nat) : (sndP L now text).length = text.length + 28 := by rw [sndP, paF_length, sndT_length]
theorem sndP_bytes {L : Lk} (hk : IsKey L.code L.mark) (now : Int) {text : List Nat} (h : BytesN text) : BytesN (sndP L now text) := paF_bytes hk.c _ _ (sndT_bytes L now h)
/-- what it is behind that -/
def Lk.sent (L : Lk) : Lk := { L with next := L.next + 1, is := false, stamp := 0, told := 0 }
theorem Lk.sent_ok {L : Lk} (h : L.ok) (hn : L.next < 9223372036854775808) : L.sent.ok := ⟨h.key, hn, h.a0, h.a1, h.newest, h.may, by simp [Lk.sent], by simp [Lk.sent], by simp [Lk.sent], by simp [Lk.sent]⟩

/-- two bytes as a number -/
def rd2 (b : List Nat) (i : Nat) : Int := ((b.getD i 0 * 256 + b.getD (i + 1) 0 : Nat) : Int)
theorem rd2_in {b : List Nat} (h : BytesN b) (i : Nat) : 0 ≤ rd2 b i ∧ rd2 b i ≤ 65535 := by
  unfold rd2
  have h1 := getD_byte h i
  have h2 := getD_byte h (i + 1)
  omega
theorem rd2_fx2 {x : Nat} (hx : x < 65536) (a r : List Nat) (i : Nat) (ha : a.length = i) : rd2 (a ++ (fx2 x ++ r)) i = (x : Int) := by
  unfold rd2
  have e1 : (a ++ (fx2 x ++ r)).getD i 0 = x / 256 % 256 := by simp [List.getD, ← ha, fx2]
  have e2 : (a ++ (fx2 x ++ r)).getD (i + 1) 0 = x % 256 := by simp [List.getD, ← ha, fx2]
  rw [e1, e2]
  omega

/-- is it fresh? -/
def Lk.fresh (L : Lk) (n : Nat) : Bool := !L.heard || decide (L.newest < n)
/-- the meter behind an echo -/
def metF (m : Me) (x now : Int) : Me := if x = 65535 then m else if (now - x) % 65535 ≤ 5000 then m.one ((now - x) % 65535) else m
theorem metF_may {m : Me} (h : m.may) (x now : Int) : (metF m x now).may := by
  unfold metF
  split
  · exact h
  · split
    · exact (Me.may_one h ⟨by omega, by omega⟩).1
    · exact h
/-- what it is behind a packet -/
def Lk.took (L : Lk) (n : Nat) (stamp x now : Int) (frm : Int) : Lk :=
  if L.fresh n = true then { L with heard := true, newest := n, addr := if L.down then frm else L.addr, is := true, stamp := stamp, told := now, m := metF L.m x now } else L
theorem Lk.took_ok {L : Lk} (h : L.ok) {n : Nat} (hn : n < 9223372036854775808) {stamp x now frm : Int} (hs : 0 ≤ stamp) (hs2 : stamp ≤ 65534) (ht : IsTime now) (hf : IsAddr frm) : (L.took n stamp x now frm).ok := by
  unfold Lk.took
  split
  · refine ⟨h.key, h.next, ?_, ?_, hn, metF_may h.may x now, hs, hs2, ht.1, ht.2⟩
    · show 0 ≤ (if L.down = true then frm else L.addr)
      split
      · exact hf.1
      · exact h.a0
    · show (if L.down = true then frm else L.addr) ≤ 65535
      split
      · exact hf.2
      · exact h.a1
  · exact h

/-- what stands against a packet's text, of such a nonce: nothing is 0 -/
def againstF (L : Lk) (d : Bool) : Int := if d = L.down then 90 else 0
/-- the error of a packet's parts -/
def partsE (all : List Nat) : Int := if all.length < 4 ∨ rd2 all 0 = 65535 then 4 else 0

theorem sndT_stamp (L : Lk) (now : Int) (text : List Nat) : rd2 (sndT L now text) 0 = now % 65535 := by
  have h := rd2_fx2 (x := (now % 65535).toNat) (by omega) [] (fx2 (L.at now).toNat ++ text) 0 rfl
  rw [List.nil_append, ← List.append_assoc] at h
  rw [sndT, h]
  omega
theorem sndT_echo (L : Lk) (now : Int) (text : List Nat) : rd2 (sndT L now text) 2 = L.at now := by
  have hi : 0 ≤ L.at now ∧ L.at now ≤ 65535 := atF_in L.is L.stamp L.told now
  have h := rd2_fx2 (x := (L.at now).toNat) (by omega) (fx2 (now % 65535).toNat) text 2 rfl
  rw [← List.append_assoc] at h
  rw [sndT, h]
  omega
theorem sndT_text (L : Lk) (now : Int) (text : List Nat) : (sndT L now text).drop 4 = text := by
  rw [sndT, List.drop_left' (by rfl)]
theorem sndT_parts (L : Lk) (now : Int) (text : List Nat) : partsE (sndT L now text) = 0 := by
  have h := sndT_stamp L now text
  have hl := sndT_length L now text
  unfold partsE
  rw [if_neg]
  omega

end Go.Proofs.YtbmjlofehbbkbaaDoor

/- Links held against each other; small laws on a link that lies in memory. -/
namespace Go.Proofs.YtbmjlofehbbkbaaDoor
open Go.RowKit

theorem lk_cells : Tryd.prog.cellsOf 63 = 60 := by kernel_rfl
theorem lk_key : Tryd.prog.cellsOf 25 = 48 := by kernel_rfl
theorem lk_16 : Tryd.prog.cellsOf 22 = 16 := by kernel_rfl
theorem lk_bool : Tryd.prog.cellsOf 4 = 1 := by kernel_rfl
theorem lk_u64 : Tryd.prog.cellsOf 26 = 1 := by kernel_rfl
theorem lk_int : Tryd.prog.cellsOf 3 = 1 := by kernel_rfl
theorem lk_met : Tryd.prog.cellsOf 36 = 3 := by kernel_rfl
theorem lk_echo : Tryd.prog.cellsOf 61 = 3 := by kernel_rfl
theorem infoLk : (Tryd.prog.info? 63).map (·.size) = some 60 := by kernel_rfl
theorem infoEc : (Tryd.prog.info? 61).map (·.size) = some 3 := by kernel_rfl

theorem lk_u8s (a : List Nat) : u8s a = (a.map Int.ofNat).map (Value.int .u8) := by rw [u8s, List.map_map]; rfl
def keyL (a b : List Nat) : List Lit := (a.map Int.ofNat).map (Lit.int .u8) ++ (b.map Int.ofNat).map (Lit.int .u8)
theorem keyL_lits {a b : List Nat} (h : IsKey a b) : Tryd.prog.keyLits 3 25 (kCells a b) = some (keyL a b) := by
  have ha := h.c.len
  have hb := h.ml
  have h0 := lits_of_ints Tryd.underlying22 Tryd.underlying5 s_cells8 lk_16 (a.map Int.ofNat) (by simpa using ha) (fun z hz => by obtain ⟨x, hx, rfl⟩ := List.mem_map.1 hz; exact s_wf_u8 (h.c.mem x hx))
  have h1 := lits_of_ints Tryd.underlying23 Tryd.underlying5 s_cells8 cells32 (b.map Int.ofNat) (by simpa using hb) (fun z hz => by obtain ⟨x, hx, rfl⟩ := List.mem_map.1 hz; exact s_wf_u8 (h.mb x hx))
  rw [← lk_u8s] at h0 h1
  have e0 : ((kCells a b).drop 0).take 16 = u8s a := by rw [List.drop_zero, kCells, List.take_left' (by simp [u8s, ha])]
  have e1 : ((kCells a b).drop 16).take 32 = u8s b := by rw [kCells, List.drop_left' (by simp [u8s, ha]), List.take_of_length_le (by simp [u8s, hb])]
  have hl : (kCells a b).length = Tryd.prog.cellsOf 25 := by rw [lk_key]; simp [kCells, u8s, ha, hb]
  conv => lhs; unfold Program.keyLits
  simp only [Tryd.underlying25]
  rw [if_pos ⟨hl, by decide +kernel⟩]
  simp only [List.mapM_cons, List.mapM_nil, lk_16, cells32, e0, e1, h0, h1]
  simp [keyL]

theorem lit_bool (n : Nat) (b : Bool) : Tryd.prog.keyLits (n + 1) 4 [.bool b] = some [.bool b] := by
  conv => lhs; unfold Program.keyLits
  simp only [Tryd.underlying4]
theorem lit_u64 (n : Nat) (x : Nat) (h : x < 18446744073709551616) : Tryd.prog.keyLits (n + 1) 26 [.int .u64 (x : Int)] = some [.int .u64 (x : Int)] := by
  have hw : (Lit.int .u64 (x : Int)).wf = true := by
    have m1 : IntKind.u64.min = 0 := rfl
    have m2 : IntKind.u64.max = 18446744073709551615 := rfl
    rw [Lit.wf, m1, m2, decide_eq_true (by omega), decide_eq_true (by omega)]
    rfl
  conv => lhs; unfold Program.keyLits
  simp only [Tryd.underlying26]
  rw [if_pos ⟨trivial, hw⟩]
theorem lit_int (n : Nat) (x : Int) (h1 : -9223372036854775808 ≤ x) (h2 : x ≤ 9223372036854775807) : Tryd.prog.keyLits (n + 1) 3 [.int .i64 x] = some [.int .i64 x] := by
  have hw : (Lit.int .i64 x).wf = true := by
    have m1 : IntKind.i64.min = -9223372036854775808 := rfl
    have m2 : IntKind.i64.max = 9223372036854775807 := rfl
    rw [Lit.wf, m1, m2, decide_eq_true (by omega), decide_eq_true (by omega)]
    rfl
  conv => lhs; unfold Program.keyLits
  simp only [Tryd.underlying3]
  rw [if_pos ⟨trivial, hw⟩]
theorem lit_met (n : Nat) (m : Me) (h : m.may) : Tryd.prog.keyLits (n + 1 + 1) 36 (meC m) = some [.int .i64 m.a, .int .i64 m.b, .int .i64 m.c] := by
  obtain ⟨h1, h2, h3, h4, h5, h6, _⟩ := h
  conv => lhs; unfold Program.keyLits
  simp only [Tryd.underlying36]
  rw [if_pos ⟨by rw [lk_met]; rfl, by decide +kernel⟩]
  simp [List.mapM_cons, List.mapM_nil, lk_int, lit_int n m.a (by omega) (by omega), lit_int n m.b (by omega) (by omega), lit_int n m.c (by omega) (by omega)]
theorem lit_echo (n : Nat) (b : Bool) (x y : Int) (hx : 0 ≤ x) (hx2 : x ≤ 65534) (hy : 0 ≤ y) (hy2 : y ≤ 1099511627776) : Tryd.prog.keyLits (n + 1 + 1) 61 [.bool b, .int .i64 x, .int .i64 y] = some [.bool b, .int .i64 x, .int .i64 y] := by
  conv => lhs; unfold Program.keyLits
  simp only [Tryd.underlying61]
  rw [if_pos ⟨by rw [lk_echo]; rfl, by decide +kernel⟩]
  simp [List.mapM_cons, List.mapM_nil, lk_int, lk_bool, lit_bool n b, lit_int n x (by omega) (by omega), lit_int n y (by omega) (by omega)]

/-- what a link is told of by -/
def lkL (L : Lk) : List Lit := keyL L.code L.mark ++ [.bool L.down, .bool true, .int .u64 (L.next : Int), .int .i64 L.addr, .bool L.heard, .int .u64 (L.newest : Int), .int .i64 L.m.a, .int .i64 L.m.b, .int .i64 L.m.c, .bool L.is, .int .i64 L.stamp, .int .i64 L.told]

theorem lk_drop {L : Lk} (h : IsKey L.code L.mark) (i : Nat) : (lkC L).drop (48 + i) = (lkT L true).drop i := by
  rw [lkC, ← List.drop_drop, List.drop_left' (kC_length h)]
set_option maxRecDepth 100000 in
theorem lkL_lits {L : Lk} (h : L.ok) : Tryd.prog.keyLits 4 63 (lkC L) = some (lkL L) := by
  have hn := h.next
  have hw := h.newest
  have a0 := h.a0
  have a1 := h.a1
  have k0 := keyL_lits h.key
  have e0 : ((lkC L).drop 0).take 48 = kCells L.code L.mark := by rw [List.drop_zero, lkC, List.take_left' (kC_length h.key)]
  have d := lk_drop h.key
  have d0 := d 0
  have d1 := d 1
  have d2 := d 2
  have d3 := d 3
  have d4 := d 4
  have d5 := d 5
  have d6 := d 6
  have d9 := d 9
  simp only [List.drop_zero, List.drop_succ_cons, Nat.reduceAdd] at d0 d1 d2 d3 d4 d5 d6 d9
  have m := lit_met 1 L.m h.may
  have c := lit_echo 1 L.is L.stamp L.told h.s0 h.s1 h.t0 h.t1
  conv => lhs; unfold Program.keyLits
  simp only [Tryd.underlying63]
  rw [if_pos ⟨by rw [lk_cells, lkC_length h.key], by decide +kernel⟩]
  simp only [List.mapM_cons, List.mapM_nil, lk_key, lk_int, lk_u64, lk_bool, lk_met, lk_echo, e0, k0, d0, d1, d2, d3, d4, d5, d6, d9, List.take_succ_cons, List.take_zero, m, c, lit_bool 2, lit_u64 2 L.next (by omega), lit_u64 2 L.newest (by omega), lit_int 2 L.addr (by omega) (by omega)]
  simp [lkL]

theorem keyL_length {a b : List Nat} (h : IsKey a b) : (keyL a b).length = 48 := by simp [keyL, h.c.len, h.ml]
/-- two links -/
theorem run_eq_lk {L K : Lk} (hL : L.ok) (hK : K.ok) (w : World) : ∃ r : Bool, (Op.equalIn 10000 63 (.agg (lkC L).toArray) (.agg (lkC K).toArray)).run Tryd.prog w = .ok r w ∧ (r = true ↔ lkL L = lkL K) := by
  have hk : Tryd.prog.keyTypeAt 4 63 = true := by kernel_rfl
  exact run_equalIn_deep 9996 4 63 hk w 4 4 (.agg (lkC L).toArray) (.agg (lkC K).toArray) (lkL L) (lkL K)
    (by simp [Value.formed, Tryd.underlying63, lk_cells, lkC_length hL.key]) (by simp [Value.formed, Tryd.underlying63, lk_cells, lkC_length hK.key]) (by simpa [Value.cells] using lkL_lits hL) (by simpa [Value.cells] using lkL_lits hK)
theorem run_eq_took {L : Lk} (hL : L.ok) {n : Nat} {stamp x now frm : Int} (hK : (L.took n stamp x now frm).ok) (w : World) : (Op.equalIn 10000 63 (.agg (lkC (L.took n stamp x now frm)).toArray) (.agg (lkC L).toArray)).run Tryd.prog w = .ok (!L.fresh n) w := by
  obtain ⟨r, hr, hiff⟩ := run_eq_lk hK hL w
  refine hr.trans (congrArg (fun b : Bool => Result.ok b w) ?_)
  clear hr
  by_cases hf : L.fresh n = true
  · rw [hf]
    cases r
    · rfl
    · exfalso
      have h := hiff.1 rfl
      have hkl := keyL_length hL.key
      unfold lkL Lk.took at h
      rw [if_pos hf] at h
      have h2 := (List.append_inj h rfl).2
      simp at h2
      unfold Lk.fresh at hf
      obtain ⟨_, h3, h4, _⟩ := h2
      rw [← h3] at hf
      simp at hf
      omega
  · have e : L.took n stamp x now frm = L := by unfold Lk.took; rw [if_neg hf]
    rw [e] at hiff
    rw [hiff.2 rfl, eq_false_of_ne_true hf]
    rfl

theorem guardLk (x y : Operand) (u v : Array Value) (w : World) : (eqGuard .neq 63 x y (.agg u) (.agg v)).run Tryd.prog w = .ok () w := by kernel_rfl

/-- a link that lies in memory -/
structure LkAt (w : World) (g : Nat) (L : Lk) : Prop where
  a : Arr w g 63 (lkC L)
  ok : L.ok
theorem LkAt.cells {w : World} {g : Nat} {L : Lk} (h : LkAt w g L) : w.cell? ⟨g, 48, none⟩ = some (.bool L.down) ∧ w.cell? ⟨g, 49, none⟩ = some (.bool true) ∧ w.cell? ⟨g, 50, none⟩ = some (.int .u64 (L.next : Int)) ∧ w.cell? ⟨g, 51, none⟩ = some (.int .i64 L.addr) ∧
    w.cell? ⟨g, 52, none⟩ = some (.bool L.heard) ∧ w.cell? ⟨g, 53, none⟩ = some (.int .u64 (L.newest : Int)) :=
  have hh : ∀ j, w.cell? ⟨g, 48 + j, none⟩ = (lkT L true)[j]? := fun j => by rw [h.a.cell, lkC_at h.ok.key]
  ⟨hh 0, hh 1, hh 2, hh 3, hh 4, hh 5⟩
theorem LkAt.key {w : World} {g : Nat} {L : Lk} (h : LkAt w g L) : w.rangeAt g 0 (kCells L.code L.mark) := fun j v hv => by
  have hj : j < (kCells L.code L.mark).length := (List.getElem?_eq_some_iff.1 hv).1
  rw [Nat.zero_add, h.a.cell, lkC, List.getElem?_append_left hj]
  exact hv
theorem LkAt.meter {w : World} {g : Nat} {L : Lk} (h : LkAt w g L) : w.rangeAt g 54 (meC L.m) := fun j v hv => by
  have hj : j < 3 := (List.getElem?_eq_some_iff.1 hv).1
  rw [show 54 + j = 48 + (6 + j) by omega, h.a.cell, lkC_at h.ok.key]
  rw [← hv]
  match j, hj with
  | 0, _ => rfl
  | 1, _ => rfl
  | 2, _ => rfl
theorem LkAt.echo {w : World} {g : Nat} {L : Lk} (h : LkAt w g L) : w.rangeAt g 57 [.bool L.is, .int .i64 L.stamp, .int .i64 L.told] := fun j v hv => by
  have hj : j < 3 := (List.getElem?_eq_some_iff.1 hv).1
  rw [show 57 + j = 48 + (9 + j) by omega, h.a.cell, lkC_at h.ok.key]
  rw [← hv]
  match j, hj with
  | 0, _ => rfl
  | 1, _ => rfl
  | 2, _ => rfl
theorem LkAt.kept {w w' : World} {g : Nat} {L : Lk} (h : LkAt w g L) (hb : Below w.heap.size w w') : LkAt w' g L := ⟨h.a.kept hb, h.ok⟩
theorem LkAt.lt {w : World} {g : Nat} {L : Lk} (h : LkAt w g L) : g < w.heap.size := h.a.lt
theorem LkAt.grown {w w' : World} {g k : Nat} {L : Lk} (h : LkAt w g L) (hg : w.grownBy w' (some k)) (hne : g ≠ k) : LkAt w' g L := ⟨h.a.grown hg hne, h.ok⟩

end Go.Proofs.YtbmjlofehbbkbaaDoor

/- Walks: isAddr, isTime, there, stampForm, at, New, Next, Addr, Newest, Meter, Copy. -/
namespace Go.Proofs.YtbmjlofehbbkbaaDoor
open Go.RowKit

set_option maxHeartbeats 1000000 in
theorem isAddr_any (a : Int) (w : World) : Calls Tryd.prog 17 #[.int .i64 a] w fun e w' => e = .returned (.bool (decide (IsAddr a))) ∧ w' = w := by
  by_cases h1 : 0 ≤ a
  · have d1 : decide (0 ≤ a) = true := by simpa using h1
    by_cases h2 : a ≤ 65535
    · rw [decide_eq_true (show IsAddr a from ⟨h1, h2⟩)]
      have d2 : decide (a ≤ 65535) = true := by simpa using h2
      clear h1 h2
      go_enter Tryd.func17, Tryd.ntmps17
      go_wp2
      go_ret
      exact ⟨rfl, rfl⟩
    · rw [decide_eq_false (show ¬ IsAddr a from fun h => h2 h.2)]
      have d2 : decide (a ≤ 65535) = false := by simpa using h2
      clear h1 h2
      go_enter Tryd.func17, Tryd.ntmps17
      go_wp2
      go_ret
      exact ⟨rfl, rfl⟩
  · rw [decide_eq_false (show ¬ IsAddr a from fun h => h1 h.1)]
    have d1 : decide (0 ≤ a) = false := by simpa using h1
    clear h1
    go_enter Tryd.func17, Tryd.ntmps17
    go_wp2
    go_ret
    exact ⟨rfl, rfl⟩

set_option maxHeartbeats 1000000 in
theorem isTime_any (a : Int) (w : World) : Calls Tryd.prog 19 #[.int .i64 a] w fun e w' => e = .returned (.bool (decide (IsTime a))) ∧ w' = w := by
  by_cases h1 : 0 ≤ a
  · have d1 : decide (0 ≤ a) = true := by simpa using h1
    by_cases h2 : a ≤ 1099511627776
    · rw [decide_eq_true (show IsTime a from ⟨h1, h2⟩)]
      have d2 : decide (a ≤ 1099511627776) = true := by simpa using h2
      clear h1 h2
      go_enter Tryd.func19, Tryd.ntmps19
      go_wp2
      go_ret
      exact ⟨rfl, rfl⟩
    · rw [decide_eq_false (show ¬ IsTime a from fun h => h2 h.2)]
      have d2 : decide (a ≤ 1099511627776) = false := by simpa using h2
      clear h1 h2
      go_enter Tryd.func19, Tryd.ntmps19
      go_wp2
      go_ret
      exact ⟨rfl, rfl⟩
  · rw [decide_eq_false (show ¬ IsTime a from fun h => h1 h.1)]
    have d1 : decide (0 ≤ a) = false := by simpa using h1
    clear h1
    go_enter Tryd.func19, Tryd.ntmps19
    go_wp2
    go_ret
    exact ⟨rfl, rfl⟩

set_option maxHeartbeats 1000000 in
theorem lthere_nil (w : World) : Calls Tryd.prog 18 #[.pointer none] w fun r w' => r = .returned (.bool false) ∧ w' = w := by
  go_enter Tryd.func18, Tryd.ntmps18
  go_wp2
  go_ret
  exact ⟨rfl, rfl⟩
set_option maxHeartbeats 1000000 in
theorem lthere_at (g : Nat) (b : Bool) (w : World) (hc : w.cell? ⟨g, 49, none⟩ = some (.bool b)) : Calls Tryd.prog 18 #[.pointer (some ⟨g, 0, none⟩)] w fun r w' => r = .returned (.bool b) ∧ w' = w := by
  go_enter Tryd.func18, Tryd.ntmps18
  go_wp2
  go_ret
  exact ⟨rfl, rfl⟩

theorem fixed2 (x : Nat) (hx : x < 18446744073709551616) (w : World) : Calls Tryd.prog 30 #[.int .u64 (x : Int), .int .i64 2] w fun e w' => ∃ v, e = .returned v ∧ w'.ownsRow w.heap.size 5 1 v 2 (u8s (fx2 x)) ∧ Below w.heap.size w w' := by
  have h := fixed_in x 2 hx (by omega) (by omega) w
  rw [fixF2, ofNat_map] at h
  exact h
set_option maxHeartbeats 1000000 in
theorem stamp_any (x : Nat) (hx : x < 65536) (w : World) : Calls Tryd.prog 20 #[.int .i64 (x : Int)] w fun e w' => ∃ v, e = .returned v ∧ w'.ownsRow w.heap.size 5 1 v 2 (u8s (fx2 x)) ∧ Below w.heap.size w w' := by
  have hw : IntKind.u64.wrap (x : Int) = (x : Int) := by rw [(show ∀ n : Int, IntKind.u64.wrap n = n % 18446744073709551616 from fun n => by simp [IntKind.wrap, IntKind.bits, IntKind.signed])]; omega
  have HF := hide (fun v : World => fixed2 x (by omega) v)
  clear hx
  go_enter Tryd.func20, Tryd.ntmps20
  go_wp2_with fail
  refine (HF.out w).mono ?_
  rintro e w1 ⟨v, rfl, ho, hb⟩
  have H1 := hide (And.intro ho hb)
  clear ho hb HF
  go_wp2
  go_ret
  exact ⟨v, rfl, H1.out⟩

abbrev ecC (b : Bool) (x y : Int) : List Value := [.bool b, .int .i64 x, .int .i64 y]
abbrev ecV (b : Bool) (x y : Int) : Value := .agg #[.bool b, .int .i64 x, .int .i64 y]
theorem ec_box (w : World) (b : Bool) (x y : Int) : Arr (w.alloc (Obj.cells #[Value.bool b, Value.int .i64 x, Value.int .i64 y] 61)) w.heap.size 61 (ecC b x y) ∧ Below w.heap.size w (w.alloc (Obj.cells #[Value.bool b, Value.int .i64 x, Value.int .i64 y] 61)) := ⟨Arr.new w _ _, (Below.refl _ _).alloc (Nat.le_refl _) _⟩

set_option maxHeartbeats 2000000 in
theorem at_any (b : Bool) (x y now : Int) (w : World) (hx : 0 ≤ x) (hx2 : x ≤ 65534) (hy : 0 ≤ y) (hy2 : y ≤ 1099511627776) (hn : 0 ≤ now) (hn2 : now ≤ 1099511627776) :
    Calls Tryd.prog 21 #[ecV b x y, .int .i64 now] w fun e w' => e = .returned (.int .i64 (atF b x y now)) ∧ Below w.heap.size w w' := by
  have A1 := hide (ec_box w b x y)
  have c0 := A1.out.1.cell 0
  have c1 := A1.out.1.cell 1
  have c2 := A1.out.1.cell 2
  simp only [List.getElem?_cons_zero, List.getElem?_cons_succ] at c0 c1 c2
  have hw : wrap64 (now - y) = now - y := by unfold wrap64; omega
  cases b
  · have e : atF false x y now = 65535 := by simp [atF]
    rw [e]
    clear e hx hx2 hy hy2 hn hn2
    go_enter Tryd.func21, Tryd.ntmps21
    go_upto_region 1 with fail
    generalize w.alloc (Obj.cells #[Value.bool false, Value.int .i64 x, Value.int .i64 y] 61) = w1 at *
    go_wp2
    go_ret
    exact ⟨rfl, A1.out.2⟩
  · by_cases h1 : now - y < 0
    · have e : atF true x y now = 65535 := by unfold atF; rw [if_neg (by omega)]
      rw [e]
      have d1 : decide (now - y < 0) = true := by simpa using h1
      clear e hx hx2 hy hy2 hn hn2 h1
      go_enter Tryd.func21, Tryd.ntmps21
      go_upto_region 1 with fail
      generalize w.alloc (Obj.cells #[Value.bool true, Value.int .i64 x, Value.int .i64 y] 61) = w1 at *
      go_wp2
      go_ret
      exact ⟨rfl, A1.out.2⟩
    · have d1 : decide (now - y < 0) = false := by simpa using h1
      by_cases h2 : 1000 < now - y
      · have e : atF true x y now = 65535 := by unfold atF; rw [if_neg (by omega)]
        rw [e]
        have d2 : decide (1000 < now - y) = true := by simpa using h2
        clear e hx hx2 hy hy2 hn hn2 h1 h2
        go_enter Tryd.func21, Tryd.ntmps21
        go_upto_region 1 with fail
        generalize w.alloc (Obj.cells #[Value.bool true, Value.int .i64 x, Value.int .i64 y] 61) = w1 at *
        go_wp2
        go_ret
        exact ⟨rfl, A1.out.2⟩
      · have d2 : decide (1000 < now - y) = false := by simpa using h2
        have e : atF true x y now = Int.tmod (x + (now - y)) 65535 := by unfold atF; rw [if_pos ⟨rfl, by omega, by omega⟩, Int.tmod_eq_emod_of_nonneg (by omega)]
        have hw2 : wrap64 (x + (now - y)) = x + (now - y) := by unfold wrap64; omega
        have hw3 : wrap64 (Int.tmod (x + (now - y)) 65535) = Int.tmod (x + (now - y)) 65535 := by rw [Int.tmod_eq_emod_of_nonneg (by omega)]; unfold wrap64; omega
        rw [e]
        clear e hx hx2 hy hy2 hn hn2 h1 h2
        obtain ⟨d, hd⟩ : ∃ d, d = now - y := ⟨_, rfl⟩
        rw [← hd] at d1 d2 hw2 hw3 ⊢
        have hwd : wrap64 (now - y) = d := hw.trans hd.symm
        clear hw hd
        go_enter Tryd.func21, Tryd.ntmps21
        go_upto_region 1 with fail
        generalize w.alloc (Obj.cells #[Value.bool true, Value.int .i64 x, Value.int .i64 y] 61) = w1 at *
        go_wp2
        go_ret
        exact ⟨rfl, A1.out.2⟩

/-- a link that New made -/
def newL (code mark : List Nat) (d : Bool) (n : Nat) (a : Int) : Lk := ⟨code, mark, d, n, a, false, 0, Me.none, false, 0, 0⟩
theorem newL_ok {code mark : List Nat} (h : IsKey code mark) (d : Bool) {n : Nat} (hn : n ≤ 9223372036854775808) {a : Int} (ha : IsAddr a) : (newL code mark d n a).ok :=
  ⟨h, hn, ha.1, ha.2, by simp [newL], ⟨by simp [newL, Me.none], by simp [newL, Me.none], by simp [newL, Me.none], by simp [newL, Me.none], by simp [newL, Me.none], by simp [newL, Me.none], by simp [newL, Me.none]⟩, by simp [newL], by simp [newL], by simp [newL], by simp [newL]⟩
theorem newL_built1 (f h : Nat → Nat) (d : Bool) (n : Nat) (a : Int) : Tryd.prog.built 63 [(0, .agg (kCells ((List.range 16).map f) ((List.range 32).map h)).toArray), (1, .bool d), (2, .bool true), (3, .int .u64 (n : Int)), (4, .int .i64 a)] = some (lkC (newL ((List.range 16).map f) ((List.range 32).map h) d n a)).toArray := by kernel_rfl
theorem newL_built {code mark : List Nat} (h : IsKey code mark) (d : Bool) (n : Nat) (a : Int) : Tryd.prog.built 63 [(0, .agg (kCells code mark).toArray), (1, .bool d), (2, .bool true), (3, .int .u64 (n : Int)), (4, .int .i64 a)] = some (lkC (newL code mark d n a)).toArray := by
  have e : code = (List.range 16).map (fun i => code.getD i 0) := by
    apply List.ext_getElem
    · simp [h.c.len]
    · intro i h1 h2; simp [List.getD, h1]
  rw [e, as_range mark h.ml]
  exact newL_built1 _ _ _ _ _

theorem key_box (w : World) (code mark : List Nat) : Arr (w.alloc (Obj.cells (kCells code mark).toArray 25)) w.heap.size 25 (kCells code mark) ∧ Below w.heap.size w (w.alloc (Obj.cells (kCells code mark).toArray 25)) := ⟨Arr.new w _ _, (Below.refl _ _).alloc (Nat.le_refl _) _⟩

set_option maxHeartbeats 2000000 in
set_option maxRecDepth 100000 in
theorem lnew_ok (code mark : List Nat) (d : Bool) (n : Nat) (a : Int) (w : World) (hk : IsKey code mark) (hn : n ≤ 9223372036854775808) (ha : IsAddr a) :
    Calls Tryd.prog 5 #[keyV code mark, .bool d, .int .u64 (n : Int), .int .i64 a] w fun e w' => ∃ g, e = .returned (.tuple #[.pointer (some ⟨g, 0, none⟩), .int .i64 0]) ∧ w.heap.size ≤ g ∧ LkAt w' g (newL code mark d n a) ∧ Below w.heap.size w w' := by
  have IK := hide hk.info
  have HB := hide (newL_built hk d n a)
  have HOK := hide (newL_ok hk d hn ha)
  have HA := hide (fun v : World => isAddr_any a v)
  rw [decide_eq_true ha] at HA
  have A1 := hide (key_box w code mark)
  have d1 : decide ((9223372036854775808 : Int) < (n : Int)) = false := by simp; omega
  clear hk hn ha
  generalize newL code mark d n a = L at *
  go_enter Tryd.func5, Tryd.ntmps5
  go_upto_region 1 with fail
  generalize w.alloc (Obj.cells (kCells code mark).toArray 25) = w1 at *
  go_wp2_with (first
    | (refine (HA.out _).mono ?_; rintro e w2 ⟨rfl, rfl⟩)
    | (refine wpList_load_row rfl 25 _ rfl w.heap.size rfl 25 _ (0, 0) _ A1.out.1 Tryd.underlying25 rfl IK.out ?_)
    | (refine wpList_build_of rfl 63 #[(0, .tmp 17), (1, .tmp 18), (2, .const (.bool true)), (3, .tmp 19), (4, .tmp 20)] rfl [(0, .agg (kCells code mark).toArray), (1, .bool d), (2, .bool true), (3, .int .u64 (n : Int)), (4, .int .i64 a)] (by simp [Act.eval, Act.put]) (lkC L).toArray HB.out ?_))
  go_ret2
  exact ⟨_, rfl, A1.out.2.size, ⟨Arr.new _ _ _, HOK.out⟩, A1.out.2.alloc A1.out.2.size _⟩

set_option maxHeartbeats 2000000 in
set_option maxRecDepth 100000 in
theorem lnew_bad (code mark : List Nat) (d : Bool) (n : Nat) (a : Int) (w : World) (h : ¬ (n ≤ 9223372036854775808 ∧ IsAddr a)) :
    Calls Tryd.prog 5 #[keyV code mark, .bool d, .int .u64 (n : Int), .int .i64 a] w fun e w' => e = .returned (.tuple #[.pointer none, .int .i64 2]) ∧ Below w.heap.size w w' := by
  have A1 := hide (key_box w code mark)
  by_cases hn : n ≤ 9223372036854775808
  · have ha : ¬ IsAddr a := fun e => h ⟨hn, e⟩
    have HA := hide (fun v : World => isAddr_any a v)
    rw [decide_eq_false ha] at HA
    have d1 : decide ((9223372036854775808 : Int) < (n : Int)) = false := by simp; omega
    clear h hn ha
    go_enter Tryd.func5, Tryd.ntmps5
    go_upto_region 1 with fail
    generalize w.alloc (Obj.cells (kCells code mark).toArray 25) = w1 at *
    go_wp2_with (refine (HA.out _).mono ?_; rintro e w2 ⟨rfl, rfl⟩)
    go_ret2
    exact ⟨rfl, A1.out.2⟩
  · have d1 : decide ((9223372036854775808 : Int) < (n : Int)) = true := by simp; omega
    clear h hn
    go_enter Tryd.func5, Tryd.ntmps5
    go_upto_region 1 with fail
    generalize w.alloc (Obj.cells (kCells code mark).toArray 25) = w1 at *
    go_wp2
    go_ret2
    exact ⟨rfl, A1.out.2⟩

end Go.Proofs.YtbmjlofehbbkbaaDoor

/- Walks: what a link says of itself; one that is none; another one that stands so. -/
namespace Go.Proofs.YtbmjlofehbbkbaaDoor
open Go.RowKit

/-- no link: nil, or one that New did not make -/
def NoLk (w : World) (p : Option Addr) : Prop := p = none ∨ ∃ g, p = some ⟨g, 0, none⟩ ∧ w.cell? ⟨g, 49, none⟩ = some (.bool false)
theorem lthere_no (p : Option Addr) (w : World) (h : NoLk w p) : Calls Tryd.prog 18 #[.pointer p] w fun r w' => r = .returned (.bool false) ∧ w' = w := by
  rcases h with rfl | ⟨g, rfl, hc⟩
  · exact lthere_nil w
  · exact lthere_at g false w hc
theorem lthere_lk {w : World} {g : Nat} {L : Lk} (h : LkAt w g L) : Calls Tryd.prog 18 #[.pointer (some ⟨g, 0, none⟩)] w fun r w' => r = .returned (.bool true) ∧ w' = w := lthere_at g true w h.cells.2.1

set_option maxHeartbeats 1000000 in
theorem next_no (p : Option Addr) (w : World) (h : NoLk w p) : Calls Tryd.prog 33 #[.pointer p] w fun r w' => r = .returned (.int .u64 0) ∧ w' = w := by
  have HT := hide (lthere_no p w h)
  clear h
  go_enter Tryd.func33, Tryd.ntmps33
  go_wp2_with (refine HT.out.mono ?_; rintro r w1 ⟨rfl, rfl⟩)
  go_ret
  exact ⟨rfl, rfl⟩
set_option maxHeartbeats 1000000 in
theorem next_at (w : World) (g : Nat) (L : Lk) (h : LkAt w g L) : Calls Tryd.prog 33 #[.pointer (some ⟨g, 0, none⟩)] w fun r w' => r = .returned (.int .u64 (L.next : Int)) ∧ w' = w := by
  have HT := hide (lthere_lk h)
  obtain ⟨_, _, c, _⟩ := h.cells
  clear h
  go_enter Tryd.func33, Tryd.ntmps33
  go_wp2_with (refine HT.out.mono ?_; rintro r w1 ⟨rfl, rfl⟩)
  go_ret
  exact ⟨rfl, rfl⟩

set_option maxHeartbeats 1000000 in
theorem addr_no (p : Option Addr) (w : World) (h : NoLk w p) : Calls Tryd.prog 15 #[.pointer p] w fun r w' => r = .returned (.int .i64 0) ∧ w' = w := by
  have HT := hide (lthere_no p w h)
  clear h
  go_enter Tryd.func15, Tryd.ntmps15
  go_wp2_with (refine HT.out.mono ?_; rintro r w1 ⟨rfl, rfl⟩)
  go_ret
  exact ⟨rfl, rfl⟩
set_option maxHeartbeats 1000000 in
theorem addr_at (w : World) (g : Nat) (L : Lk) (h : LkAt w g L) : Calls Tryd.prog 15 #[.pointer (some ⟨g, 0, none⟩)] w fun r w' => r = .returned (.int .i64 L.addr) ∧ w' = w := by
  have HT := hide (lthere_lk h)
  obtain ⟨_, _, _, c, _⟩ := h.cells
  clear h
  go_enter Tryd.func15, Tryd.ntmps15
  go_wp2_with (refine HT.out.mono ?_; rintro r w1 ⟨rfl, rfl⟩)
  go_ret
  exact ⟨rfl, rfl⟩

set_option maxHeartbeats 1000000 in
theorem newest_no (p : Option Addr) (w : World) (h : NoLk w p) : Calls Tryd.prog 32 #[.pointer p] w fun r w' => r = .returned (.tuple #[.int .u64 0, .bool false]) ∧ w' = w := by
  have HT := hide (lthere_no p w h)
  clear h
  go_enter Tryd.func32, Tryd.ntmps32
  go_wp2_with (refine HT.out.mono ?_; rintro r w1 ⟨rfl, rfl⟩)
  go_ret2
  exact ⟨rfl, rfl⟩
set_option maxHeartbeats 2000000 in
set_option maxRecDepth 100000 in
theorem newest_at (w : World) (g : Nat) (L : Lk) (h : LkAt w g L) : Calls Tryd.prog 32 #[.pointer (some ⟨g, 0, none⟩)] w fun r w' => r = .returned (.tuple #[.int .u64 (L.newest : Int), .bool L.heard]) ∧ Below w.heap.size w w' := by
  have HT := hide (lthere_lk h)
  have HL := hide h
  have hc : Hid (∀ v, Hid (Below w.heap.size w v) → v.cell? ⟨g, 53, none⟩ = some (.int .u64 (L.newest : Int))) := fun v hb => ((HL.out.kept hb.out).cells).2.2.2.2.2
  have hd : Hid (∀ v, Hid (Below w.heap.size w v) → v.cell? ⟨g, 52, none⟩ = some (.bool L.heard)) := fun v hb => ((HL.out.kept hb.out).cells).2.2.2.2.1
  clear h
  go_enter Tryd.func32, Tryd.ntmps32
  go_upto_region 3 with (refine HT.out.mono ?_; rintro r w1 ⟨rfl, rfl⟩)
  refine wp_region_held_drew (S := fun v => Hid (Below w1.heap.size w1 v)) (by kernel_rfl) (hide (Below.refl _ _).drew) (fun hHeld => ?_)
  refine take_dstH (i := 0) (d := 7) (v := ?_) rfl rfl (by kernel_rfl) (by kernel_rfl) (by kernel_rfl) (fun _ _ _ h => h) (by rfl) hHeld ?_ ?_
  rotate_left
  · intro wZ hSw; clear hSw; go_simp; first | (with_reducible rfl) | (rw [if_pos (by omega)]; with_reducible rfl) | skip
  try simp only [Act.put, List.setIfInBounds_toArray, List.set_cons_zero, List.set_cons_succ]
  refine take_dstH (i := 1) (d := 8) (v := ?_) rfl rfl (by kernel_rfl) (by kernel_rfl) (by kernel_rfl) (fun _ _ _ h => h) (by rfl) hHeld ?_ ?_
  rotate_left
  · intro wZ hSw; clear hSw; go_simp; first | (with_reducible rfl) | (rw [if_pos (by omega)]; with_reducible rfl) | skip
  try simp only [Act.put, List.setIfInBounds_toArray, List.set_cons_zero, List.set_cons_succ]
  refine take_dstH (i := 2) (d := 9) (v := ?_) rfl rfl (by kernel_rfl) (by kernel_rfl) (by kernel_rfl) (fun _ _ _ h => h) (by rfl) hHeld ?_ ?_
  rotate_left
  · intro wZ hSw; clear hSw; go_simp; first | (with_reducible rfl) | (rw [if_pos (by omega)]; with_reducible rfl) | skip
  try simp only [Act.put, List.setIfInBounds_toArray, List.set_cons_zero, List.set_cons_succ]
  refine take_dstH (i := 3) (d := 10) (v := ?_) rfl rfl (by kernel_rfl) (by kernel_rfl) (by kernel_rfl) (fun _ _ _ h => h) (by rfl) hHeld ?_ ?_
  rotate_left
  · intro wZ hSw; have hfS := hc.out wZ hSw; clear hSw; go_simp; first | (with_reducible rfl) | (rw [if_pos (by omega)]; with_reducible rfl) | skip
  try simp only [Act.put, List.setIfInBounds_toArray, List.set_cons_zero, List.set_cons_succ]
  refine take_dstH (i := 4) (d := 11) (v := ?_) rfl rfl (by kernel_rfl) (by kernel_rfl) (by kernel_rfl) (fun _ _ _ h => h) (by rfl) hHeld ?_ ?_
  rotate_left
  · intro wZ hSw; clear hSw; go_simp; first | (with_reducible rfl) | (rw [if_pos (by omega)]; with_reducible rfl) | skip
  try simp only [Act.put, List.setIfInBounds_toArray, List.set_cons_zero, List.set_cons_succ]
  refine take_dstH (i := 5) (d := 12) (v := ?_) rfl rfl (by kernel_rfl) (by kernel_rfl) (by kernel_rfl) (fun _ _ _ h => h) (by rfl) hHeld ?_ ?_
  rotate_left
  · intro wZ hSw; clear hSw; go_simp; first | (with_reducible rfl) | (rw [if_pos (by omega)]; with_reducible rfl) | skip
  try simp only [Act.put, List.setIfInBounds_toArray, List.set_cons_zero, List.set_cons_succ]
  refine take_dstH (i := 6) (d := 13) (v := ?_) rfl rfl (by kernel_rfl) (by kernel_rfl) (by kernel_rfl) (fun _ _ _ h => h) (by rfl) hHeld ?_ ?_
  rotate_left
  · intro wZ hSw; clear hSw; go_simp; first | (with_reducible rfl) | (rw [if_pos (by omega)]; with_reducible rfl) | skip
  try simp only [Act.put, List.setIfInBounds_toArray, List.set_cons_zero, List.set_cons_succ]
  refine take_dstH (i := 7) (d := 14) (v := ?_) rfl rfl (by kernel_rfl) (by kernel_rfl) (by kernel_rfl) (fun _ _ _ h => h) (by rfl) hHeld ?_ ?_
  rotate_left
  · intro wZ hSw; have hfS := hd.out wZ hSw; clear hSw; go_simp; first | (with_reducible rfl) | (rw [if_pos (by omega)]; with_reducible rfl) | skip
  try simp only [Act.put, List.setIfInBounds_toArray, List.set_cons_zero, List.set_cons_succ]
  refine take_dstH (i := 8) (d := 2) (v := ?_) rfl rfl (by kernel_rfl) (by kernel_rfl) (by kernel_rfl) (fun _ _ _ h => h) (by rfl) hHeld ?_ ?_
  rotate_left
  · intro wZ hSw; clear hSw; go_simp; first | (with_reducible rfl) | (rw [if_pos (by omega)]; with_reducible rfl) | skip
  try simp only [Act.put, List.setIfInBounds_toArray, List.set_cons_zero, List.set_cons_succ]
  refine take_dstH (i := 9) (d := 3) (v := ?_) rfl rfl (by kernel_rfl) (by kernel_rfl) (by kernel_rfl) (fun _ _ _ h => h) (by rfl) hHeld ?_ ?_
  rotate_left
  · intro wZ hSw; clear hSw; go_simp; first | (with_reducible rfl) | (rw [if_pos (by omega)]; with_reducible rfl) | skip
  try simp only [Act.put, List.setIfInBounds_toArray, List.set_cons_zero, List.set_cons_succ]
  refine wpAnyH_done (by kernel_rfl) ?_ _
  go_wp2_with fail
  go_ret2
  exact ⟨rfl, hHeld.out⟩

set_option maxHeartbeats 1000000 in
theorem meter_no (p : Option Addr) (w : World) (h : NoLk w p) : Calls Tryd.prog 16 #[.pointer p] w fun r w' => r = .returned (meV Me.none) ∧ Below w.heap.size w w' := by
  have A1 : Hid (Arr (w.alloc (Obj.cells #[Value.int .i64 0, Value.int .i64 0, Value.int .i64 0] 36)) w.heap.size 36 (meC Me.none) ∧ Below w.heap.size w (w.alloc (Obj.cells #[Value.int .i64 0, Value.int .i64 0, Value.int .i64 0] 36))) := ⟨Arr.new w _ _, (Below.refl _ _).alloc (Nat.le_refl _) _⟩
  have HT := hide (fun (v : World) (hb : Below w.heap.size w v) => lthere_no p v (by
    rcases h with rfl | ⟨g, rfl, hc⟩
    · exact Or.inl rfl
    · exact Or.inr ⟨g, rfl, (hb.cell (block_lt_of_cell hc)).trans hc⟩))
  clear h
  go_enter Tryd.func16, Tryd.ntmps16
  go_upto_region 1 with fail
  generalize w.alloc (Obj.cells #[Value.int .i64 0, Value.int .i64 0, Value.int .i64 0] 36) = w1 at *
  go_wp2_with (first
    | (refine (HT.out w1 A1.out.2).mono ?_; rintro r w2 ⟨rfl, rfl⟩)
    | (refine wpList_store_row rfl 36 _ _ rfl w.heap.size (meC Me.none).toArray rfl rfl 36 (meC Me.none).toArray A1.out.1 infoM rfl (one_meC _) ?_))
  exact bodyPost_ret (results_cell_row Tryd.results16 _ _ w.heap.size 36 (meC Me.none).toArray (0, 0) _ rfl (A1.out.1.row _) Tryd.underlying36 rfl infoM) rfl ⟨rfl, below_setRow A1.out.2 (Nat.le_refl _) A1.out.1.lt _⟩
set_option maxHeartbeats 2000000 in
theorem meter_at (w : World) (g : Nat) (L : Lk) (h : LkAt w g L) : Calls Tryd.prog 16 #[.pointer (some ⟨g, 0, none⟩)] w fun r w' => r = .returned (meV L.m) ∧ Below w.heap.size w w' := by
  have A1 : Hid (Arr (w.alloc (Obj.cells #[Value.int .i64 0, Value.int .i64 0, Value.int .i64 0] 36)) w.heap.size 36 (meC Me.none) ∧ Below w.heap.size w (w.alloc (Obj.cells #[Value.int .i64 0, Value.int .i64 0, Value.int .i64 0] 36))) := ⟨Arr.new w _ _, (Below.refl _ _).alloc (Nat.le_refl _) _⟩
  have HT := hide (fun (v : World) (hb : Below w.heap.size w v) => lthere_lk (h.kept hb))
  have HM := hide (fun (v : World) (hb : Below w.heap.size w v) => (h.kept hb).meter)
  clear h
  go_enter Tryd.func16, Tryd.ntmps16
  go_upto_region 1 with fail
  generalize w.alloc (Obj.cells #[Value.int .i64 0, Value.int .i64 0, Value.int .i64 0] 36) = w1 at *
  go_wp2_with (first
    | (refine (HT.out w1 A1.out.2).mono ?_; rintro r w2 ⟨rfl, rfl⟩)
    | (refine wpList_exec (by rfl) _ (exec_load_mid 36 (.tmp 9) rfl g 54 rfl (meC L.m) _ (HM.out _ A1.out.2) Tryd.underlying36 rfl infoM) ?_)
    | (refine wpList_store_row rfl 36 _ _ rfl w.heap.size (meC L.m).toArray rfl rfl 36 (meC Me.none).toArray A1.out.1 infoM rfl (one_meC _) ?_))
  exact bodyPost_ret (results_cell_row Tryd.results16 _ _ w.heap.size 36 (meC L.m).toArray (0, 0) _ rfl (A1.out.1.row _) Tryd.underlying36 rfl infoM) rfl ⟨rfl, below_setRow A1.out.2 (Nat.le_refl _) A1.out.1.lt _⟩

theorem IsKey.infoLk {L : Lk} (h : IsKey L.code L.mark) : (Tryd.prog.info? 63).map (·.size) = some (lkC L).toArray.size := by rw [Go.Proofs.YtbmjlofehbbkbaaDoor.infoLk]; simp [lkC_length h]

set_option maxHeartbeats 1000000 in
theorem copy_no (p : Option Addr) (w : World) (h : NoLk w p) : Calls Tryd.prog 12 #[.pointer p] w fun r w' => r = .returned (.pointer none) ∧ w' = w := by
  have HT := hide (lthere_no p w h)
  clear h
  go_enter Tryd.func12, Tryd.ntmps12
  go_wp2_with (refine HT.out.mono ?_; rintro r w1 ⟨rfl, rfl⟩)
  go_ret
  exact ⟨rfl, rfl⟩
def zeroLk : List Value := zeroK ++ [.bool false, .bool false, .int .u64 0, .int .i64 0, .bool false, .int .u64 0, .int .i64 0, .int .i64 0, .int .i64 0, .bool false, .int .i64 0, .int .i64 0]
theorem zeroLk_run (v : World) : (zeroValue 63).run Tryd.prog v = .ok (.agg zeroLk.toArray) v := by kernel_rfl
theorem zeroLk_length : zeroLk.toArray.size = 60 := by rfl
set_option maxHeartbeats 2000000 in
set_option maxRecDepth 100000 in
theorem copy_at (w : World) (g : Nat) (L : Lk) (h : LkAt w g L) : Calls Tryd.prog 12 #[.pointer (some ⟨g, 0, none⟩)] w fun r w' => ∃ k, r = .returned (.pointer (some ⟨k, 0, none⟩)) ∧ w.heap.size ≤ k ∧ LkAt w' k L ∧ Below w.heap.size w w' := by
  have HT := hide (lthere_lk h)
  have HA := hide h.a
  have HOK := hide h.ok
  have HI := hide (IsKey.infoLk h.ok.key)
  have HI2 : Hid ((Tryd.prog.info? 63).map (·.size) = some (lkC L).length) := by show _ = _; rw [HI.out]; simp
  have HS : Hid (zeroLk.toArray.size = (lkC L).toArray.size) := by show _ = _; rw [zeroLk_length]; simp [lkC_length h.ok.key]
  have hz := zeroLk_run
  clear h
  go_enter Tryd.func12, Tryd.ntmps12
  go_wp2_with (first
    | (refine HT.out.mono ?_; rintro r w2 ⟨rfl, rfl⟩)
    | (refine wpList_exec (by rfl) _ (exec_load_all 63 (.tmp 8) rfl g rfl 63 (lkC L) _ HA.out Tryd.underlying63 rfl HI2.out) ?_)
    | (refine wpList_store_row rfl 63 _ _ rfl w2.heap.size (lkC L).toArray rfl rfl 63 zeroLk.toArray (heap_at w2 _ _ rfl) HI.out HS.out (one_lkC L) ?_))
  go_ret
  exact ⟨w2.heap.size, rfl, Nat.le_refl _, ⟨(Arr.new w2 63 zeroLk).row _, HOK.out⟩, below_setRow ((Below.refl _ _).alloc (Nat.le_refl _) _) (Nat.le_refl _) (by simp) _⟩

end Go.Proofs.YtbmjlofehbbkbaaDoor

/- Walks: Send. -/
namespace Go.Proofs.YtbmjlofehbbkbaaDoor
open Go.RowKit

theorem exec_build_of {P : Program} {oi : Oper} {a : Act} {w : World} (t : TypeId) (parts : Array (Nat × Operand)) (ho : oi.op = .build t parts) (l : List (Nat × Value)) (hl : (parts.map fun (i, x) => (i, a.eval x)).toList = l) (C : Array Value) (hb : P.built t l = some C) :
    (execOp a.eval oi).run P w = .ok (.value (.agg C)) w := by
  unfold execOp
  simp only [ho, Sem.run_bind, run_build w t _ C (by rw [hl]; exact hb), Result.andThen_ok]
  rfl
theorem wpList_store_in {P : Program} {ops : Array Oper} {rest : List Oper} {o : Oper} {a : Act} {w : World} {Q : Exit → Act → World → Prop} (hgd : o.guard = none) (hdd : o.dst = none) (ty : TypeId) (x y : Operand) (ho : o.op = .store ty x y)
    (g off : Nat) (cells : Array Value) (hx : a.eval x = .pointer (some ⟨g, off, none⟩)) (hy : a.eval y = .agg cells)
    (t : TypeId) (cur : List Value) (hg : Arr w g t cur) (hi : (P.info? ty).map (·.size) = some cells.size)
    (hfit : off + cells.size ≤ cur.length) (h1 : cells.all (·.oneCell') = true)
    (h : wpList P ops Q rest a (w.setRow g (cur.take off ++ cells.toList ++ cur.drop (off + cells.size)).toArray)) : wpList P ops Q (o :: rest) a w :=
  wpList_plain hgd fun _ hK => wp_store_at hdd ty x y ho g off cells hx hy t cur hg hi hfit h1 (hK _ _ h)

theorem lk_grown_set (w : World) (g i : Nat) (v : Value) : w.grownBy (w.setCell ⟨g, i, none⟩ v) (some g) := ⟨rfl, rfl, rfl, by simp, fun k _ hk => Below.heap_setCell _ _ _ k (fun e => hk (by rw [e]))⟩
theorem lk_grown_row (w : World) (g : Nat) (us : Array Value) : w.grownBy (w.setRow g us) (some g) := ⟨rfl, rfl, rfl, by simp, fun k _ hk => setRow_other w g k us (fun e => hk (by rw [e]))⟩

/-- the echo stored -/
theorem lkC_echo {L : Lk} (h : IsKey L.code L.mark) (b : Bool) (x y : Int) : (lkC L).take 57 ++ (ecC b x y).toArray.toList ++ (lkC L).drop (57 + (ecC b x y).toArray.size) = lkC { L with is := b, stamp := x, told := y } := by
  have hk := kC_length h
  simp [lkC, List.take_append, hk, lkT, List.drop_eq_nil_of_le, List.take_of_length_le]
theorem lkC_met {L : Lk} (h : IsKey L.code L.mark) (m : Me) : (lkC L).take 54 ++ (meC m).toArray.toList ++ (lkC L).drop (54 + (meC m).toArray.size) = lkC { L with m := m } := by
  have hk := kC_length h
  simp [lkC, List.take_append, List.drop_append, hk, lkT, List.drop_eq_nil_of_le, List.take_of_length_le]
theorem lkC_next {L : Lk} (h : IsKey L.code L.mark) (n : Nat) : (lkC L).set 50 (.int .u64 (n : Int)) = lkC { L with next := n } := by
  have hk := kC_length h
  rw [lkC, List.set_append_right _ _ (by rw [hk]; omega), hk]
  rfl
theorem lkC_addr {L : Lk} (h : IsKey L.code L.mark) (a : Int) : (lkC L).set 51 (.int .i64 a) = lkC { L with addr := a } := by
  have hk := kC_length h
  rw [lkC, List.set_append_right _ _ (by rw [hk]; omega), hk]
  rfl
theorem lkC_heard {L : Lk} (h : IsKey L.code L.mark) (b : Bool) : (lkC L).set 52 (.bool b) = lkC { L with heard := b } := by
  have hk := kC_length h
  rw [lkC, List.set_append_right _ _ (by rw [hk]; omega), hk]
  rfl
theorem lkC_newest {L : Lk} (h : IsKey L.code L.mark) (n : Nat) : (lkC L).set 53 (.int .u64 (n : Int)) = lkC { L with newest := n } := by
  have hk := kC_length h
  rw [lkC, List.set_append_right _ _ (by rw [hk]; omega), hk]
  rfl

set_option maxHeartbeats 2000000 in
theorem send_no (p q : Option Addr) (now : Int) (n c : Nat) (w : World) (h : NoLk w p) :
    Calls Tryd.prog 7 #[.pointer p, .int .i64 now, .slice q n c] w fun e w' => e = .returned (.tuple #[.slice none 0 0, .int .i64 1]) ∧ w' = w := by
  have HT := hide (lthere_no p w h)
  clear h
  go_enter Tryd.func7, Tryd.ntmps7
  go_wp2_with (refine HT.out.mono ?_; rintro r w1 ⟨rfl, rfl⟩)
  go_ret2
  exact ⟨rfl, rfl⟩

set_option maxHeartbeats 2000000 in
theorem send_arg (g : Nat) (L : Lk) (q : Option Addr) (now : Int) (n c : Nat) (w : World) (h : LkAt w g L) (ht : ¬ IsTime now) :
    Calls Tryd.prog 7 #[.pointer (some ⟨g, 0, none⟩), .int .i64 now, .slice q n c] w fun e w' => e = .returned (.tuple #[.slice none 0 0, .int .i64 2]) ∧ w' = w := by
  have HT := hide (lthere_lk h)
  have HI := hide (fun v : World => isTime_any now v)
  rw [decide_eq_false ht] at HI
  clear h ht
  go_enter Tryd.func7, Tryd.ntmps7
  go_wp2_with (first
    | (refine HT.out.mono ?_; rintro r w1 ⟨rfl, rfl⟩)
    | (refine (HI.out _).mono ?_; rintro r w2 ⟨rfl, rfl⟩))
  go_ret2
  exact ⟨rfl, rfl⟩

set_option maxHeartbeats 2000000 in
theorem send_long (g : Nat) (L : Lk) (q : Option Addr) (now : Int) (n c : Nat) (w : World) (h : LkAt w g L) (ht : IsTime now) (hn : 1196 < n) :
    Calls Tryd.prog 7 #[.pointer (some ⟨g, 0, none⟩), .int .i64 now, .slice q n c] w fun e w' => e = .returned (.tuple #[.slice none 0 0, .int .i64 3]) ∧ w' = w := by
  have HT := hide (lthere_lk h)
  have HI := hide (fun v : World => isTime_any now v)
  rw [decide_eq_true ht] at HI
  have d1 : decide ((1196 : Int) < (n : Int)) = true := by simp; omega
  clear h ht hn
  go_enter Tryd.func7, Tryd.ntmps7
  go_wp2_with (first
    | (refine HT.out.mono ?_; rintro r w1 ⟨rfl, rfl⟩)
    | (refine (HI.out _).mono ?_; rintro r w2 ⟨rfl, rfl⟩))
  go_ret2
  exact ⟨rfl, rfl⟩

set_option maxHeartbeats 2000000 in
theorem send_spent (g : Nat) (L : Lk) (q : Option Addr) (now : Int) (n c : Nat) (w : World) (h : LkAt w g L) (ht : IsTime now) (hn : n ≤ 1196) (hs : L.next = 9223372036854775808) :
    Calls Tryd.prog 7 #[.pointer (some ⟨g, 0, none⟩), .int .i64 now, .slice q n c] w fun e w' => e = .returned (.tuple #[.slice none 0 0, .int .i64 91]) ∧ w' = w := by
  have HT := hide (lthere_lk h)
  have HI := hide (fun v : World => isTime_any now v)
  rw [decide_eq_true ht] at HI
  have d1 : decide ((1196 : Int) < (n : Int)) = false := by simp; omega
  have c3 := h.cells.2.2.1
  rw [hs] at c3
  clear h ht hn hs
  go_enter Tryd.func7, Tryd.ntmps7
  go_wp2_with (first
    | (refine HT.out.mono ?_; rintro r w1 ⟨rfl, rfl⟩)
    | (refine (HI.out _).mono ?_; rintro r w2 ⟨rfl, rfl⟩))
  go_ret2
  exact ⟨rfl, rfl⟩

end Go.Proofs.YtbmjlofehbbkbaaDoor
