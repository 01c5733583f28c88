/-
  Walks of the document's answer: May, Form, Read, Same.
-/
import Derived.Test.YtecpnnnkkofejaaGA
import Derived.Test.YtecpnnnkkofejaaYD
namespace Go.Proofs.Ytecpnnnkkofejaa
open Go.RowKit

/-- a piece that is handed in lies in a box of its own -/
theorem pc_box (w : World) (x : Pc) (p : Option Addr) (c : Nat) : Arr (w.alloc (Obj.cells #[.int .u64 (x.i : Int), .int .i64 x.a, .bool x.l, .slice p x.b.length c] 25)) w.heap.size 25 (pcC x p c) ∧ Below w.heap.size w (w.alloc (Obj.cells #[.int .u64 (x.i : Int), .int .i64 x.a, .bool x.l, .slice p x.b.length c] 25)) := ⟨Arr.new w _ _, (Below.refl _ _).alloc (Nat.le_refl _) _⟩

set_option maxHeartbeats 1000000 in
set_option maxRecDepth 100000 in
theorem rpmay_in (i a : Int) (l : Bool) (p : Option Addr) (n c : Nat) (r : Int) (w : World) (hr : (if a < 0 ∨ 255 < a then 2 else if 1100 < n then 3 else 0 : Int) = r) :
    Calls Try.prog 11 #[.agg #[.int .u64 i, .int .i64 a, .bool l, .slice p n c]] w fun e w' => e = .returned (.int .i64 r) ∧ Below w.heap.size w w' := by
  have HR := hide hr
  have A1 : Hid (Below w.heap.size w (w.alloc (Obj.cells #[.int .u64 i, .int .i64 a, .bool l, .slice p n c] 25))) := (Below.refl _ _).alloc (Nat.le_refl _) _
  clear hr
  by_cases h1 : a < 0
  · go_enter Try.func11, Try.ntmps11
    go_wp2
    go_ret
    exact ⟨ret_i64 (by rw [← HR.out, if_pos (Or.inl h1)]), A1.out⟩
  by_cases h2 : 255 < a
  · go_enter Try.func11, Try.ntmps11
    go_wp2
    go_ret
    exact ⟨ret_i64 (by rw [← HR.out, if_pos (Or.inr h2)]), A1.out⟩
  by_cases h3 : 1100 < n
  · have h3' : (1100 : Int) < (n : Int) := by omega
    go_enter Try.func11, Try.ntmps11
    go_wp2
    go_ret
    exact ⟨ret_i64 (by rw [← HR.out, if_neg (by omega), if_pos h3]), A1.out⟩
  · have h3' : ¬ (1100 : Int) < (n : Int) := by omega
    go_enter Try.func11, Try.ntmps11
    go_wp2
    go_ret
    exact ⟨ret_i64 (by rw [← HR.out, if_neg (by omega), if_neg h3]), A1.out⟩
theorem rpmay_any (x : Pc) (p : Option Addr) (c : Nat) (w : World) :
    Calls Try.prog 11 #[pcV x p c] w fun e w' => e = .returned (.int .i64 x.e) ∧ Below w.heap.size w w' := rpmay_in _ _ _ p _ c _ w rfl

/-- a number's form, in new memory -/
theorem rnm_any (n : Nat) (hn : n < 18446744073709551616) (w : World) :
    Calls Try.prog 27 #[.int .u64 n] w fun e w' => ∃ v, e = .returned v ∧ w'.ownsRow w.heap.size 5 1 v (nmF n).length (u8s (nmF n)) ∧ Below w.heap.size w w' := by
  refine (refnum_any n hn w).mono ?_
  rintro e w' ⟨v, rfl, ho, hb⟩
  rw [nm_u8s, ← nm_length] at ho
  exact ⟨v, rfl, ho, hb⟩

set_option maxHeartbeats 4000000 in
set_option maxRecDepth 100000 in
theorem rpform_of (i a k0 k : Nat) (l : Bool) (b I K : List Nat) (n ni nk : Nat) (p : Option Addr) (c : Nat) (w : World) (hP : Piece w p c b) (hn : b.length = n) (h3 : n ≤ 1100) (hI : I.length = ni) (hK : K.length = nk) (hIb : BytesN I) (hKb : BytesN K) (hi1 : ni ≤ 11) (hk1 : nk ≤ 11)
    (ha : a ≤ 255) (h0 : (a : Int) * 2 = (k0 : Int)) (h1 : l = false → k = k0) (h2 : l = true → (k0 : Int) + 1 = (k : Int))
    (H1 : ∀ v : World, Calls Try.prog 27 #[.int .u64 (i : Int)] v fun e w' => ∃ u, e = .returned u ∧ w'.ownsRow v.heap.size 5 1 u ni (u8s I) ∧ Below v.heap.size v w')
    (H2 : ∀ v : World, Calls Try.prog 27 #[.int .u64 (k : Int)] v fun e w' => ∃ u, e = .returned u ∧ w'.ownsRow v.heap.size 5 1 u nk (u8s K) ∧ Below v.heap.size v w') :
    Calls Try.prog 12 #[.agg #[.int .u64 (i : Int), .int .i64 (a : Int), .bool l, .slice p n c]] w fun e w' => ∃ v, e = .returned v ∧ w'.ownsRow w.heap.size 5 1 v (ni + nk + n) (u8s ((I ++ K) ++ b)) ∧ Below w.heap.size w w' := by
  have A1 : Hid (Arr (w.alloc (Obj.cells #[.int .u64 (i : Int), .int .i64 (a : Int), .bool l, .slice p n c] 25)) w.heap.size 25 [.int .u64 (i : Int), .int .i64 (a : Int), .bool l, .slice p n c] ∧ Below w.heap.size w (w.alloc (Obj.cells #[.int .u64 (i : Int), .int .i64 (a : Int), .bool l, .slice p n c] 25))) := ⟨Arr.new w _ _, (Below.refl _ _).alloc (Nat.le_refl _) _⟩
  have G1 := hide H1
  have G2 := hide H2
  have HP := hide hP
  have HN := hide hn
  have HIL := hide hI
  have HKL := hide hK
  have HIB := hide hIb
  have HKB := hide hKb
  have hu : IntKind.u64.wrap (a : Int) = (a : Int) := by rw [(show ∀ n : Int, IntKind.u64.wrap n = n % 18446744073709551616 from fun n => by simp [IntKind.wrap, IntKind.bits, IntKind.signed])]; omega
  have hk0 : (k0 : Int) ≤ 510 := by omega
  clear hP hn hI hK hIb hKb H1 H2
  cases hl : l
  all_goals
    subst hl
    first
      | (obtain rfl := h1 rfl; clear h1 h2)
      | (have hk := h2 rfl; clear h1 h2)
    go_enter Try.func12, Try.ntmps12
    go_upto_region 4 with fail
    generalize w.alloc (Obj.cells #[.int .u64 (i : Int), .int .i64 (a : Int), .bool _, .slice p n c] 25) = w1 at *
    have c0 := A1.out.1.cell 0
    simp only [List.getElem?_cons_zero] at c0
    go_wp2_with fail
    refine (G1.out w1).mono ?_
    rintro e w2 ⟨u1, rfl, ho, hb⟩
    have O2 := hide (own_base ho A1.out.2.size)
    have A2 := hide (And.intro (A1.out.1.kept hb) (A1.out.2.trans (hb.mono A1.out.2.size)))
    clear ho hb A1 G1 c0
    go_wp2_with fail
    refine (G2.out w2).mono ?_
    rintro e w3 ⟨u2, rfl, ho, hb⟩
    obtain ⟨p2, c2, rfl, hP2, _⟩ := own_piece_n ho HKL.out HKB.out
    have O3 := hide (own_below O2.out hb)
    have P3 := hide hP2
    have A3 := hide (And.intro (A2.out.1.kept hb) (A2.out.2.trans (hb.mono A2.out.2.size)))
    clear ho hb hP2 O2 A2 G2
    go_wp2_with (at_builtin; refine wpList_append_bytes rfl (.tmp 15) (.tmp 17) rfl w.heap.size u1 I rfl ni HIL.out O3.out p2 nk c2 K HKL.out rfl P3.out.1 P3.out.2.1 ?g1 A3.out.2.size ?_)
    case g1 => omega
    intro v4 w4 ho hg
    have O4 := hide ho
    have A4 := hide (And.intro (A3.out.1.keptR hg (own_ne_arr O3.out A3.out.1 (by decide))) (A3.out.2.grown hg A3.out.2.size (fun k hk => (O3.out.lt k hk).1)))
    have c3 := A4.out.1.cell 3
    simp only [List.getElem?_cons_zero, List.getElem?_cons_succ] at c3
    clear ho hg O3 A3 P3
    have HLL : Hid ((I ++ K).length = ni + nk) := by show _ = _; rw [List.length_append, HIL.out, HKL.out]
    go_wp2_with (at_builtin; refine wpList_append_bytes rfl (.tmp 19) (.tmp 21) rfl w.heap.size v4 (I ++ K) rfl (ni + nk) HLL.out O4.out p n c b HN.out rfl (HP.out.kept A4.out.2).1 HP.out.2.1 ?g2 A4.out.2.size ?_)
    case g2 => omega
    intro v5 w5 ho hg
    have O5 := hide ho
    have B5 := hide (A4.out.2.grown hg A4.out.2.size (fun k hk => (O4.out.lt k hk).1))
    clear ho hg O4 A4
    go_wp2
    go_ret
    exact ⟨_, rfl, by rw [List.append_assoc]; exact O5.out, B5.out⟩

theorem rpform_any (x : Pc) (p : Option Addr) (c : Nat) (w : World) (hx : x.e = 0) (hi : x.i < 18446744073709551616) (hP : Piece w p c x.b) :
    Calls Try.prog 12 #[pcV x p c] w fun e w' => ∃ v, e = .returned v ∧ w'.ownsRow w.heap.size 5 1 v x.form.length (u8s x.form) ∧ Below w.heap.size w w' := by
  obtain ⟨h1, h2, h3⟩ := Pc.e_zero hx
  obtain ⟨i, a, l, b⟩ := x
  simp only at h1 h2 h3 hi hP
  obtain ⟨a, rfl⟩ := Int.eq_ofNat_of_zero_le h1
  have hl : (Pc.form ⟨i, a, l, b⟩).length = (nmF i).length + (nmF (Pc.n ⟨i, a, l, b⟩)).length + b.length := by simp [Pc.form]; omega
  rw [hl]
  refine rpform_of i a (2 * a) (Pc.n ⟨i, a, l, b⟩) l b (nmF i) (nmF (Pc.n ⟨i, a, l, b⟩)) b.length _ _ p c w hP rfl h3 rfl rfl (nm_bytes _) (nm_bytes _) (nm_short _) (nm_short _) (by omega) (by omega) ?_ ?_ (fun v => rnm_any i hi v) (fun v => rnm_any _ ?_ v)
  · intro h; subst h; simp [Pc.n]
  · intro h; subst h; simp [Pc.n]
  · simp only [Pc.n]; split <;> simp <;> omega

/-- two pieces held against each other: alike -/
def Pc.same (x y : Pc) : Bool := decide (x.i = y.i ∧ x.a = y.a ∧ x.l = y.l ∧ x.b = y.b)
theorem Pc.same_is {x y : Pc} : x.same y = true ↔ x = y := by
  obtain ⟨i, a, l, b⟩ := x
  obtain ⟨j, c, m, d⟩ := y
  simp [Pc.same]

set_option maxHeartbeats 4000000 in
set_option maxRecDepth 100000 in
theorem same_of (i j : Nat) (a e : Int) (l m : Bool) (b d : List Nat) (nb nd : Nat) (p q : Option Addr) (c f : Nat) (w : World) (hP : BI w p b) (hQ : BI w q d) (hb : b.length = nb) (hd : d.length = nd) (r0 r1 r2 r3 : Bool)
    (h0 : ((i : Int) == (j : Int)) = r0) (h1 : (a == e) = r1) (h2 : (l == m) = r2) (h3 : ((strF b).toList == (strF d).toList) = r3) :
    Calls Try.prog 15 #[.agg #[.int .u64 (i : Int), .int .i64 a, .bool l, .slice p nb c], .agg #[.int .u64 (j : Int), .int .i64 e, .bool m, .slice q nd f]] w fun e w' => e = .returned (.bool (r0 && r1 && r2 && r3)) ∧ Below w.heap.size w w' := by
  have A1 := hide (boxes w [.int .u64 (i : Int), .int .i64 a, .bool l, .slice p nb c] [.int .u64 (j : Int), .int .i64 e, .bool m, .slice q nd f] 25 25)
  have HB := hide hb
  have HD := hide hd
  have cv1 := conv_any (hP.kept A1.out.2.2) (c := c) nb HB.out
  have cv2 := conv_any (hQ.kept A1.out.2.2) (c := f) nd HD.out
  clear hP hQ hb hd
  generalize strF b = sb at *
  generalize strF d = sd at *
  go_enter Try.func15, Try.ntmps15
  go_upto_region 1 with fail
  generalize (w.alloc (Obj.cells #[.int .u64 (i : Int), .int .i64 a, .bool l, .slice p nb c] 25)).alloc (Obj.cells #[.int .u64 (j : Int), .int .i64 e, .bool m, .slice q nd f] 25) = w1 at *
  have x0 := A1.out.1.cell 0
  have x1 := A1.out.1.cell 1
  have x2 := A1.out.1.cell 2
  have x3 := A1.out.1.cell 3
  have y0 := A1.out.2.1.cell 0
  have y1 := A1.out.2.1.cell 1
  have y2 := A1.out.2.1.cell 2
  have y3 := A1.out.2.1.cell 3
  simp only [List.getElem?_cons_zero, List.getElem?_cons_succ] at x0 x1 x2 x3 y0 y1 y2 y3
  cases r0
  · go_wp2
    go_ret
    exact ⟨rfl, A1.out.2.2⟩
  cases r1
  · go_wp2
    go_ret
    exact ⟨rfl, A1.out.2.2⟩
  cases r2
  · go_wp2
    go_ret
    exact ⟨rfl, A1.out.2.2⟩
  cases r3
  all_goals
    go_wp2
    go_ret
    exact ⟨rfl, A1.out.2.2⟩

/-- bytes that are read alone -/
def BR (w : World) (p : Option Addr) (b : List Nat) : Prop := BI w p b ∧ BytesN b
theorem Piece.br {w : World} {p : Option Addr} {c : Nat} {b : List Nat} (h : Piece w p c b) : BR w p b := ⟨h.1, h.2.2.1⟩
theorem BR.kept {w w' : World} {p : Option Addr} {b : List Nat} (h : BR w p b) (hb : Below w.heap.size w w') : BR w' p b := ⟨h.1.kept hb, h.2⟩
theorem same_any (x y : Pc) (p q : Option Addr) (c f : Nat) (w : World) (hP : BR w p x.b) (hQ : BR w q y.b) :
    Calls Try.prog 15 #[pcV x p c, pcV y q f] w fun e w' => e = .returned (.bool (x.same y)) ∧ Below w.heap.size w w' := by
  have h := same_of x.i y.i x.a y.a x.l y.l x.b y.b _ _ p q c f w hP.1 hQ.1 rfl rfl _ _ _ _ rfl rfl rfl rfl
  have e : x.same y = (((x.i : Int) == (y.i : Int)) && (x.a == y.a) && (x.l == y.l) && ((strF x.b).toList == (strF y.b).toList)) := by
    rw [← beq_toListBytes, strF_eq hP.2 hQ.2, Pc.same, Bool.eq_iff_iff]
    simp [and_assoc]
    intro _ _ _
    omega
  rw [e]
  exact h

/-- what is read, call by call -/
theorem pcRead_steps (b : List Nat) : pcRead b = if (sNum (sNum (b.map Int.ofNat) 0).2.1 (sNum (b.map Int.ofNat) 0).2.2).2.2 ≠ 0 ∨ 511 < (sNum (sNum (b.map Int.ofNat) 0).2.1 (sNum (b.map Int.ofNat) 0).2.2).1 ∨ 1100 < (sNum (sNum (b.map Int.ofNat) 0).2.1 (sNum (b.map Int.ofNat) 0).2.2).2.1.length then (Pc.none, 4) else
    (⟨(sNum (b.map Int.ofNat) 0).1, (((sNum (sNum (b.map Int.ofNat) 0).2.1 (sNum (b.map Int.ofNat) 0).2.2).1 / 2 : Nat) : Int), decide ((sNum (sNum (b.map Int.ofNat) 0).2.1 (sNum (b.map Int.ofNat) 0).2.2).1 % 2 = 1), (sNum (sNum (b.map Int.ofNat) 0).2.1 (sNum (b.map Int.ofNat) 0).2.2).2.1.map Int.toNat⟩, 0) := by
  unfold pcRead
  generalize b.map Int.ofNat = bs
  cases h1 : rdNum bs with
  | none => simp [sNum, h1]
  | some v =>
    obtain ⟨i, r⟩ := v
    cases h2 : rdNum r with
    | none => simp [sNum, h1, h2]
    | some v =>
      obtain ⟨n, q⟩ := v
      simp [sNum, h1, h2]

/-- bytes of a reader are read -/
theorem br_in {w : World} {p : Option Addr} {xs : List Int} (h : BytesIn w p xs) : BR w p (xs.map Int.toNat) := by
  refine ⟨?_, fun x hx => ?_⟩
  · rcases h.2 with h0 | ⟨g, o, hp, hc⟩
    · left; simp [h0]
    · refine Or.inr ⟨g, o, hp, fun i hi => ?_⟩
      have hi' : i < xs.length := by simpa using hi
      have hb := h.1 xs[i] (List.getElem_mem hi')
      rw [hc i hi']
      congr 2
      simp [List.getD, hi']
      omega
  · obtain ⟨y, hy, rfl⟩ := List.mem_map.1 hx
    have := h.1 y hy
    omega

theorem grown_setRow (w : World) (g : Nat) (us : Array Value) : w.grownBy (w.setRow g us) (some g) := ⟨rfl, rfl, rfl, by simp, fun k _ hk => setRow_other w g k us (fun e => hk (by rw [e]))⟩

theorem none_br : ∀ w : World, BR w Option.none Pc.none.b := fun w => ⟨Or.inl rfl, fun x hx => by cases hx⟩

theorem rd_cells {A : Nat → Prop} {w : World} {b : Nat} {bs : List Int} {x : Int} (h : Rd A w b bs x) : ∃ p c, w.cell? ⟨b, 0, none⟩ = some (.slice p bs.length c) ∧ w.cell? ⟨b, 1, none⟩ = some (.int .i64 x) ∧ bs.length ≤ c ∧ c ≤ maxLen ∧ BytesIn w p bs ∧ ∀ a, p = some a → A a.block := by
  obtain ⟨p, c, h0, h1, _, _, h2, h3, _, h4, h5⟩ := h
  exact ⟨p, c, h0, h1, h2, h3, h4, fun a ha => (h5 a ha).1⟩

set_option maxHeartbeats 4000000 in
set_option maxRecDepth 100000 in
theorem rpread_of (bs r1 r2 : List Int) (m1 m2 n n2 : Nat) (x1 x2 E : Int) (M : Pc) (p : Option Addr) (c : Nat) (w : World) (hl : bs.length = n) (hB : BytesIn w p bs) (hc : n ≤ c) (hcm : c ≤ maxLen) (hbig : n ≤ 140737488355328) (hlt : ∀ a, p = some a → a.block < w.heap.size)
    (s1 : sNum bs 0 = (m1, r1, x1)) (s2 : sNum r1 x1 = (m2, r2, x2)) (hn2 : r2.length = n2)
    (hres : (if x2 ≠ 0 ∨ 511 < m2 ∨ 1100 < n2 then (Pc.none, 4) else (⟨m1, ((m2 / 2 : Nat) : Int), decide (m2 % 2 = 1), r2.map Int.toNat⟩, 0) : Pc × Int) = (M, E)) :
    Calls Try.prog 14 #[.slice p n c] w fun e w' => ∃ q d, e = .returned (.tuple #[pcV M q d, .int .i64 E]) ∧ BR w' q M.b ∧ Below w.heap.size w w' := by
  have Z : Hid (Arr (w.alloc (Obj.cells #[.int .u64 0, .int .i64 0, .bool false, .slice none 0 0] 25)) w.heap.size 25 (pcC Pc.none none 0) ∧ Below w.heap.size w (w.alloc (Obj.cells #[.int .u64 0, .int .i64 0, .bool false, .slice none 0 0] 25))) := ⟨Arr.new w _ _, (Below.refl _ _).alloc (Nat.le_refl _) _⟩
  have R1 : Hid (Rd (fun k => k < w.heap.size) ((w.alloc (Obj.cells #[.int .u64 0, .int .i64 0, .bool false, .slice none 0 0] 25)).alloc (Obj.cells #[.slice p n c, .int .i64 0] 65)) (w.heap.size + 1) bs 0) := by
    have h := rd_new (A := fun k => k < w.heap.size) (w := w.alloc (Obj.cells #[.int .u64 0, .int .i64 0, .bool false, .slice none 0 0] 25)) (q := p) (xs := bs) (cap := c) (t := 65) (by omega) hcm (by omega) (bytes_kept hB (below_grown Z.out.2 none) (fun a _ => by simp)) (fun a ha => by have := hlt a ha; simp; omega) hlt
    rw [hl, show (w.alloc (Obj.cells #[.int .u64 0, .int .i64 0, .bool false, .slice none 0 0] 25)).heap.size = w.heap.size + 1 from by simp] at h
    exact h
  have Z1 := hide (And.intro (Z.out.1.alloc (Obj.cells #[.slice p n c, .int .i64 0] 65)) (Z.out.2.alloc (Z.out.2.size) (Obj.cells #[.slice p n c, .int .i64 0] 65)))
  have HRES := hide hres
  have HL2 := hide hn2
  have N1 := hide (fun (v : World) (h : Rd (fun k => k < w.heap.size) v (w.heap.size + 1) bs 0) => rrnum_any (w.heap.size + 1) bs 0 v h)
  have N2 := hide (fun (v : World) (h : Rd (fun k => k < w.heap.size) v (w.heap.size + 1) r1 x1) => rrnum_any (w.heap.size + 1) r1 x1 v h)
  rw [s1] at N1
  rw [s2] at N2
  clear hl hB hc hcm hbig hlt s1 s2 hres Z hn2
  go_enter Try.func14, Try.ntmps14
  go_upto_region 2 with fail
  generalize (w.alloc (Obj.cells #[.int .u64 0, .int .i64 0, .bool false, .slice none 0 0] 25)).alloc (Obj.cells #[.slice p n c, .int .i64 0] 65) = w1 at *
  go_wp2_with fail
  refine (N1.out w1 R1.out).mono ?_
  rintro e w2 ⟨rfl, hr, hg⟩
  have R2 := hide hr
  have Z2 := hide (And.intro (Z1.out.1.keptR hg (by simp)) (Z1.out.2.grown hg Z1.out.2.size (fun k hk => by cases hk; omega)))
  clear hr hg R1 Z1 N1
  go_wp2_with fail
  refine (N2.out w2 R2.out).mono ?_
  rintro e w3 ⟨rfl, hr, hg⟩
  have R3 := hide hr
  have Z3 := hide (And.intro (Z2.out.1.keptR hg (by simp)) (Z2.out.2.grown hg Z2.out.2.size (fun k hk => by cases hk; omega)))
  clear hr hg R2 Z2 N2
  obtain ⟨q, d, c0, c1, hd1, hd2, hbi, hqa⟩ := rd_cells R3.out
  rw [HL2.out] at c0
  have HBI := hide (And.intro hbi (And.intro hd1 hd2))
  have HQA := hide hqa
  clear hbi hd1 hd2 hqa
  have c0' := c0
  have HN := hide none_br
  have HE : Hid (x2 ≠ 0 ∨ 511 < m2 ∨ 1100 < n2 → M = Pc.none ∧ E = 4) := fun h => by
    have e := HRES.out
    rw [if_pos h] at e
    cases e
    exact ⟨rfl, rfl⟩
  have HG : Hid (¬ (x2 ≠ 0 ∨ 511 < m2 ∨ 1100 < n2) → M = ⟨m1, ((m2 / 2 : Nat) : Int), decide (m2 % 2 = 1), r2.map Int.toNat⟩ ∧ E = 0) := fun h => by
    have e := HRES.out
    rw [if_neg h] at e
    cases e
    exact ⟨rfl, rfl⟩
  clear HRES R3
  by_cases e1 : x2 = 0
  · subst e1
    by_cases e2 : 511 < m2
    · obtain ⟨rfl, rfl⟩ := HE.out (Or.inr (Or.inl e2))
      have e2' : (511 : Int) < (m2 : Int) := by omega
      clear HE HG e2
      go_wp2_with (refine wpList_store_row rfl 25 _ _ rfl w.heap.size (pcC Pc.none none 0).toArray rfl rfl 25 (pcC Pc.none none 0).toArray Z3.out.1 infoPc rfl (one_pcC _ _ _) ?_)
      exact bodyPost_ret (results_ct Try.results14 _ _ w.heap.size (pcC Pc.none none 0) rfl (Z3.out.1.row _) Try.underlying25 rfl infoPc) rfl ⟨none, 0, rfl, HN.out _, below_setRow Z3.out.2 (Nat.le_refl _) Z3.out.1.lt _⟩
    by_cases e3 : 1100 < n2
    · obtain ⟨rfl, rfl⟩ := HE.out (Or.inr (Or.inr e3))
      have e3' : (1100 : Int) < (n2 : Int) := by omega
      have e2' : ¬ (511 : Int) < (m2 : Int) := by omega
      clear HE HG e2 e3
      go_wp2_with (refine wpList_store_row rfl 25 _ _ rfl w.heap.size (pcC Pc.none none 0).toArray rfl rfl 25 (pcC Pc.none none 0).toArray Z3.out.1 infoPc rfl (one_pcC _ _ _) ?_)
      exact bodyPost_ret (results_ct Try.results14 _ _ w.heap.size (pcC Pc.none none 0) rfl (Z3.out.1.row _) Try.underlying25 rfl infoPc) rfl ⟨none, 0, rfl, HN.out _, below_setRow Z3.out.2 (Nat.le_refl _) Z3.out.1.lt _⟩
    · have HM := hide (HG.out (by omega))
      have e3' : ¬ (1100 : Int) < (n2 : Int) := by omega
      have e2' : ¬ (511 : Int) < (m2 : Int) := by omega
      have HC : Hid ([Value.int .u64 (m1 : Int), Value.int .i64 ((m2 : Int) / 2), Value.bool ((m2 : Int) % 2 == 1), Value.slice q n2 d] = pcC M q d) := by
        show _ = _
        rw [HM.out.1]
        have h1 : ((m2 : Int) / 2) = ((m2 / 2 : Nat) : Int) := by omega
        have h2 : ((m2 : Int) % 2 == 1) = decide (m2 % 2 = 1) := by
          rw [Bool.eq_iff_iff]; simp; omega
        have h3 : (r2.map Int.toNat).length = n2 := by rw [List.length_map, HL2.out]
        rw [pcC, h1, h2, h3]
      have HBR : Hid (BR w3 q M.b) := by
        show BR _ _ _
        rw [HM.out.1]
        exact br_in HBI.out.1
      have HM2 := hide HM.out.2
      clear HE HG e2 e3 HM
      go_wp2_with (refine wpList_store_row rfl 25 _ _ rfl w.heap.size #[Value.int .u64 (m1 : Int), Value.int .i64 ((m2 : Int) / 2), Value.bool ((m2 : Int) % 2 == 1), Value.slice q n2 d] rfl rfl 25 (pcC Pc.none none 0).toArray Z3.out.1 infoPc rfl (by simp [Value.oneCell']) ?_)
      have AF : Hid (Arr (w3.setRow w.heap.size #[Value.int .u64 (m1 : Int), Value.int .i64 ((m2 : Int) / 2), Value.bool ((m2 : Int) % 2 == 1), Value.slice q n2 d]) w.heap.size 25 (pcC M q d)) := by
        have h := Z3.out.1.row #[Value.int .u64 (m1 : Int), Value.int .i64 ((m2 : Int) / 2), Value.bool ((m2 : Int) % 2 == 1), Value.slice q n2 d]
        rw [show (#[Value.int .u64 (m1 : Int), Value.int .i64 ((m2 : Int) / 2), Value.bool ((m2 : Int) % 2 == 1), Value.slice q n2 d] : Array Value).toList = pcC M q d from HC.out] at h
        exact h
      refine bodyPost_ret (results_ct Try.results14 _ _ w.heap.size (pcC M q d) rfl AF.out Try.underlying25 rfl infoPc) rfl ⟨q, d, by rw [HM2.out]; rfl, ?_, below_setRow Z3.out.2 (Nat.le_refl _) Z3.out.1.lt _⟩
      exact ⟨bi_grown HBR.out.1 (grown_setRow _ _ _) (fun a ha _ => by have := HQA.out a ha; omega), HBR.out.2⟩
  · obtain ⟨rfl, rfl⟩ := HE.out (Or.inl e1)
    have e1' : (x2 != 0) = true := by simpa using e1
    clear HE HG e1
    go_wp2_with (refine wpList_store_row rfl 25 _ _ rfl w.heap.size (pcC Pc.none none 0).toArray rfl rfl 25 (pcC Pc.none none 0).toArray Z3.out.1 infoPc rfl (one_pcC _ _ _) ?_)
    exact bodyPost_ret (results_ct Try.results14 _ _ w.heap.size (pcC Pc.none none 0) rfl (Z3.out.1.row _) Try.underlying25 rfl infoPc) rfl ⟨none, 0, rfl, HN.out _, below_setRow Z3.out.2 (Nat.le_refl _) Z3.out.1.lt _⟩

theorem rpread_any (b : List Nat) (n : Nat) (p : Option Addr) (c : Nat) (w : World) (hP : Piece w p c b) (hn : b.length = n) (hbig : n ≤ 140737488355328) (hlt : ∀ a, p = some a → a.block < w.heap.size) :
    Calls Try.prog 14 #[.slice p n c] w fun e w' => ∃ q d, e = .returned (.tuple #[pcV (pcRead b).1 q d, .int .i64 (pcRead b).2]) ∧ BR w' q (pcRead b).1.b ∧ Below w.heap.size w w' :=
  rpread_of (b.map Int.ofNat) _ _ _ _ n _ _ _ _ _ p c w (by simpa using hn) (bytesIn_of hP) (by rw [← hn]; exact hP.2.2.2.1) hP.2.2.2.2 hbig hlt rfl rfl rfl (pcRead_steps b).symm

end Go.Proofs.Ytecpnnnkkofejaa
