/-
  Walks of the program: the form of a piece, a piece that is read.
-/
import Derived.Test.YtecpnnnkkofejaaGO
namespace Go.Proofs.Ytecpnnnkkofejaa
open Go.RowKit Go.Maps

/-- a number's form of the program's, in new memory -/
theorem pnm_any (n : Nat) (hn : n < 18446744073709551616) (w : World) :
    Calls Try.prog 26 #[.int .u64 n] w fun e w' => ∃ v, e = .returned v ∧ w'.ownsRow w.heap.size 5 1 v (nmF n).length (u8s (nmF n)) ∧ Below w.heap.size w w' := by
  refine (num_any n hn w).mono ?_
  rintro e w' ⟨v, rfl, ho, hb⟩
  rw [nm_u8s, ← nm_length] at ho
  exact ⟨v, rfl, ho, hb⟩

set_option maxHeartbeats 4000000 in
set_option maxRecDepth 100000 in
theorem pform_no (x : Pc) (p : Option Addr) (c : Nat) (w : World) (hx : x.e ≠ 0) :
    Calls Try.prog 10 #[pcV x p c] w fun e w' => e = .returned (.tuple #[.slice none 0 0, .int .i64 x.e]) ∧ Below w.heap.size w w' := by
  have A1 := hide (pc_box w x p c)
  have HM := hide (fault_any x p c)
  generalize x.e = E at *
  have hne : (E != 0) = true := by simpa using hx
  clear hx
  go_enter Try.func10, Try.ntmps10
  go_upto_region 1 with fail
  generalize w.alloc (Obj.cells #[.int .u64 (x.i : Int), .int .i64 x.a, .bool x.l, .slice p x.b.length c] 25) = w1 at *
  go_wp2_with (refine wpList_exec (by rfl) _ (exec_load_all 25 (.tmp 1) rfl w.heap.size rfl 25 (pcC x p c) _ A1.out.1 Try.underlying25 rfl infoPc) ?_)
  refine (HM.out w1).mono ?_
  rintro e w2 ⟨rfl, hb⟩
  have A2 := hide (A1.out.2.trans (hb.mono A1.out.2.size))
  clear hb A1 HM
  go_wp2
  go_ret2
  exact ⟨rfl, A2.out⟩

set_option maxHeartbeats 4000000 in
set_option maxRecDepth 100000 in
theorem pform_of (i a k0 k : Nat) (l : Bool) (b I K : List Nat) (n ni nk : Nat) (p : Option Addr) (c : Nat) (w : World) (hP : Piece w p c b) (hn : b.length = n) (h3 : n ≤ 1100) (hI : I.length = ni) (hK : K.length = nk) (hIb : BytesN I) (hKb : BytesN K) (hi1 : ni ≤ 11) (hk1 : nk ≤ 11)
    (ha : a ≤ 255) (h0 : 2 * (a : Int) = (k0 : Int)) (h1 : l = false → k = k0) (h2 : l = true → (k0 : Int) + 1 = (k : Int))
    (HF : ∀ v : World, Calls Try.prog 25 #[.agg #[.int .u64 (i : Int), .int .i64 (a : Int), .bool l, .slice p n c]] v fun e w' => e = .returned (.int .i64 0) ∧ Below v.heap.size v w')
    (H1 : ∀ v : World, Calls Try.prog 26 #[.int .u64 (i : Int)] v fun e w' => ∃ u, e = .returned u ∧ w'.ownsRow v.heap.size 5 1 u ni (u8s I) ∧ Below v.heap.size v w')
    (H2 : ∀ v : World, Calls Try.prog 26 #[.int .u64 (k : Int)] v fun e w' => ∃ u, e = .returned u ∧ w'.ownsRow v.heap.size 5 1 u nk (u8s K) ∧ Below v.heap.size v w') :
    Calls Try.prog 10 #[.agg #[.int .u64 (i : Int), .int .i64 (a : Int), .bool l, .slice p n c]] w fun e w' => ∃ v, e = .returned (.tuple #[v, .int .i64 0]) ∧ w'.ownsRow w.heap.size 5 1 v (ni + nk + n) (u8s ((I ++ K) ++ b)) ∧ Below w.heap.size w w' := by
  have A1 : Hid (Arr (w.alloc (Obj.cells #[.int .u64 (i : Int), .int .i64 (a : Int), .bool l, .slice p n c] 25)) w.heap.size 25 [.int .u64 (i : Int), .int .i64 (a : Int), .bool l, .slice p n c] ∧ Below w.heap.size w (w.alloc (Obj.cells #[.int .u64 (i : Int), .int .i64 (a : Int), .bool l, .slice p n c] 25))) := ⟨Arr.new w _ _, (Below.refl _ _).alloc (Nat.le_refl _) _⟩
  have G0 := hide HF
  have G1 := hide H1
  have G2 := hide H2
  have HP := hide hP
  have HN := hide hn
  have HIL := hide hI
  have HKL := hide hK
  have HIB := hide hIb
  have HKB := hide hKb
  have hu : IntKind.u64.wrap (k : Int) = (k : Int) := by
    have hk : (k : Int) ≤ 511 := by
      cases l
      · have := h1 rfl; omega
      · have := h2 rfl; omega
    rw [(show ∀ n : Int, IntKind.u64.wrap n = n % 18446744073709551616 from fun n => by simp [IntKind.wrap, IntKind.bits, IntKind.signed])]; omega
  have hk0 : (k0 : Int) ≤ 510 := by omega
  clear hP hn hI hK hIb hKb H1 H2 HF
  cases hl : l
  all_goals
    subst hl
    first
      | (obtain rfl := h1 rfl; clear h1 h2)
      | (have hk := h2 rfl; clear h1 h2)
    go_enter Try.func10, Try.ntmps10
    go_upto_region 1 with fail
    generalize w.alloc (Obj.cells #[.int .u64 (i : Int), .int .i64 (a : Int), .bool _, .slice p n c] 25) = w1 at *
    go_wp2_with (refine wpList_exec (by rfl) _ (exec_load_all 25 (.tmp 1) rfl w.heap.size rfl 25 _ _ A1.out.1 Try.underlying25 rfl infoPc) ?_)
    refine (G0.out w1).mono ?_
    rintro e w1' ⟨rfl, hb⟩
    have A1' := hide (And.intro (A1.out.1.kept hb) (A1.out.2.trans (hb.mono A1.out.2.size)))
    clear hb A1 G0
    have c0 := A1'.out.1.cell 0
    have c1 := A1'.out.1.cell 1
    have c2 := A1'.out.1.cell 2
    simp only [List.getElem?_cons_zero, List.getElem?_cons_succ] at c0 c1 c2
    go_wp2_with fail
    refine (G1.out w1').mono ?_
    rintro e w2 ⟨u1, rfl, ho, hb⟩
    have O2 := hide (own_base ho A1'.out.2.size)
    have A2 := hide (And.intro (A1'.out.1.kept hb) (A1'.out.2.trans (hb.mono A1'.out.2.size)))
    clear ho hb A1' G1 c0 c1 c2
    go_wp2_with fail
    refine (G2.out w2).mono ?_
    rintro e w3 ⟨u2, rfl, ho, hb⟩
    obtain ⟨p2, c2, rfl, hP2, _⟩ := own_piece_n ho HKL.out HKB.out
    have O3 := hide (own_below O2.out hb)
    have P3 := hide hP2
    have A3 := hide (And.intro (A2.out.1.kept hb) (A2.out.2.trans (hb.mono A2.out.2.size)))
    clear ho hb hP2 O2 A2 G2
    go_wp2_with (at_builtin; refine wpList_append_bytes rfl (.tmp 21) (.tmp 24) rfl w.heap.size u1 I rfl ni HIL.out O3.out p2 nk c2 K HKL.out rfl P3.out.1 P3.out.2.1 ?g1 A3.out.2.size ?_)
    case g1 => omega
    intro v4 w4 ho hg
    have O4 := hide ho
    have A4 := hide (And.intro (A3.out.1.keptR hg (own_ne_arr O3.out A3.out.1 (by decide))) (A3.out.2.grown hg A3.out.2.size (fun k hk => (O3.out.lt k hk).1)))
    have c3 := A4.out.1.cell 3
    simp only [List.getElem?_cons_zero, List.getElem?_cons_succ] at c3
    clear ho hg O3 A3 P3
    have HLL : Hid ((I ++ K).length = ni + nk) := by show _ = _; rw [List.length_append, HIL.out, HKL.out]
    go_wp2_with (at_builtin; refine wpList_append_bytes rfl (.tmp 26) (.tmp 28) rfl w.heap.size v4 (I ++ K) rfl (ni + nk) HLL.out O4.out p n c b HN.out rfl (HP.out.kept A4.out.2).1 HP.out.2.1 ?g2 A4.out.2.size ?_)
    case g2 => omega
    intro v5 w5 ho hg
    have O5 := hide ho
    have B5 := hide (A4.out.2.grown hg A4.out.2.size (fun k hk => (O4.out.lt k hk).1))
    clear ho hg O4 A4
    go_wp2
    go_ret2
    exact ⟨_, rfl, by rw [List.append_assoc]; exact O5.out, B5.out⟩

theorem pform_any (x : Pc) (p : Option Addr) (c : Nat) (w : World) (hx : x.e = 0) (hi : x.i < 18446744073709551616) (hP : Piece w p c x.b) :
    Calls Try.prog 10 #[pcV x p c] w fun e w' => ∃ v, e = .returned (.tuple #[v, .int .i64 0]) ∧ w'.ownsRow w.heap.size 5 1 v x.form.length (u8s x.form) ∧ Below w.heap.size w w' := by
  have hfa : ∀ v : World, Calls Try.prog 25 #[pcV x p c] v fun e w' => e = .returned (.int .i64 0) ∧ Below v.heap.size v w' := fun v => by
    have := fault_any x p c v
    rwa [hx] at this
  obtain ⟨h1, h2, h3⟩ := Pc.e_zero hx
  obtain ⟨i, a, l, b⟩ := x
  simp only at h1 h2 h3 hi hP
  obtain ⟨a, rfl⟩ := Int.eq_ofNat_of_zero_le h1
  have hl : (Pc.form ⟨i, a, l, b⟩).length = (nmF i).length + (nmF (Pc.n ⟨i, a, l, b⟩)).length + b.length := by simp [Pc.form]; omega
  rw [hl]
  refine pform_of i a (2 * a) (Pc.n ⟨i, a, l, b⟩) l b (nmF i) (nmF (Pc.n ⟨i, a, l, b⟩)) b.length _ _ p c w hP rfl h3 rfl rfl (nm_bytes _) (nm_bytes _) (nm_short _) (nm_short _) (by omega) (by omega) ?_ ?_ hfa (fun v => pnm_any i hi v) (fun v => pnm_any _ ?_ v)
  · intro h; subst h; simp [Pc.n]
  · intro h; subst h; simp [Pc.n]
  · simp only [Pc.n]; split <;> simp <;> omega

set_option maxHeartbeats 4000000 in
set_option maxRecDepth 100000 in
theorem pread_of (bs r1 r2 : List Int) (m1 m2 n n2 : Nat) (x1 x2 E : Int) (M : Pc) (p : Option Addr) (c : Nat) (w : World) (hl : bs.length = n) (hB : BytesIn w p bs) (hbig : n ≤ 140737488355328)
    (s1 : sNum bs 0 = (m1, r1, x1)) (s2 : sNum r1 x1 = (m2, r2, x2)) (hn2 : r2.length = n2)
    (hres : (if x2 ≠ 0 ∨ 511 < m2 ∨ 1100 < n2 then (Pc.none, 4) else (⟨m1, ((m2 / 2 : Nat) : Int), decide (m2 % 2 = 1), r2.map Int.toNat⟩, 0) : Pc × Int) = (M, E)) :
    Calls Try.prog 13 #[.slice p n c] w fun e w' => ∃ q d, e = .returned (.tuple #[pcV M q d, .int .i64 E]) ∧ BR w' q M.b ∧ Below w.heap.size w w' := by
  have Z : Hid (Arr (w.alloc (Obj.cells #[.int .u64 0, .int .i64 0, .bool false, .slice none 0 0] 25)) w.heap.size 25 (pcC Pc.none none 0) ∧ Below w.heap.size w (w.alloc (Obj.cells #[.int .u64 0, .int .i64 0, .bool false, .slice none 0 0] 25)) ∧ w.heap.size < (w.alloc (Obj.cells #[.int .u64 0, .int .i64 0, .bool false, .slice none 0 0] 25)).heap.size) := ⟨Arr.new w _ _, (Below.refl _ _).alloc (Nat.le_refl _) _, by simp⟩
  have OP := hide (open_any p c bs (w.alloc (Obj.cells #[.int .u64 0, .int .i64 0, .bool false, .slice none 0 0] 25)) (by omega) (bytes_kept hB (below_grown Z.out.2.1 none) (fun a _ => by simp)))
  rw [hl] at OP
  have HRES := hide hres
  have HL2 := hide hn2
  have N1 := hide (fun (A : Nat → Prop) (g : Nat) (v : World) (h : Rd A v g bs 0) => rnum_any g bs 0 v h)
  have N2 := hide (fun (A : Nat → Prop) (g : Nat) (v : World) (h : Rd A v g r1 x1) => rnum_any g r1 x1 v h)
  rw [s1] at N1
  rw [s2] at N2
  clear hl hB hbig s1 s2 hres hn2
  go_enter Try.func13, Try.ntmps13
  go_upto_region 1 with fail
  generalize w.alloc (Obj.cells #[.int .u64 0, .int .i64 0, .bool false, .slice none 0 0] 25) = w0 at *
  go_wp2_with fail
  refine OP.out.mono ?_
  rintro e w1 ⟨g, rfl, hgl, hr, hb⟩
  obtain ⟨A, hA⟩ : ∃ A : Nat → Prop, (fun k => w0.heap.size ≤ k ∧ k < g) = A := ⟨_, rfl⟩
  rw [hA] at hr
  have R1 := hide hr
  have HGL : Hid (w.heap.size < g) := Nat.lt_of_lt_of_le Z.out.2.2 hgl
  have Z1 := hide (And.intro (Z.out.1.kept hb) (Z.out.2.1.trans (hb.mono Z.out.2.1.size)))
  clear hr hb hgl hA Z OP
  go_wp2_with fail
  refine (N1.out A g w1 R1.out).mono ?_
  rintro e w2 ⟨rfl, hr, hg⟩
  have R2 := hide hr
  have Z2 := hide (And.intro (Z1.out.1.keptR hg (by have := HGL.out; simp; omega)) (Z1.out.2.grown hg Z1.out.2.size (fun k hk => by cases hk; have := HGL.out; omega)))
  clear hr hg R1 Z1 N1
  go_wp2_with fail
  refine (N2.out A g w2 R2.out).mono ?_
  rintro e w3 ⟨rfl, hr, hg⟩
  have R3 := hide hr
  have Z3 := hide (And.intro (Z2.out.1.keptR hg (by have := HGL.out; simp; omega)) (Z2.out.2.grown hg Z2.out.2.size (fun k hk => by cases hk; have := HGL.out; omega)))
  clear hr hg R2 Z2 N2
  have ER := hide (err_rd g _ _ w3 R3.out)
  have LR := hide (left_rd g _ _ w3 R3.out)
  have RR := hide (rest_any g _ _ w3 R3.out)
  have HN := hide none_br
  have HE : Hid (x2 ≠ 0 ∨ 511 < m2 ∨ 1100 < n2 → M = Pc.none ∧ E = 4) := fun h => by
    have e := HRES.out
    rw [if_pos h] at e
    cases e
    exact ⟨rfl, rfl⟩
  have HG : Hid (¬ (x2 ≠ 0 ∨ 511 < m2 ∨ 1100 < n2) → M = ⟨m1, ((m2 / 2 : Nat) : Int), decide (m2 % 2 = 1), r2.map Int.toNat⟩ ∧ E = 0) := fun h => by
    have e := HRES.out
    rw [if_neg h] at e
    cases e
    exact ⟨rfl, rfl⟩
  simp only [HL2.out] at LR
  have HBY : Hid (∀ y ∈ r2, 0 ≤ y ∧ y < 256) := R3.out.bytes
  clear HRES R3
  go_wp2_with fail
  refine ER.out.mono ?_
  rintro e w3' ⟨rfl, rfl⟩
  by_cases e1 : x2 = 0
  · subst e1
    by_cases e2 : 511 < m2
    · obtain ⟨rfl, rfl⟩ := HE.out (Or.inr (Or.inl e2))
      have e2' : (512 : Int) ≤ (m2 : Int) := by omega
      clear HE HG e2
      go_wp2_with (refine wpList_store_row rfl 25 _ _ rfl w.heap.size (pcC Pc.none none 0).toArray rfl rfl 25 (pcC Pc.none none 0).toArray Z3.out.1 infoPc rfl (one_pcC _ _ _) ?_)
      exact bodyPost_ret (results_ct Try.results13 _ _ w.heap.size (pcC Pc.none none 0) rfl (Z3.out.1.row _) Try.underlying25 rfl infoPc) rfl ⟨none, 0, rfl, HN.out _, below_setRow Z3.out.2 (Nat.le_refl _) Z3.out.1.lt _⟩
    have e2' : ¬ (512 : Int) ≤ (m2 : Int) := by omega
    go_wp2_with fail
    refine LR.out.mono ?_
    rintro e w3'' ⟨rfl, rfl⟩
    by_cases e3 : 1100 < n2
    · obtain ⟨rfl, rfl⟩ := HE.out (Or.inr (Or.inr e3))
      have e3' : (1100 : Int) < (n2 : Int) := by omega
      clear HE HG e2 e3
      go_wp2_with (refine wpList_store_row rfl 25 _ _ rfl w.heap.size (pcC Pc.none none 0).toArray rfl rfl 25 (pcC Pc.none none 0).toArray Z3.out.1 infoPc rfl (one_pcC _ _ _) ?_)
      exact bodyPost_ret (results_ct Try.results13 _ _ w.heap.size (pcC Pc.none none 0) rfl (Z3.out.1.row _) Try.underlying25 rfl infoPc) rfl ⟨none, 0, rfl, HN.out _, below_setRow Z3.out.2 (Nat.le_refl _) Z3.out.1.lt _⟩
    · have HM := hide (HG.out (by omega))
      have e3' : ¬ (1100 : Int) < (n2 : Int) := by omega
      have hm2 : (m2 : Int) ≤ 511 := by omega
      clear HE HG e2 e3
      go_wp2_with fail
      refine RR.out.mono ?_
      rintro e w4 ⟨v, rfl, ho, _, hg⟩
      rw [show sRest r2 0 = (r2, [], 0) from if_pos rfl] at ho
      simp only [HL2.out] at ho
      obtain ⟨q, d, rfl, _, _, hbi, hqb⟩ := own_bytes (by rw [HL2.out]; exact ho) HBY.out
      simp only [HL2.out]
      have HBI := hide hbi
      have HQB := hide hqb
      have HW3 := hide (Z3.out.2.size)
      have HLT := hide Z3.out.1.lt
      have Z4 := hide (And.intro (Z3.out.1.keptR hg (by have := HGL.out; simp; omega)) (Z3.out.2.grown hg Z3.out.2.size (fun k hk => by cases hk; have := HGL.out; omega)))
      clear ho hg hbi hqb Z3
      have HC : Hid ([Value.int .u64 (m1 : Int), Value.int .i64 ((m2 : Int) / 2), Value.bool ((m2 : Int) % 2 == 1), Value.slice q n2 d] = pcC M q d) := by
        show _ = _
        rw [HM.out.1]
        have h1 : ((m2 : Int) / 2) = ((m2 / 2 : Nat) : Int) := by omega
        have h2 : ((m2 : Int) % 2 == 1) = decide (m2 % 2 = 1) := by
          rw [Bool.eq_iff_iff]; simp; omega
        have h3 : (r2.map Int.toNat).length = n2 := by rw [List.length_map, HL2.out]
        rw [pcC, h1, h2, h3]
      have HBR : Hid (BR w4 q M.b) := by
        show BR _ _ _
        rw [HM.out.1]
        exact br_in HBI.out
      have HM2 := hide HM.out.2
      clear HM
      go_wp2_with (refine wpList_store_row rfl 25 _ _ rfl w.heap.size #[Value.int .u64 (m1 : Int), Value.int .i64 ((m2 : Int) / 2), Value.bool ((m2 : Int) % 2 == 1), Value.slice q n2 d] rfl rfl 25 (pcC Pc.none none 0).toArray Z4.out.1 infoPc rfl (by simp [Value.oneCell']) ?_)
      have AF : Hid (Arr (w4.setRow w.heap.size #[Value.int .u64 (m1 : Int), Value.int .i64 ((m2 : Int) / 2), Value.bool ((m2 : Int) % 2 == 1), Value.slice q n2 d]) w.heap.size 25 (pcC M q d)) := by
        have h := Z4.out.1.row #[Value.int .u64 (m1 : Int), Value.int .i64 ((m2 : Int) / 2), Value.bool ((m2 : Int) % 2 == 1), Value.slice q n2 d]
        rw [show (#[Value.int .u64 (m1 : Int), Value.int .i64 ((m2 : Int) / 2), Value.bool ((m2 : Int) % 2 == 1), Value.slice q n2 d] : Array Value).toList = pcC M q d from HC.out] at h
        exact h
      refine bodyPost_ret (results_ct Try.results13 _ _ w.heap.size (pcC M q d) rfl AF.out Try.underlying25 rfl infoPc) rfl ⟨q, d, by rw [HM2.out]; rfl, ?_, below_setRow Z4.out.2 (Nat.le_refl _) Z4.out.1.lt _⟩
      exact ⟨bi_grown HBR.out.1 (grown_setRow _ _ _) (fun a ha _ => by have := (HQB.out a ha).1; have := HLT.out; omega), HBR.out.2⟩
  · obtain ⟨rfl, rfl⟩ := HE.out (Or.inl e1)
    have e1' : (x2 != 0) = true := by simpa using e1
    clear HE HG e1
    go_wp2_with (refine wpList_store_row rfl 25 _ _ rfl w.heap.size (pcC Pc.none none 0).toArray rfl rfl 25 (pcC Pc.none none 0).toArray Z3.out.1 infoPc rfl (one_pcC _ _ _) ?_)
    exact bodyPost_ret (results_ct Try.results13 _ _ w.heap.size (pcC Pc.none none 0) rfl (Z3.out.1.row _) Try.underlying25 rfl infoPc) rfl ⟨none, 0, rfl, HN.out _, below_setRow Z3.out.2 (Nat.le_refl _) Z3.out.1.lt _⟩

theorem pread_any (b : List Nat) (n : Nat) (p : Option Addr) (c : Nat) (w : World) (hP : Piece w p c b) (hn : b.length = n) (hbig : n ≤ 140737488355328) :
    Calls Try.prog 13 #[.slice p n c] w fun e w' => ∃ q d, e = .returned (.tuple #[pcV (pcRead b).1 q d, .int .i64 (pcRead b).2]) ∧ BR w' q (pcRead b).1.b ∧ Below w.heap.size w w' :=
  pread_of (b.map Int.ofNat) _ _ _ _ n _ _ _ _ _ p c w (by simpa using hn) (bytesIn_of hP) hbig rfl rfl rfl (pcRead_steps b).symm

end Go.Proofs.Ytecpnnnkkofejaa
