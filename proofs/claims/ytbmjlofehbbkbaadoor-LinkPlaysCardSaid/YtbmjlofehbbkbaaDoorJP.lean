/-
  Several texts, joined: LN, LA, LB, LX.
-/
import Derived.Test.YtbmjlofehbbkbaaDoorJA
import Derived.Test.YtbmjlofehbbkbaaDoorJJ
import Derived.Laws.StructEq
import Derived.Test.YtbmjlofehbbkbaaDoorJO
import Derived.Test.YtbmjlofehbbkbaaDoorJM
import Derived.Test.YtbmjlofehbbkbaaDoorJF
import Derived.Test.YtbmjlofehbbkbaaDoorJG
import Derived.ChangeSame

/- Nonces: their words, plain; nonces held against each other; walks: Word, Of, the program's and the reference's. -/
namespace Go.Proofs.YtbmjlofehbbkbaaDoor
open Go.RowKit

/-- the word of a nonce -/
def wdF (d : Bool) (n : Nat) : Nat := if d then n + 9223372036854775808 else n
/-- the nonce of a word -/
def wD (x : Nat) : Bool := decide (9223372036854775808 ≤ x)
def wN (x : Nat) : Nat := x % 9223372036854775808
theorem wN_lt (x : Nat) : wN x < 9223372036854775808 := Nat.mod_lt _ (by omega)
theorem wdF_lt {d : Bool} {n : Nat} (h : n < 9223372036854775808) : wdF d n < 18446744073709551616 := by unfold wdF; split <;> omega
theorem wD_wd {d : Bool} {n : Nat} (h : n < 9223372036854775808) : wD (wdF d n) = d := by
  unfold wD wdF
  cases d <;> simp <;> omega
theorem wN_wd {d : Bool} {n : Nat} (h : n < 9223372036854775808) : wN (wdF d n) = n := by
  unfold wN wdF
  cases d <;> simp <;> omega
theorem wd_of {x : Nat} (h : x < 18446744073709551616) : wdF (wD x) (wN x) = x := by
  unfold wD wN wdF
  by_cases hx : 9223372036854775808 ≤ x
  · simp [hx]; omega
  · simp [hx]; omega
theorem wd_inj {d e : Bool} {m n : Nat} (hm : m < 9223372036854775808) (hn : n < 9223372036854775808) (h : wdF d m = wdF e n) : d = e ∧ m = n :=
  ⟨by rw [← wD_wd (d := d) hm, h, wD_wd hn], by rw [← wN_wd (d := d) hm, h, wN_wd hn]⟩

/-- a nonce -/
abbrev noV (d : Bool) (n : Nat) : Value := .agg #[.bool d, .int .u64 (n : Int)]

/-- nonces held against each other -/
theorem run_eq_no (a b : Bool) (m n : Nat) (w : World) : (Op.equalIn 10000 41 (noV a m) (noV b n)).run Tryd.prog w = .ok (decide (a = b ∧ m = n)) w := by
  have hs : (Program.underlying Tryd.prog 41) = some (.struct (Tryd.prog.fieldsOf 41)) := by kernel_rfl
  have p1 : ∀ (d : Bool) (k : Nat), (Go.part 4 #[Value.bool d, Value.int .u64 (k : Int)] 0).run Tryd.prog w = .ok (.bool d) w := fun d k => by kernel_rfl
  have p2 : ∀ (d : Bool) (k : Nat), (Go.part 26 #[Value.bool d, Value.int .u64 (k : Int)] 1).run Tryd.prog w = .ok (.int .u64 (k : Int)) w := fun d k => by kernel_rfl
  rw [noV, noV, run_equalIn_agg w 9999 _ _ _ hs (by kernel_rfl)]
  simp only [Program.fieldsOf, Tryd.underlying41, Op.eqFields, Sem.run_bind, Sem.run_ite, Sem.run_pure, p1, p2, Result.andThen_ok, run_equalIn_bool' w 9998 _ _ _ Tryd.underlying4, run_equalIn_int w 9998 _ _ _ _ _ Tryd.underlying26, List.toList_toArray]
  by_cases hab : a = b
  · subst hab
    by_cases hmn : m = n
    · subst hmn; simp
    · have e : ((m : Int) == (n : Int)) = false := by simp; omega
      simp [e, hmn]
  · have e : (a == b) = false := by simpa using hab
    simp [e, hab]

abbrev noC (d : Bool) (n : Nat) : List Value := [.bool d, .int .u64 (n : Int)]
theorem infoN : (Tryd.prog.info? 41).map (·.size) = some 2 := by kernel_rfl
theorem guardN (x y : Operand) (u v : Array Value) (w : World) : (eqGuard .eql 41 x y (.agg u) (.agg v)).run Tryd.prog w = .ok () w := by kernel_rfl
theorem guardNn (x y : Operand) (u v : Array Value) (w : World) : (eqGuard .neq 41 x y (.agg u) (.agg v)).run Tryd.prog w = .ok () w := by kernel_rfl

set_option maxHeartbeats 1000000 in
set_option maxRecDepth 100000 in
theorem of_no (x : Nat) (w : World) : Calls Tryd.prog 27 #[.int .u64 (x : Int)] w fun e w' => e = .returned (noV (wD x) (wN x)) ∧ Below w.heap.size w w' := by
  have h1 : ((x : Int) % 9223372036854775808) = ((wN x : Nat) : Int) := by unfold wN; omega
  have h2 : decide ((9223372036854775808 : Int) ≤ (x : Int)) = wD x := by unfold wD; exact decide_eq_decide.2 (by omega)
  have A1 : Hid (Arr (w.alloc (Obj.cells #[Value.bool (wD x), Value.int IntKind.u64 ↑(wN x)] 41)) w.heap.size 41 (noC (wD x) (wN x)) ∧ Below w.heap.size w (w.alloc (Obj.cells #[Value.bool (wD x), Value.int IntKind.u64 ↑(wN x)] 41))) := ⟨Arr.new w _ _, (Below.refl _ _).alloc (Nat.le_refl _) _⟩
  go_enter Tryd.func27, Tryd.ntmps27
  go_wp2
  exact bodyPost_ret (v := noV (wD x) (wN x)) (results_cell_row Tryd.results27 _ _ w.heap.size 41 _ (0, 0) _ rfl A1.out.1 Tryd.underlying41 rfl infoN) rfl ⟨rfl, A1.out.2⟩



set_option maxHeartbeats 1000000 in
set_option maxRecDepth 100000 in
theorem word_of (d : Bool) (n X : Nat) (r : Bool) (w : World) (h0 : d = false → X = n) (h1 : d = true → IntKind.u64.wrap ((n : Int) + 9223372036854775808) = (X : Int)) (hr : decide (wD X = d ∧ wN X = n) = r) :
    Calls Tryd.prog 29 #[noV d n] w fun e w' => e = .returned (.tuple (if r then #[.int .u64 (X : Int), .int .i64 0] else #[.int .u64 0, .int .i64 2])) ∧ Below w.heap.size w w' := by
  have HO := hide (fun v : World => of_no X v)
  have HE := hide (fun v : World => (run_eq_no (wD X) d (wN X) n v).trans (by rw [hr]))
  have A1 : Hid (Arr (w.alloc (Obj.cells #[Value.bool d, Value.int IntKind.u64 ↑n] 41)) w.heap.size 41 (noC d n) ∧ Below w.heap.size w (w.alloc (Obj.cells #[Value.bool d, Value.int IntKind.u64 ↑n] 41))) := ⟨Arr.new w _ _, (Below.refl _ _).alloc (Nat.le_refl _) _⟩
  have c0 := A1.out.1.cell 0
  have c1 := A1.out.1.cell 1
  simp only [List.getElem?_cons_zero, List.getElem?_cons_succ] at c0 c1
  clear hr
  generalize wD X = xd at *
  generalize wN X = xn at *
  cases d
  · obtain rfl := h0 rfl
    clear h0 h1
    go_enter Tryd.func29, Tryd.ntmps29
    go_upto_region 4 with fail
    generalize w.alloc (Obj.cells #[Value.bool false, Value.int IntKind.u64 ↑X] 41) = w1 at *
    refine wp_region_held_drew (S := fun v => Hid (Arr v w.heap.size 41 (noC false X) ∧ Below w.heap.size w v)) (by kernel_rfl) (hide ⟨A1.out.1, A1.out.2.drew⟩) (fun hHeld => ?_)
    refine take_dstH (i := 0) (d := 11) (v := ?_) rfl rfl (by kernel_rfl) (by kernel_rfl) (by kernel_rfl) (fun _ _ _ h => h) (by rfl) hHeld ?_ ?_
    rotate_left
    · intro wZ hSw; clear hSw; go_simp; first | (with_reducible rfl) | (rw [if_pos (by omega)]; with_reducible rfl) | skip
    try simp only [Act.put, List.setIfInBounds_toArray, List.set_cons_zero, List.set_cons_succ]
    refine take_dstH (i := 2) (d := 13) (v := ?_) rfl rfl (by kernel_rfl) (by kernel_rfl) (by kernel_rfl) (fun _ _ _ h => h) (by rfl) hHeld ?_ ?_
    rotate_left
    · intro wZ hSw; refine exec_load_all 41 (.tmp 1) ?_ w.heap.size ?_ 41 (noC false X) _ (Hid.out hSw).1 Tryd.underlying41 rfl infoN <;> rfl
    try simp only [Act.put, List.setIfInBounds_toArray, List.set_cons_zero, List.set_cons_succ]
    refine wpAnyH_ready (rs := [1]) (by kernel_rfl) (by simp) ?_
    refine (AllReadyH.cons rfl (fun K hK => ?_) AllReadyH.nil)
    go_simp
    refine (HO.out _).mono ?_; rintro e wa ⟨rfl, hba⟩; have HB : Hid (Arr wa w.heap.size 41 (noC false X) ∧ Below w.heap.size w wa) := ⟨(Hid.out hHeld).1.kept hba, (Hid.out hHeld).2.trans (hba.mono (Hid.out hHeld).2.size)⟩; clear hba
    go_wp2_with fail
    refine hK.out _ _ ?_ (fun hHeld => ?_)
    · exact HB
    clear hK K
    try simp only [Act.put, List.setIfInBounds_toArray, List.set_cons_zero, List.set_cons_succ]
    refine take_dstH (i := 3) (d := 14) (v := ?_) rfl rfl (by kernel_rfl) (by kernel_rfl) (by kernel_rfl) (fun _ _ _ h => h) (by rfl) hHeld ?_ ?_
    rotate_left
    · intro wZ hSw; refine exec_neq_agg 41 41 (.tmp 12) (.tmp 13) ?_ #[Value.bool xd, Value.int .u64 (xn : Int)] #[Value.bool false, Value.int .u64 (X : Int)] ?_ ?_ r (guardNn _ _ _ _ _) (HE.out wZ) <;> rfl
    try simp only [Act.put, List.setIfInBounds_toArray, List.set_cons_zero, List.set_cons_succ]
    refine wpAnyH_done (by kernel_rfl) ?_ _
    have HF := hide (Hid.out hHeld).2
    clear hHeld HB A1 c0 c1 HE HO
    cases r
    all_goals
      go_wp2
      go_ret2
      exact ⟨rfl, HF.out⟩
  · have h := h1 rfl
    clear h0 h1
    go_enter Tryd.func29, Tryd.ntmps29
    go_upto_region 4 with fail
    clear h
    generalize w.alloc (Obj.cells #[Value.bool true, Value.int IntKind.u64 ↑n] 41) = w1 at *
    refine wp_region_held_drew (S := fun v => Hid (Arr v w.heap.size 41 (noC true n) ∧ Below w.heap.size w v)) (by kernel_rfl) (hide ⟨A1.out.1, A1.out.2.drew⟩) (fun hHeld => ?_)
    refine take_dstH (i := 0) (d := 11) (v := ?_) rfl rfl (by kernel_rfl) (by kernel_rfl) (by kernel_rfl) (fun _ _ _ h => h) (by rfl) hHeld ?_ ?_
    rotate_left
    · intro wZ hSw; clear hSw; go_simp; first | (with_reducible rfl) | (rw [if_pos (by omega)]; with_reducible rfl) | skip
    try simp only [Act.put, List.setIfInBounds_toArray, List.set_cons_zero, List.set_cons_succ]
    refine take_dstH (i := 2) (d := 13) (v := ?_) rfl rfl (by kernel_rfl) (by kernel_rfl) (by kernel_rfl) (fun _ _ _ h => h) (by rfl) hHeld ?_ ?_
    rotate_left
    · intro wZ hSw; refine exec_load_all 41 (.tmp 1) ?_ w.heap.size ?_ 41 (noC true n) _ (Hid.out hSw).1 Tryd.underlying41 rfl infoN <;> rfl
    try simp only [Act.put, List.setIfInBounds_toArray, List.set_cons_zero, List.set_cons_succ]
    refine wpAnyH_ready (rs := [1]) (by kernel_rfl) (by simp) ?_
    refine (AllReadyH.cons rfl (fun K hK => ?_) AllReadyH.nil)
    go_simp
    refine (HO.out _).mono ?_; rintro e wa ⟨rfl, hba⟩; have HB : Hid (Arr wa w.heap.size 41 (noC true n) ∧ Below w.heap.size w wa) := ⟨(Hid.out hHeld).1.kept hba, (Hid.out hHeld).2.trans (hba.mono (Hid.out hHeld).2.size)⟩; clear hba
    go_wp2_with fail
    refine hK.out _ _ ?_ (fun hHeld => ?_)
    · exact HB
    clear hK K
    try simp only [Act.put, List.setIfInBounds_toArray, List.set_cons_zero, List.set_cons_succ]
    refine take_dstH (i := 3) (d := 14) (v := ?_) rfl rfl (by kernel_rfl) (by kernel_rfl) (by kernel_rfl) (fun _ _ _ h => h) (by rfl) hHeld ?_ ?_
    rotate_left
    · intro wZ hSw; refine exec_neq_agg 41 41 (.tmp 12) (.tmp 13) ?_ #[Value.bool xd, Value.int .u64 (xn : Int)] #[Value.bool true, Value.int .u64 (n : Int)] ?_ ?_ r (guardNn _ _ _ _ _) (HE.out wZ) <;> rfl
    try simp only [Act.put, List.setIfInBounds_toArray, List.set_cons_zero, List.set_cons_succ]
    refine wpAnyH_done (by kernel_rfl) ?_ _
    have HF := hide (Hid.out hHeld).2
    clear hHeld HB A1 c0 c1 HE HO
    cases r
    all_goals
      go_wp2
      go_ret2
      exact ⟨rfl, HF.out⟩

theorem word_no (d : Bool) (n : Nat) (hn : n < 18446744073709551616) (w : World) : Calls Tryd.prog 29 #[noV d n] w fun e w' => e = .returned (.tuple (if n < 9223372036854775808 then #[.int .u64 ((wdF d n : Nat) : Int), .int .i64 0] else #[.int .u64 0, .int .i64 2])) ∧ Below w.heap.size w w' := by
  cases d
  · have h := word_of false n n (decide (n < 9223372036854775808)) w (fun _ => rfl) (fun h => by cases h) (by
      unfold wD wN
      by_cases h : n < 9223372036854775808
      · rw [decide_eq_true h]; simp; omega
      · rw [decide_eq_false h]; simp; omega)
    by_cases h0 : n < 9223372036854775808
    · rw [if_pos (by simpa using h0)] at h
      rw [if_pos h0, show wdF false n = n by simp [wdF]]
      exact h
    · rw [if_neg (by simpa using h0)] at h
      rw [if_neg h0]
      exact h
  · have h := word_of true n ((n + 9223372036854775808) % 18446744073709551616) (decide (n < 9223372036854775808)) w (fun h => by cases h) (fun _ => by rw [(show ∀ n : Int, IntKind.u64.wrap n = n % 18446744073709551616 from fun n => by simp [IntKind.wrap, IntKind.bits, IntKind.signed])]; omega) (by
      unfold wD wN
      by_cases h : n < 9223372036854775808
      · rw [decide_eq_true h]; simp; omega
      · rw [decide_eq_false h]; simp; omega)
    by_cases h0 : n < 9223372036854775808
    · rw [if_pos (by simpa using h0)] at h
      rw [if_pos h0, show wdF true n = (n + 9223372036854775808) % 18446744073709551616 by simp only [wdF, if_true]; omega]
      exact h
    · rw [if_neg (by simpa using h0)] at h
      rw [if_neg h0]
      exact h

end Go.Proofs.YtbmjlofehbbkbaaDoor

/- Plain facts for layer 6: eight bytes of a number, a tag, a packet, its parts. -/
namespace Go.Proofs.YtbmjlofehbbkbaaDoor
open Go.RowKit

/-- a number's eight bytes, the highest first -/
def fx8 (x : Nat) : List Nat := [x / 72057594037927936 % 256, x / 281474976710656 % 256, x / 1099511627776 % 256, x / 4294967296 % 256, x / 16777216 % 256, x / 65536 % 256, x / 256 % 256, x % 256]
theorem fx8_length (x : Nat) : (fx8 x).length = 8 := rfl
theorem fx8_bytes (x : Nat) : BytesN (fx8 x) := by
  intro y hy
  simp only [fx8, List.mem_cons, List.not_mem_nil, or_false] at hy
  omega
theorem fixF8 (x : Nat) : fixF 8 x = (fx8 x).map Int.ofNat := by
  simp [fixF, fx8]
theorem ofNat_map (xs : List Nat) : (xs.map Int.ofNat).map (Value.int .u8) = u8s xs := by
  rw [List.map_map]; rfl
/-- the number that eight bytes are -/
def rd8 (b : List Nat) : Nat := valF ((b.take 8).map Int.ofNat)
theorem rd8_fx8 {x : Nat} (hx : x < 18446744073709551616) (r : List Nat) : rd8 (fx8 x ++ r) = x := by
  have e : (fx8 x ++ r).take 8 = fx8 x := by simp [fx8]
  rw [rd8, e, ← fixF8]
  have h := valF_fixF 8 x
  rw [List.take_of_length_le (by rw [fixF_length]; exact Nat.le_refl _)] at h
  rw [h]
  exact Nat.mod_eq_of_lt hx
theorem fx8_inj {x y : Nat} (hx : x < 18446744073709551616) (hy : y < 18446744073709551616) (h : fx8 x = fx8 y) : x = y := by
  have h1 := rd8_fx8 hx []
  have h2 := rd8_fx8 hy []
  rw [h] at h1
  exact h1.symm.trans h2
theorem rd8_lt {b : List Nat} (hb : BytesN b) : rd8 b < 18446744073709551616 := by
  have hm : ∀ x ∈ (b.take 8).map Int.ofNat, 0 ≤ x ∧ x < 256 := fun x hx => by
    obtain ⟨y, hy, rfl⟩ := List.mem_map.1 hx
    have := hb y (List.mem_of_mem_take hy)
    constructor
    · exact Int.natCast_nonneg _
    · exact Int.ofNat_lt.2 this
  have h := valF_lt hm ((b.take 8).map Int.ofNat).length (Nat.le_refl _)
  rw [List.take_length] at h
  refine Nat.lt_of_lt_of_le h (Nat.le_trans (Nat.pow_le_pow_right (by omega) (show _ ≤ 8 by simp; omega)) (by decide))

/-- the tag of what stands ahead of it -/
def tgF (mark b : List Nat) : List Nat := (macF mark b).take 16
theorem tgF_length (mark b : List Nat) : (tgF mark b).length = 16 := by rw [tgF, List.length_take, macF_length]; rfl
theorem tgF_bytes (mark b : List Nat) : BytesN (tgF mark b) := fun x hx => macF_bytes _ _ x (List.mem_of_mem_take hx)
/-- a text turned by a word's stream -/
def hiF (code : List Nat) (x : Nat) (t : List Nat) : List Nat := trF (hbF code x) 0 t
theorem hiF_length (code : List Nat) (x : Nat) (t : List Nat) : (hiF code x t).length = t.length := trF_length _ _ _
theorem hiF_bytes {code : List Nat} (hk : Blk code) (x : Nat) {t : List Nat} (ht : BytesN t) : BytesN (hiF code x t) := trF_bytes (fun i => hbF_blk hk x i) 0 ht
theorem hiF_twice (code : List Nat) (x : Nat) (t : List Nat) : hiF code x (hiF code x t) = t := trF_twice _ _ _
/-- what stands ahead of a packet's tag -/
def ahF (code : List Nat) (x : Nat) (t : List Nat) : List Nat := fx8 x ++ hiF code x t
theorem ahF_length (code : List Nat) (x : Nat) (t : List Nat) : (ahF code x t).length = t.length + 8 := by rw [ahF, List.length_append, fx8_length, hiF_length]; omega
theorem ahF_bytes {code : List Nat} (hk : Blk code) (x : Nat) {t : List Nat} (ht : BytesN t) : BytesN (ahF code x t) := bytes_append (fx8_bytes x) (hiF_bytes hk x ht)
/-- a packet -/
def paF (code mark : List Nat) (x : Nat) (t : List Nat) : List Nat := ahF code x t ++ tgF mark (ahF code x t)
theorem paF_length (code mark : List Nat) (x : Nat) (t : List Nat) : (paF code mark x t).length = t.length + 24 := by rw [paF, List.length_append, ahF_length, tgF_length]
theorem paF_bytes {code : List Nat} (hk : Blk code) (mark : List Nat) (x : Nat) {t : List Nat} (ht : BytesN t) : BytesN (paF code mark x t) := bytes_append (ahF_bytes hk x ht) (tgF_bytes _ _)

/-- a packet's parts: what stands ahead of its tag, what is hidden, its tag -/
def paA (b : List Nat) : List Nat := b.take (b.length - 16)
def paH (b : List Nat) : List Nat := (paA b).drop 8
def paT (b : List Nat) : List Nat := b.drop (b.length - 16)
theorem paA_pa (code mark : List Nat) (x : Nat) (t : List Nat) : paA (paF code mark x t) = ahF code x t := by
  have h : (paF code mark x t).length - 16 = (ahF code x t).length := by rw [paF_length, ahF_length]; omega
  rw [paA, h, paF, List.take_left']; rfl
theorem paT_pa (code mark : List Nat) (x : Nat) (t : List Nat) : paT (paF code mark x t) = tgF mark (ahF code x t) := by
  have h : (paF code mark x t).length - 16 = (ahF code x t).length := by rw [paF_length, ahF_length]; omega
  rw [paT, h, paF, List.drop_left']; rfl
theorem paH_pa (code mark : List Nat) (x : Nat) (t : List Nat) : paH (paF code mark x t) = hiF code x t := by
  rw [paH, paA_pa, ahF, List.drop_left' (fx8_length x)]
theorem rd8_pa (code mark : List Nat) {x : Nat} (hx : x < 18446744073709551616) (t : List Nat) : rd8 (paF code mark x t) = x := by
  rw [paF, ahF, List.append_assoc]; exact rd8_fx8 hx _

end Go.Proofs.YtbmjlofehbbkbaaDoor

/- What a key in memory is; a walk: a tag. -/
namespace Go.Proofs.YtbmjlofehbbkbaaDoor
open Go.RowKit

/-- a key that lies in memory -/
abbrev keyV (code mark : List Nat) : Value := .agg (kCells code mark).toArray
structure IsKey (code mark : List Nat) : Prop where
  c : Blk code
  ml : mark.length = 32
  mb : BytesN mark
theorem IsKey.size {code mark : List Nat} (h : IsKey code mark) : (kCells code mark).toArray.size = 48 := kCells_length h.c.len h.ml
theorem IsKey.info {code mark : List Nat} (h : IsKey code mark) : (Tryd.prog.info? 25).map (·.size) = some (kCells code mark).toArray.size := by rw [infoK, h.size]
theorem key_mark {w : World} {g : Nat} {code mark : List Nat} (h : IsKey code mark) (hA : Arr w g 25 (kCells code mark)) : Piece w (some ⟨g, 16, none⟩) 32 mark :=
  ⟨Or.inr ⟨g, 16, rfl, fun i hi => by
    rw [hA.cell (16 + i), kCells, List.getElem?_append_right (by simp [u8s, h.c.len])]
    rw [show 16 + i - (u8s code).length = i by simp [u8s, h.c.len]]
    exact u8s_at hi⟩, (fun e => by cases e), h.mb, by rw [h.ml]; exact Nat.le_refl _, by unfold maxLen; omega⟩
theorem key_code {w : World} {g : Nat} {code mark : List Nat} (_h : IsKey code mark) (hA : Arr w g 25 (kCells code mark)) : w.rangeAt g 0 (u8s code) := fun j v hv => by
  have hj : j < (u8s code).length := (List.getElem?_eq_some_iff.1 hv).1
  rw [Nat.zero_add, hA.cell, kCells, List.getElem?_append_left hj]
  exact hv

theorem run_all32o (w : World) (g o : Nat) : (Instr.sliceAt 23 (.pointer (some ⟨g, o, none⟩)) none none none).run Tryd.prog w = .ok (.slice (some ⟨g, o, none⟩) 32 32) w := by
  have hl : Tryd.prog.arrayLen 23 = 32 := by simp [Program.arrayLen, Tryd.underlying23]
  have he : Tryd.prog.elem 23 = 5 := by simp [Program.elem, Tryd.underlying23]
  have ht : Tryd.prog.underlying 23 = some (.array (Tryd.prog.arrayLen 23) (Tryd.prog.elem 23)) := by rw [hl, he]; exact Tryd.underlying23
  rw [run_sliceAt_array_all w 23 ⟨g, o, none⟩ ht, he, size5, hl]
  simp [Result.andThen, slicedAt, Addr.add_mid]

theorem run_d16 (w : World) (g : Nat) : (Instr.sliceAt 23 (.pointer (some ⟨g, 0, none⟩)) none (some (.int .i64 16)) none).run Tryd.prog w = .ok (.slice (some ⟨g, 0, none⟩) 16 32) w := by
  have hl : Tryd.prog.arrayLen 23 = 32 := by simp [Program.arrayLen, Tryd.underlying23]
  have he : Tryd.prog.elem 23 = 5 := by simp [Program.elem, Tryd.underlying23]
  have ht : Tryd.prog.underlying 23 = some (.array (Tryd.prog.arrayLen 23) (Tryd.prog.elem 23)) := by rw [hl, he]; exact Tryd.underlying23
  rw [run_sliceAt_array_h w 23 ⟨g, 0, none⟩ ht .i64 _ (by omega) (by rw [hl]; omega), he, size5, hl]
  simp [Result.andThen, slicedAt, Addr.add_mid]

theorem arr_take {w : World} {g : Nat} {t : TypeId} {l : List Nat} (h : Arr w g t (u8s l)) (hb : BytesN l) (n c : Nat) (hn : n ≤ l.length) (hc : n ≤ c) (hcm : c ≤ maxLen) : Piece w (some ⟨g, 0, none⟩) c (l.take n) :=
  ⟨Or.inr ⟨g, 0, rfl, fun i hi => by
    have hi' : i < n ∧ i < l.length := by rw [List.length_take] at hi; omega
    rw [Nat.zero_add, h.cell i, u8s_at hi'.2]
    simp [List.getD, hi'.1]⟩, (fun e => by cases e), fun x hx => hb x (List.mem_of_mem_take hx), by rw [List.length_take]; omega, hcm⟩

set_option maxHeartbeats 4000000 in
set_option maxRecDepth 100000 in
theorem tag_any (code mark : List Nat) (p : Option Addr) (c n : Nat) (b : List Nat) (w : World) (hk : IsKey code mark) (hP : Piece w p c b) (hn : b.length = n) (hn2 : n ≤ 90000) (hL : Laid w) :
    Calls Tryd.prog 26 #[keyV code mark, .slice p n c] w fun e w' => ∃ g, e = .returned (.slice (some ⟨g, 0, none⟩) 16 32) ∧ w.heap.size ≤ g ∧ Piece w' (some ⟨g, 0, none⟩) 32 (tgF mark b) ∧ Below w.heap.size w w' := by
  have hL2 := hL.size
  have HLB : Hid (∀ v, Below w.heap.size w v → Laid v) := fun v hb => hL.keptB (B := w.heap.size) hL2 hb
  have hml := hk.ml
  have A1 : Hid (Arr (w.alloc (Obj.cells (kCells code mark).toArray 25)) w.heap.size 25 (kCells code mark) ∧ Below w.heap.size w (w.alloc (Obj.cells (kCells code mark).toArray 25))) := ⟨Arr.new w _ _, (Below.refl _ _).alloc (Nat.le_refl _) _⟩
  have HM := hide (fun (v : World) (h : Arr v w.heap.size 25 (kCells code mark)) => key_mark hk h)
  have HO := hide (fun (v : World) (q : Nat) (hb : Below w.heap.size w v) (h1 : Piece v (some ⟨w.heap.size, 16, none⟩) 32 mark) (h2 : v.cell? ⟨q, 0, none⟩ = some (.slice p n c)) =>
    of_one (some ⟨w.heap.size, 16, none⟩) 32 mark q 1 p c b (macF mark b) v h1 (by rw [hml]; omega) (hP.kept hb) (by omega) (by rw [hn]; exact h2) (HLB.out v hb) rfl)
  rw [hml] at HO
  have hT := hide (fun (v : World) (g : Nat) (h : Arr v g 23 (u8s (macF mark b))) => arr_take h (macF_bytes mark b) 16 32 (by rw [macF_length]; omega) (by omega) (by unfold maxLen; omega))
  have HDL := hide (macF_length mark b)
  have e16 : tgF mark b = (macF mark b).take 16 := rfl
  rw [e16]
  clear e16 hL hP hn hml hk
  generalize macF mark b = D at *
  have ID : Hid ((Tryd.prog.info? 23).map (·.size) = some (u8s D).toArray.size) := by show _ = _; rw [info35]; simp [u8s, HDL.out]
  have OD : Hid ((u8s (List.replicate 32 0)).toArray.size = (u8s D).toArray.size) := by show _ = _; simp [u8s, HDL.out]
  have hsl := fun v => run_all32o v w.heap.size 16
  go_enter Tryd.func26, Tryd.ntmps26
  go_upto_region 1 with fail
  generalize hG : w.heap.size = G at *
  generalize w.alloc (Obj.cells (kCells code mark).toArray 25) = w1 at *
  have B2 : Hid (Below G w (w1.alloc (Obj.cells #[Value.slice p n c] 42))) := A1.out.2.alloc (by have := A1.out.2.size; omega) _
  have c2 : Hid ((w1.alloc (Obj.cells #[Value.slice p n c] 42)).cell? ⟨w1.heap.size, 0, none⟩ = some (Value.slice p n c)) := by
    show _ = _; simp
  have HC := hide (HO.out _ w1.heap.size B2.out (HM.out _ (A1.out.1.alloc _)) c2.out)
  clear c2 HM HO A1
  go_wp2_with fail
  refine HC.out.mono ?_
  rintro e w2 ⟨rfl, hb2⟩
  have B3 : Hid (Below G w w2) := B2.out.trans (hb2.mono (by rw [← hG]; exact B2.out.size))
  clear hb2 B2 HC
  go_wp2_with (refine wpList_store_row rfl 23 _ _ rfl w2.heap.size (u8s D).toArray rfl rfl 23 (u8s (List.replicate 32 0)).toArray (heap_at w2 _ _ rfl) ID.out OD.out (all_u8s _) ?_)
  have A4 : Hid (Arr ((w2.alloc Z32).setRow w2.heap.size (u8s D).toArray) w2.heap.size 23 (u8s D)) := (Arr.new w2 23 (u8s (List.replicate 32 0))).row _
  have B4 : Hid (Below G w ((w2.alloc Z32).setRow w2.heap.size (u8s D).toArray)) := below_setRow (B3.out.alloc (by have := B3.out.size; omega) _) (by have := B3.out.size; omega) (by simp) _
  go_ret
  exact ⟨w2.heap.size, rfl, by have := B3.out.size; omega, hT.out _ _ A4.out, by rw [hG]; exact B4.out⟩

end Go.Proofs.YtbmjlofehbbkbaaDoor

/- Keys and nonces that are handed in, opened. -/
namespace Go.Proofs.YtbmjlofehbbkbaaDoor
open Go.ChangeShapes Go.WideShapes Go.ChangeAt Go.WideMaps Go.WideElems Go.RowKit

/-- bytes of an array, by how they are read -/
theorem bytes_row {H : Type} {enc : TypeId × Value → H} {P : Program} {w : World} {base : Nat} {sp : Nat → Bool} {held : Bool} {fuel : Nat} {t e : TypeId} {n : Nat} {cs : List Value} {x : DataW H × List MemPlace}
    (ht : P.underlying t = some (.array n e)) (he : P.underlying e = some (.int .u8)) (hce : P.cellsOf e = 1) (hct : P.cellsOf t = n) (h : DataW.trod enc P w base sp held fuel t cs = some x) :
    ∃ l : List Nat, cs = u8s l ∧ l.length = n ∧ BytesN l ∧ ∀ y ∈ x.2, False := by
  obtain ⟨zs, h1, h2, h3, h4⟩ := open_ints_arr (enc := enc) (w := w) (base := base) (sp := sp) (held := held) (v := .agg cs.toArray) (d := x.1) (p := x.2) ht he hce hct ⟨fuel, by simpa [Value.cells] using h⟩
  have bd : ∀ z ∈ zs, 0 ≤ z ∧ z < 256 := fun z hz => by
    have h := h3 z hz
    have m1 : IntKind.u8.min = 0 := rfl
    have m2 : IntKind.u8.max = 255 := rfl
    simp only [Lit.wf, m1, m2, Bool.and_eq_true, decide_eq_true_eq] at h
    omega
  refine ⟨zs.map Int.toNat, ?_, by simpa using h2, ?_, h4⟩
  · have h1' : cs = zs.map (Value.int .u8) := by simpa [Value.cells] using h1
    rw [h1', u8s, List.map_map]
    apply List.map_congr_left
    intro z hz
    have := bd z hz
    simp only [Function.comp]
    rw [Int.toNat_of_nonneg this.1]
  · intro y hy
    obtain ⟨z, hz, rfl⟩ := List.mem_map.1 hy
    have := bd z hz
    omega

theorem cellsU8 : Tryd.prog.cellsOf 5 = 1 := by kernel_rfl
theorem cellsA16 : Tryd.prog.cellsOf 22 = 16 := by kernel_rfl
theorem cellsA32 : Tryd.prog.cellsOf 23 = 32 := by kernel_rfl
theorem cellsKey : Tryd.prog.cellsOf 25 = 48 := by kernel_rfl
theorem cellsNonce : Tryd.prog.cellsOf 41 = 2 := by kernel_rfl
theorem cellsBool : Tryd.prog.cellsOf 4 = 1 := by kernel_rfl
theorem cellsU64 : Tryd.prog.cellsOf 26 = 1 := by kernel_rfl

set_option maxRecDepth 100000 in
/-- a key that is handed in -/
theorem open_key {H : Type} {enc : TypeId × Value → H} {W : World} {r : Reach} {b0 base : Nat} {sp : Nat → Bool} {held : Bool} {v : Value} {d : DataW H} {p : List MemPlace}
    (hv : Value.okWide Tryd.prog W r b0 25 v) (h : DataW.Trod enc Tryd.prog W base sp held 25 v d p) : ∃ code mark : List Nat, v = keyV code mark ∧ IsKey code mark ∧ ∀ y ∈ p, False := by
  obtain ⟨c0, rfl⟩ := agg_struct Tryd.underlying25 hv
  obtain ⟨fuel, hf⟩ := h
  obtain ⟨y0, y1, n, hx, hl, h0, h1⟩ := trod_struct2 Tryd.underlying25 hf
  obtain ⟨code, e0, l0, b0', z0⟩ := bytes_row Tryd.underlying22 Tryd.underlying5 cellsU8 cellsA16 h0
  obtain ⟨mark, e1, l1, b1', z1⟩ := bytes_row Tryd.underlying23 Tryd.underlying5 cellsU8 cellsA32 h1
  simp only [cellsKey, cellsA16, cellsA32, List.drop_zero] at hl e0 e1
  refine ⟨code, mark, ?_, ⟨⟨l0, fun i => ?_⟩, l1, b1'⟩, ?_⟩
  · show Value.agg c0 = Value.agg (kCells code mark).toArray
    congr 1
    apply Array.toList_inj.1
    have hl' : c0.toList.length = 48 := by simpa [Value.cells] using hl
    show c0.toList = kCells code mark
    have e0' : c0.toList.take 16 = u8s code := by simpa [Value.cells] using e0
    have e1' : (c0.toList.drop 16).take 32 = u8s mark := by simpa [Value.cells] using e1
    rw [List.take_of_length_le (by rw [List.length_drop]; omega)] at e1'
    rw [kCells, ← e0', ← e1', List.take_append_drop]
  · exact getD_lt (fun x hx => b0' x hx) (by omega) i
  · intro y hy
    have hp := congrArg Prod.snd hx
    simp only at hp
    rw [hp] at hy
    rcases List.mem_append.1 hy with h | h
    · exact z0 y h
    · exact z1 y h

set_option maxRecDepth 100000 in
/-- a nonce that is handed in -/
theorem open_nonce {H : Type} {enc : TypeId × Value → H} {W : World} {r : Reach} {b0 base : Nat} {sp : Nat → Bool} {held : Bool} {v : Value} {d : DataW H} {p : List MemPlace}
    (hv : Value.okWide Tryd.prog W r b0 41 v) (h : DataW.Trod enc Tryd.prog W base sp held 41 v d p) : ∃ (b : Bool) (m : Nat), v = noV b m ∧ m < 18446744073709551616 ∧ ∀ y ∈ p, False := by
  obtain ⟨c0, rfl⟩ := agg_struct Tryd.underlying41 hv
  obtain ⟨fuel, hf⟩ := h
  obtain ⟨y0, y1, n, hx, hl, h0, h1⟩ := trod_struct2 Tryd.underlying41 hf
  obtain ⟨b, e0, q0⟩ := DataW.trod_bool Tryd.underlying4 h0
  obtain ⟨z, e1, q1, hw⟩ := DataW.trod_int Tryd.underlying26 h1
  obtain ⟨m, rfl, hm⟩ := wf_u64 hw
  simp only [cellsNonce, cellsBool, cellsU64, List.drop_zero] at hl e0 e1
  refine ⟨b, m, ?_, hm, ?_⟩
  · show Value.agg c0 = Value.agg #[.bool b, .int .u64 (m : Int)]
    congr 1
    apply Array.toList_inj.1
    have hl' : c0.toList.length = 2 := by simpa [Value.cells] using hl
    have e0' : c0.toList.take 1 = [.bool b] := by simpa [Value.cells] using e0
    have e1' : (c0.toList.drop 1).take 1 = [.int .u64 (m : Int)] := by simpa [Value.cells] using e1
    match h : c0.toList, hl' with
    | [u, v], _ => rw [h] at e0' e1'; simp at e0' e1'; rw [e0', e1']
  · intro y hy
    have hp := congrArg Prod.snd hx
    simp only [q0, q1] at hp
    rw [hp] at hy
    simp at hy

theorem eq_no_true (d : Bool) (m : Nat) (w : World) : (Op.equalIn 10000 41 (noV d m) (noV d m)).run Tryd.prog w = .ok true w := (run_eq_no d d m m w).trans (by simp)

end Go.Proofs.YtbmjlofehbbkbaaDoor
