/-
  Several texts, joined: YA, YB, YC.
-/
import Derived.Test.YtbmjlofehbbkbaaDoorJA
import Derived.Test.YtbmjlofehbbkbaaDoorJO

/- Layer 1 for the layers above it, plain: the form of a number in groups of seven bits. -/
namespace Go.Proofs.YtbmjlofehbbkbaaDoor
open Go.RowKit
variable {A : Nat → Prop}

/-- the groups ahead of the last: each has 128 more -/
def numH : Nat → Nat → List Int
  | 0, _ => []
  | f + 1, n => if n = 0 then [] else numH f (n / 128) ++ [((n % 128 + 128 : Nat) : Int)]

/-- a number's form -/
def numF (n : Nat) : List Int := numH 10 (n / 128) ++ [((n % 128 : Nat) : Int)]

/-- what Num has put down, backwards, behind so many rounds -/
def numB : Nat → Nat → List Int
  | 0, n => [((n % 128 : Nat) : Int)]
  | k + 1, n => numB k n ++ [((n / 128 ^ (k + 1) % 128 + 128 : Nat) : Int)]

theorem numB_length (k n : Nat) : (numB k n).length = k + 1 := by induction k with
  | zero => rfl
  | succ k ih => simp [numB, ih]

theorem numH_of (k : Nat) : ∀ f m, k ≤ f → m < 128 ^ k → (k = 0 ∨ 128 ^ (k - 1) ≤ m) → numH f m = (List.range k).map fun i => ((m / 128 ^ (k - 1 - i) % 128 + 128 : Nat) : Int) := by
  induction k with
  | zero =>
    intro f m _ hm _
    have : m = 0 := by simpa using hm
    subst this
    cases f <;> simp [numH]
  | succ k ih =>
    intro f m hf hm hlo
    have hlo' : 128 ^ k ≤ m := by simpa using hlo
    have hpos : 0 < 128 ^ k := Nat.pow_pos (by omega)
    obtain ⟨f, rfl⟩ : ∃ g, f = g + 1 := ⟨f - 1, by omega⟩
    have hm0 : m ≠ 0 := by omega
    have h1 : m / 128 < 128 ^ k := by rw [Nat.div_lt_iff_lt_mul (by omega)]; rw [Nat.pow_succ] at hm; exact hm
    have h2 : k = 0 ∨ 128 ^ (k - 1) ≤ m / 128 := by
      cases k with
      | zero => exact Or.inl rfl
      | succ k => right; rw [Nat.le_div_iff_mul_le (by omega)]; simpa [Nat.pow_succ] using hlo'
    rw [numH, if_neg hm0, ih f (m / 128) (by omega) h1 h2, List.range_succ, List.map_append]
    congr 1
    · apply List.map_congr_left
      intro i hi
      have hi' : i < k := by simpa using hi
      have e : k + 1 - 1 - i = (k - 1 - i) + 1 := by omega
      rw [e, Nat.pow_succ, Nat.mul_comm, ← Nat.div_div_eq_div_mul]
    · simp

theorem numB_eq (k n : Nat) : numB k n = ((n % 128 : Nat) : Int) :: (List.range k).map fun i => ((n / 128 ^ (i + 1) % 128 + 128 : Nat) : Int) := by
  induction k with
  | zero => rfl
  | succ k ih => rw [numB, ih, List.range_succ]; simp

theorem range_rev_map {α : Type} (g : Nat → α) : ∀ k, ((List.range k).map g).reverse = (List.range k).map fun i => g (k - 1 - i) := by
  intro k
  apply List.ext_getElem
  · simp
  · intro i h1 h2
    simp [List.getElem_reverse]

/-- backwards it is the form, once nothing is left -/
theorem numB_reverse (k n : Nat) (hk : k ≤ 10) (h : n / 128 ^ (k + 1) = 0) (hlo : k = 0 ∨ 0 < n / 128 ^ k) : (numB k n).reverse = numF n := by
  have hp : 0 < 128 ^ k := Nat.pow_pos (by omega)
  have hm : n / 128 < 128 ^ k := by
    rw [Nat.div_lt_iff_lt_mul (by omega), ← Nat.pow_succ]
    exact Nat.lt_of_div_eq_zero (Nat.pow_pos (by omega)) h
  have hlo' : k = 0 ∨ 128 ^ (k - 1) ≤ n / 128 := by
    rcases hlo with h0 | h0
    · exact Or.inl h0
    · cases k with
      | zero => exact Or.inl rfl
      | succ k =>
        right
        rw [Nat.le_div_iff_mul_le (by omega)]
        have := Nat.div_pos_iff.1 h0
        simpa [Nat.pow_succ] using this.2
  rw [numB_eq, List.reverse_cons, range_rev_map, numF, numH_of k 10 (n / 128) hk hm hlo']
  congr 1
  apply List.map_congr_left
  intro i hi
  have hi' : i < k := by simpa using hi
  rw [Nat.pow_succ, Nat.mul_comm, ← Nat.div_div_eq_div_mul]

theorem numB_bytes (k n : Nat) : ∀ x ∈ numB k n, 0 ≤ x ∧ x < 256 := by
  rw [numB_eq]
  intro x hx
  rcases List.mem_cons.1 hx with h | h
  · subst h; omega
  · obtain ⟨i, _, rfl⟩ := List.mem_map.1 h
    have := Nat.mod_lt (n / 128 ^ (i + 1)) (show 128 > 0 by omega)
    omega

theorem numH_bytes (f : Nat) : ∀ m, ∀ x ∈ numH f m, 128 ≤ x ∧ x < 256 := by
  induction f with
  | zero => intro m x hx; simp [numH] at hx
  | succ f ih =>
    intro m x hx
    rw [numH] at hx
    split at hx
    · simp at hx
    · rcases List.mem_append.1 hx with h | h
      · exact ih _ x h
      · simp at h; subst h; omega

theorem numF_bytes (n : Nat) : ∀ x ∈ numF n, 0 ≤ x ∧ x < 256 := by
  intro x hx
  rcases List.mem_append.1 hx with h | h
  · have := numH_bytes 10 _ x h; omega
  · simp at h; subst h; omega

theorem numH_length (f : Nat) : ∀ m, (numH f m).length ≤ f := by
  induction f with
  | zero => intro m; simp [numH]
  | succ f ih => intro m; rw [numH]; split <;> simp; exact ih _

theorem numF_length (n : Nat) : 1 ≤ (numF n).length ∧ (numF n).length ≤ 11 := by
  have := numH_length 10 (n / 128)
  simp [numF]; omega

theorem getD_set (l : List Int) (i k : Nat) (x : Int) : (l.set i x).getD k 0 = if i = k ∧ k < l.length then x else l.getD k 0 := by
  simp only [List.getD, List.getElem?_set]
  by_cases h : i = k
  · subst h
    by_cases h2 : i < l.length
    · simp [h2]
    · simp [h2]
  · simp [h]

/-- reversing from the two ends inward -/
def RevTo (xs ys : List Int) (i : Nat) : Prop :=
  ys.length = xs.length ∧ 2 * i ≤ xs.length + 1 ∧ ∀ k, k < xs.length → ys.getD k 0 = if k < i ∨ xs.length - i ≤ k then xs.getD (xs.length - 1 - k) 0 else xs.getD k 0

theorem RevTo.start (xs : List Int) : RevTo xs xs 0 := ⟨rfl, by omega, fun k hk => by rw [if_neg (by omega)]⟩

theorem RevTo.step {xs ys : List Int} {i : Nat} (h : RevTo xs ys i) (hi : i < xs.length - 1 - i) :
    RevTo xs ((ys.set i (ys.getD (xs.length - 1 - i) 0)).set (xs.length - 1 - i) (ys.getD i 0)) (i + 1) := by
  obtain ⟨hl, h2, hk⟩ := h
  refine ⟨by simpa using hl, by omega, ?_⟩
  intro k hkl
  have ei := hk i (by omega)
  have ej := hk (xs.length - 1 - i) (by omega)
  rw [if_neg (by omega)] at ei ej
  by_cases h1 : k = xs.length - 1 - i
  · subst h1
    rw [if_pos (by omega), show xs.length - 1 - (xs.length - 1 - i) = i by omega, ← ei]
    rw [getD_set, if_pos ⟨rfl, by simp; omega⟩]
  · by_cases h0 : k = i
    · subst h0
      rw [if_pos (by omega), ← ej]
      rw [getD_set, if_neg (by omega), getD_set, if_pos ⟨rfl, by omega⟩]
    · have e : ((ys.set i (ys.getD (xs.length - 1 - i) 0)).set (xs.length - 1 - i) (ys.getD i 0)).getD k 0 = ys.getD k 0 := by
        rw [getD_set, if_neg (by omega), getD_set, if_neg (by omega)]
      rw [e, hk k hkl]
      by_cases hc : k < i ∨ xs.length - i ≤ k
      · rw [if_pos hc, if_pos (by omega)]
      · rw [if_neg hc, if_neg (by omega)]

theorem RevTo.done {xs ys : List Int} {i : Nat} (h : RevTo xs ys i) (hi : ¬ i < xs.length - 1 - i) : ys = xs.reverse := by
  obtain ⟨hl, h2, hk⟩ := h
  apply List.ext_getElem
  · simpa using hl
  · intro k h1 h2'
    have hkl : k < xs.length := by omega
    have e := hk k hkl
    have ey : ys.getD k 0 = ys[k] := by simp [List.getD, h1]
    rw [ey] at e
    rw [e, List.getElem_reverse]
    have er : xs.getD (xs.length - 1 - k) 0 = xs[xs.length - 1 - k] := by simp [List.getD, show xs.length - 1 - k < xs.length by omega]
    by_cases hc : k < i ∨ xs.length - i ≤ k
    · rw [if_pos hc, er]
    · rw [if_neg hc, ← er]
      have : k = xs.length - 1 - k := by omega
      rw [← this]

end Go.Proofs.YtbmjlofehbbkbaaDoor

/- Layer 1 for the layers above it: the form of a number, by the program and by the reference. -/
namespace Go.Proofs.YtbmjlofehbbkbaaDoor
open Go.RowKit
variable {A : Nat → Prop}



theorem numB_get (k n j : Nat) (hj : j ≤ k) : (numB k n)[j]? = some ((n / 128 ^ j % 128 + (if j = 0 then 0 else 128) : Nat) : Int) := by
  rw [numB_eq]
  cases j with
  | zero => simp
  | succ j =>
    have : j < k := by omega
    simp [this]

theorem form_get (k n i : Nat) (hi : i ≤ k) : (numB k n).reverse[i]? = some ((n / 128 ^ (k - i) % 128 + (if k - i = 0 then 0 else 128) : Nat) : Int) := by
  have hl := numB_length k n
  rw [List.getElem?_reverse (by omega), hl, show k + 1 - 1 - i = k - i by omega]
  exact numB_get k n (k - i) (by omega)

theorem shr_num (n i : Nat) : ((n : Int) / 2 ^ (7 * i)) = ((n / 128 ^ i : Nat) : Int) := by
  rw [show (128 : Nat) ^ i = 2 ^ (7 * i) by rw [Nat.pow_mul]]
  simp


set_option maxHeartbeats 400000 in
theorem reffix_out (n : Nat) (s : Int) (h : ¬ (1 ≤ s ∧ s ≤ 8)) (w : World) :
    Calls Tryd.prog 23 #[.int .u64 n, .int .i64 s] w fun e w' => e = .returned (.slice none 0 0) ∧ w' = w := by
  by_cases h1 : s < 1
  · go_enter Tryd.func23, Tryd.ntmps23
    go_wp2
    go_ret
    exact ⟨rfl, rfl⟩
  · have h1' : decide (s < 1) = false := by simpa using h1
    have h8 : 8 < s := by omega
    go_enter Tryd.func23, Tryd.ntmps23
    go_wp2
    go_ret
    exact ⟨rfl, rfl⟩


end Go.Proofs.YtbmjlofehbbkbaaDoor

/- Layer 1 for the layers above it: numbers and texts read by a reader, what is left, what error; what was put is read again. -/
namespace Go.Proofs.YtbmjlofehbbkbaaDoor
open Go.RowKit
variable {A : Nat → Prop}

set_option maxHeartbeats 400000 in
theorem left_nil (w : World) :
    Calls Tryd.prog 58 #[.pointer none] w fun e w' => e = .returned (.int .i64 0) ∧ w' = w := by
  go_enter Tryd.func58, Tryd.ntmps58
  go_wp2
  go_ret
  exact ⟨rfl, rfl⟩

set_option maxHeartbeats 400000 in
theorem left_at (b : Nat) (p : Option Addr) (n c : Nat) (w : World) (hc : w.cell? ⟨b, 0, none⟩ = some (.slice p n c)) :
    Calls Tryd.prog 58 #[.pointer (some ⟨b, 0, none⟩)] w fun e w' => e = .returned (.int .i64 n) ∧ w' = w := by
  go_enter Tryd.func58, Tryd.ntmps58
  go_wp2
  go_ret
  exact ⟨rfl, rfl⟩

set_option maxHeartbeats 400000 in
theorem err_nil (w : World) :
    Calls Tryd.prog 45 #[.pointer none] w fun e w' => e = .returned (.int .i64 0) ∧ w' = w := by
  go_enter Tryd.func45, Tryd.ntmps45
  go_wp2
  go_ret
  exact ⟨rfl, rfl⟩

set_option maxHeartbeats 400000 in
theorem err_at (b : Nat) (x : Int) (w : World) (hc : w.cell? ⟨b, 1, none⟩ = some (.int .i64 x)) :
    Calls Tryd.prog 45 #[.pointer (some ⟨b, 0, none⟩)] w fun e w' => e = .returned (.int .i64 x) ∧ w' = w := by
  go_enter Tryd.func45, Tryd.ntmps45
  go_wp2
  go_ret
  exact ⟨rfl, rfl⟩

set_option maxHeartbeats 400000 in
theorem fixed_out (n : Nat) (s : Int) (h : ¬ (1 ≤ s ∧ s ≤ 8)) (w : World) :
    Calls Tryd.prog 30 #[.int .u64 n, .int .i64 s] w fun e w' => e = .returned (.slice none 0 0) ∧ w' = w := by
  have hok : decide (1 ≤ s ∧ s ≤ 8) = false := by simpa using h
  go_enter Tryd.func30, Tryd.ntmps30
  go_wp2_with fail
  refine (isFixed_any _ _).mono ?_
  rintro e w1 ⟨rfl, hw1⟩
  subst hw1
  rw [hok]
  go_wp2
  go_ret
  exact ⟨rfl, rfl⟩

/-- reading a number, byte by byte: at most so many more, what has been read -/
def rdN : List Int → Nat → Nat → Option (Nat × List Int)
  | _, 0, _ => none
  | [], _ + 1, _ => none
  | c :: r, k + 1, n => if 144115188075855871 < n then none else if c < 128 then some (n * 128 + (c % 128).toNat, r) else rdN r k (n * 128 + (c % 128).toNat)

/-- reading a number -/
def rdNum (bs : List Int) : Option (Nat × List Int) := if bs.head? = some 128 then none else rdN bs 10 0

def NumPost (A : Nat → Prop) (bs : List Int) (x : Int) (b : Nat) (w : World) (e : Ending) (w' : World) : Prop :=
  (rdNum bs = none ∧ e = .returned (.tuple #[.int .u64 0, .int .i64 4]) ∧ w' = w) ∨
  ∃ m rest, rdNum bs = some (m, rest) ∧ m < 18446744073709551616 ∧ e = .returned (.tuple #[.int .u64 (m : Nat), .int .i64 0]) ∧ Rd A w' b rest x ∧ w.grownBy w' (some b)

theorem drop_cons {bs : List Int} {i : Nat} (h : i < bs.length) : bs.drop i = bs.getD i 0 :: bs.drop (i + 1) := by
  rw [List.drop_eq_getElem_cons h]; simp [List.getD, h]

theorem or_low (m : Nat) (c0 : Int) (hm : m ≤ 144115188075855871) (h0 : 0 ≤ c0) (h1 : c0 < 128) : bits .or .u64 ((m : Int) * 128) c0 = (m : Int) * 128 + c0 := by
  obtain ⟨c, rfl⟩ := Int.eq_ofNat_of_zero_le h0
  have hc : c < 128 := by omega
  have h := u64_or_nat (m * 128) c (by omega) (by omega)
  rw [nat_join 7 (m * 128) c (by omega) (by omega)] at h
  simpa using h


/-- reading a text of at most so many bytes: the error's number where there is none -/
def rdTxt (most : Nat) (bs : List Int) : Except Int (List Int × List Int) :=
  match rdNum bs with
  | none => .error 4
  | some (m, rest) => if most < m then .error 3 else if rest.length < m then .error 4 else .ok (rest.take m, rest.drop m)

def TxtPost (A : Nat → Prop) (most : Nat) (bs : List Int) (x : Int) (b : Nat) (w : World) (e : Ending) (w' : World) : Prop :=
  (∃ er bs', rdTxt most bs = .error er ∧ (er = 3 ∨ er = 4) ∧ e = .returned (.tuple #[.slice none 0 0, .int .i64 er]) ∧ Rd A w' b bs' x ∧ w.grownBy w' (some b)) ∨
  (∃ tx rest v, rdTxt most bs = .ok (tx, rest) ∧ e = .returned (.tuple #[v, .int .i64 0]) ∧ w'.ownsRow w.heap.size 5 1 v tx.length (tx.map (Value.int .u8)) ∧ Rd A w' b rest x ∧ w.grownBy w' (some b))





set_option maxHeartbeats 1000000 in
set_option maxRecDepth 100000 in
theorem rfix_nil (s : Int) (w : World) :
    Calls Tryd.prog 38 #[.pointer none, .int .i64 s] w fun e w' => e = .returned (.int .u64 0) ∧ w' = w := by
  go_enter Tryd.func38, Tryd.ntmps38
  go_wp2
  go_ret
  exact ⟨rfl, rfl⟩

set_option maxHeartbeats 1000000 in
set_option maxRecDepth 100000 in
theorem rfix_err (b : Nat) (s : Int) (x : Int) (w : World) (h1 : w.cell? ⟨b, 1, none⟩ = some (.int .i64 x)) (hx : x ≠ 0) :
    Calls Tryd.prog 38 #[.pointer (some ⟨b, 0, none⟩), .int .i64 s] w fun e w' => e = .returned (.int .u64 0) ∧ w' = w := by
  have hx' : (x != 0) = true := by simpa using hx
  clear hx
  go_enter Tryd.func38, Tryd.ntmps38
  go_wp2
  go_ret
  exact ⟨rfl, rfl⟩



def TextOut (A : Nat → Prop) (most : Int) (bs : List Int) (b : Nat) (w : World) (e : Ending) (w' : World) : Prop :=
  (∃ er, rdTxt most.toNat bs = .error er ∧ (er = 3 ∨ er = 4) ∧ e = .returned (.slice none 0 0) ∧ Rd A w' b bs er ∧ w.grownBy w' (some b)) ∨
  (∃ tx rest v, rdTxt most.toNat bs = .ok (tx, rest) ∧ e = .returned v ∧ w'.ownsRow w.heap.size 5 1 v tx.length (tx.map (Value.int .u8)) ∧ Rd A w' b rest 0 ∧ w.grownBy w' (some b))


theorem numH_short (f : Nat) : ∀ m j, m < 128 ^ j → (numH f m).length ≤ j := by
  induction f with
  | zero => intro m j _; simp [numH]
  | succ f ih =>
    intro m j hm
    rw [numH]
    split
    · simp
    · rename_i h0
      cases j with
      | zero => simp at hm; omega
      | succ j =>
        have h1 : m / 128 < 128 ^ j := by rw [Nat.div_lt_iff_lt_mul (by omega), ← Nat.pow_succ]; exact hm
        have := ih (m / 128) j h1
        simp; omega

theorem numH_head (f : Nat) : ∀ m, m < 128 ^ f → m ≠ 0 → ∀ tail, ∃ c r, numH f m ++ tail = c :: r ∧ 128 < c := by
  induction f with
  | zero => intro m hm h0; simp at hm; omega
  | succ f ih =>
    intro m hm h0 tail
    rw [numH, if_neg h0]
    by_cases hq : m / 128 = 0
    · rw [hq]
      have e : numH f 0 = [] := by cases f <;> simp [numH]
      rw [e]
      refine ⟨((m % 128 + 128 : Nat) : Int), tail, by simp, ?_⟩
      omega
    · have h1 : m / 128 < 128 ^ f := by rw [Nat.div_lt_iff_lt_mul (by omega), ← Nat.pow_succ]; exact hm
      obtain ⟨c, r, e, hc⟩ := ih (m / 128) h1 hq ([((m % 128 + 128 : Nat) : Int)] ++ tail)
      exact ⟨c, r, by rw [List.append_assoc]; exact e, hc⟩

theorem rdN_numH (f : Nat) : ∀ m k tail, m < 128 ^ f → m ≤ 144115188075855871 → (numH f m).length ≤ k → rdN (numH f m ++ tail) k 0 = rdN tail (k - (numH f m).length) m := by
  induction f with
  | zero =>
    intro m k tail hm _ _
    have : m = 0 := by simp at hm; omega
    subst this
    simp [numH]
  | succ f ih =>
    intro m k tail hm hb hk
    by_cases h0 : m = 0
    · subst h0; simp [numH]
    · have hl : (numH (f + 1) m).length = (numH f (m / 128)).length + 1 := by rw [numH, if_neg h0]; simp
      have h1 : m / 128 < 128 ^ f := by rw [Nat.div_lt_iff_lt_mul (by omega), ← Nat.pow_succ]; exact hm
      rw [hl] at hk
      have e := ih (m / 128) k ([((m % 128 + 128 : Nat) : Int)] ++ tail) h1 (by omega) (by omega)
      rw [numH, if_neg h0, List.append_assoc, e]
      obtain ⟨j, hj⟩ : ∃ j, k - (numH f (m / 128)).length = j + 1 := ⟨k - (numH f (m / 128)).length - 1, by omega⟩
      rw [hj]
      show rdN (((m % 128 + 128 : Nat) : Int) :: tail) (j + 1) (m / 128) = _
      rw [rdN, if_neg (by omega), if_neg (by omega)]
      have e2 : m / 128 * 128 + (((m % 128 + 128 : Nat) : Int) % 128).toNat = m := by omega
      have e3 : k - (numH f (m / 128) ++ [((m % 128 + 128 : Nat) : Int)]).length = j := by simp; omega
      rw [e2, e3]

/-- what was put is read again, whatever stands behind it -/
theorem rdNum_numF (n : Nat) (hn : n < 18446744073709551616) (rest : List Int) : rdNum (numF n ++ rest) = some (n, rest) := by
  have hm : n / 128 ≤ 144115188075855871 := by omega
  have hm9 : n / 128 < 128 ^ 9 := by have : (128 : Nat) ^ 9 = 9223372036854775808 := by decide
                                     omega
  have hm10 : n / 128 < 128 ^ 10 := by have : (128 : Nat) ^ 10 = 1180591620717411303424 := by decide
                                       omega
  have hl := numH_short 10 (n / 128) 9 hm9
  have hd : ¬ ((numF n ++ rest).head? = some 128) := by
    by_cases h0 : n / 128 = 0
    · rw [numF, h0]
      have e : numH 10 0 = [] := by simp [numH]
      rw [e]
      simp; omega
    · obtain ⟨c, r, e, hc⟩ := numH_head 10 (n / 128) hm10 h0 ([((n % 128 : Nat) : Int)] ++ rest)
      rw [numF, List.append_assoc, e]
      simp; omega
  rw [rdNum, if_neg hd, numF, List.append_assoc, rdN_numH 10 (n / 128) 10 _ hm10 hm (by omega)]
  obtain ⟨j, hj⟩ : ∃ j, 10 - (numH 10 (n / 128)).length = j + 1 := ⟨9 - (numH 10 (n / 128)).length, by omega⟩
  rw [hj]
  show rdN (((n % 128 : Nat) : Int) :: rest) (j + 1) (n / 128) = _
  rw [rdN, if_neg (by omega), if_pos (by omega)]
  have e : n / 128 * 128 + (((n % 128 : Nat) : Int) % 128).toNat = n := by omega
  rw [e]

theorem numF_short (n : Nat) (hn : n < 18446744073709551616) : 1 ≤ (numF n).length ∧ (numF n).length ≤ 10 := by
  have hm9 : n / 128 < 128 ^ 9 := by have : (128 : Nat) ^ 9 = 9223372036854775808 := by decide
                                     omega
  have := numH_short 10 (n / 128) 9 hm9
  simp [numF]; omega

/-- no number's form is the beginning of another one's -/
theorem numF_apart {a b : Nat} (ha : a < 18446744073709551616) (hb : b < 18446744073709551616) {k : Nat} (h : (numF b).take k = numF a) : a = b := by
  have h1 := rdNum_numF a ha ((numF b).drop k)
  rw [← h, List.take_append_drop] at h1
  have h2 := rdNum_numF b hb []
  rw [List.append_nil, h1] at h2
  simp only [Option.some.injEq, Prod.mk.injEq] at h2
  exact h2.1

set_option maxHeartbeats 1000000 in
set_option maxRecDepth 100000 in
theorem rest_nil (w : World) :
    Calls Tryd.prog 44 #[.pointer none] w fun e w' => e = .returned (.slice none 0 0) ∧ w' = w := by
  go_enter Tryd.func44, Tryd.ntmps44
  go_wp2
  go_ret
  exact ⟨rfl, rfl⟩

set_option maxHeartbeats 1000000 in
set_option maxRecDepth 100000 in
theorem rest_err (b : Nat) (bs : List Int) (x : Int) (w : World) (hr : Rd A w b bs x) (hx : x ≠ 0) :
    Calls Tryd.prog 44 #[.pointer (some ⟨b, 0, none⟩)] w fun e w' => e = .returned (.slice none 0 0) ∧ w' = w := by
  have hx' : (x != 0) = true := by simpa using hx
  clear hx
  obtain ⟨p, cap, h0, h1, f0, f1, hlc, hm, hs, hb, hne⟩ := hr
  clear hb hne
  go_enter Tryd.func44, Tryd.ntmps44
  go_wp2
  go_ret
  exact ⟨rfl, rfl⟩

set_option maxHeartbeats 1000000 in
set_option maxRecDepth 100000 in
theorem rest_ok (b : Nat) (bs : List Int) (w : World) (hr : Rd A w b bs 0) :
    Calls Tryd.prog 44 #[.pointer (some ⟨b, 0, none⟩)] w fun e w' => ∃ v, e = .returned v ∧ w'.ownsRow w.heap.size 5 1 v bs.length (bs.map (Value.int .u8)) ∧ Rd A w' b [] 0 ∧ w.grownBy w' (some b) := by
  have HR := hide hr
  obtain ⟨p, cap, h0, h1, f0, f1, hlc, hm, hs, hb, hne⟩ := hr
  clear hb hne
  have hc := cut_in b bs 0 bs.length w HR.out (Nat.le_refl _)
  rw [List.take_length, List.drop_length] at hc
  have HC := hide hc
  clear hc
  go_enter Tryd.func44, Tryd.ntmps44
  go_wp2_with (first | (go_at_call 58; go_in) | (go_at_call 57; go_in))
  refine (show Calls _ _ _ _ _ from HC.out).mono ?_
  rintro e w1 ⟨v, rfl, hown, hrd, hg⟩
  have HO := hide hown
  have HRD := hide hrd
  have HG := hide hg
  clear hown hrd hg
  go_wp2
  go_ret
  exact ⟨v, rfl, HO.out, HRD.out, HG.out⟩

def txtF (xs : List Int) : List Int := numF xs.length ++ xs

theorem txtF_bytes {xs : List Int} (h : ∀ x ∈ xs, 0 ≤ x ∧ x < 256) : ∀ x ∈ txtF xs, 0 ≤ x ∧ x < 256 := by
  intro x hx
  rcases List.mem_append.1 hx with h1 | h1
  · exact numF_bytes _ x h1
  · exact h x h1


theorem numH_fuel (f : Nat) : ∀ g m, f ≤ g → m < 128 ^ f → numH g m = numH f m := by
  induction f with
  | zero =>
    intro g m _ hm
    have : m = 0 := by simp at hm; omega
    subst this
    cases g <;> simp [numH]
  | succ f ih =>
    intro g m hg hm
    obtain ⟨g, rfl⟩ : ∃ h, g = h + 1 := ⟨g - 1, by omega⟩
    by_cases h0 : m = 0
    · subst h0; simp [numH]
    · have h1 : m / 128 < 128 ^ f := by rw [Nat.div_lt_iff_lt_mul (by omega), ← Nat.pow_succ]; exact hm
      rw [numH, if_neg h0, numH, if_neg h0, ih g (m / 128) (by omega) h1]

theorem rdN_form : ∀ (bs : List Int) (k n : Nat) (m : Nat) (rest : List Int), (∀ c ∈ bs, 0 ≤ c ∧ c < 256) → (n = 0 → ¬ bs.head? = some 128) → rdN bs k n = some (m, rest) → numF m ++ rest = numH 10 n ++ bs
  | [], k, n, m, rest, _, _, h => by cases k <;> simp [rdN] at h
  | _ :: _, 0, n, m, rest, _, _, h => by simp [rdN] at h
  | c :: r, k + 1, n, m, rest, hb, h0, h => by
    have hc := hb c (by simp)
    rw [rdN] at h
    by_cases hbig : 144115188075855871 < n
    · rw [if_pos hbig] at h; cases h
    · rw [if_neg hbig] at h
      by_cases hlt : c < 128
      · rw [if_pos hlt] at h
        simp only [Option.some.injEq, Prod.mk.injEq] at h
        obtain ⟨rfl, rfl⟩ := h
        have e1 : (n * 128 + (c % 128).toNat) / 128 = n := by omega
        have e2 : (((n * 128 + (c % 128).toNat) % 128 : Nat) : Int) = c := by omega
        rw [numF, e1, e2]; simp
      · rw [if_neg hlt] at h
        have hn' : ¬ (n * 128 + (c % 128).toNat = 0) := by
          intro e
          have : n = 0 := by omega
          apply h0 this
          simp; omega
        have ih := rdN_form r k (n * 128 + (c % 128).toNat) m rest (fun x hx => hb x (List.mem_cons_of_mem _ hx)) (fun e => absurd e hn') h
        have e1 : (n * 128 + (c % 128).toNat) / 128 = n := by omega
        have e2 : (((n * 128 + (c % 128).toNat) % 128 + 128 : Nat) : Int) = c := by omega
        have p9 : (128 : Nat) ^ 9 = 9223372036854775808 := by decide
        have e3 : numH 10 (n * 128 + (c % 128).toNat) = numH 10 n ++ [c] := by
          rw [show (10 : Nat) = 9 + 1 from rfl, numH, if_neg hn', e1, e2, numH_fuel 9 (9 + 1) n (by omega) (by omega)]
        rw [ih, e3]; simp

theorem rdNum_form {bs : List Int} {m : Nat} {rest : List Int} (hb : ∀ c ∈ bs, 0 ≤ c ∧ c < 256) (h : rdNum bs = some (m, rest)) : numF m ++ rest = bs := by
  rw [rdNum] at h
  by_cases h1 : bs.head? = some 128
  · rw [if_pos h1] at h; cases h
  · rw [if_neg h1] at h
    have := rdN_form bs 10 0 m rest hb (fun _ => h1) h
    rw [this]
    have e : numH 10 0 = [] := by simp [numH]
    rw [e]; rfl

theorem rdTxt_form {bs : List Int} {most : Nat} {tx rest : List Int} (hb : ∀ c ∈ bs, 0 ≤ c ∧ c < 256) (h : rdTxt most bs = .ok (tx, rest)) : txtF tx ++ rest = bs ∧ tx.length ≤ most := by
  rw [rdTxt] at h
  split at h
  · cases h
  · rename_i m r1 hm
    by_cases h1 : most < m
    · rw [if_pos h1] at h; cases h
    · rw [if_neg h1] at h
      by_cases h2 : r1.length < m
      · rw [if_pos h2] at h; cases h
      · rw [if_neg h2] at h
        simp only [Except.ok.injEq, Prod.mk.injEq] at h
        obtain ⟨rfl, rfl⟩ := h
        have e : (r1.take m).length = m := by simp; omega
        refine ⟨?_, by omega⟩
        rw [txtF, e, List.append_assoc, List.take_append_drop]
        exact rdNum_form hb hm

theorem rdNum_shorter {bs : List Int} {m : Nat} {rest : List Int} (hb : ∀ c ∈ bs, 0 ≤ c ∧ c < 256) (h : rdNum bs = some (m, rest)) : rest.length ≤ bs.length ∧ bs.take (bs.length - rest.length) = numF m := by
  have h1 := rdNum_form hb h
  rw [← h1]
  simp

theorem rdTxt_shorter {bs : List Int} {most : Nat} {tx rest : List Int} (hb : ∀ c ∈ bs, 0 ≤ c ∧ c < 256) (h : rdTxt most bs = .ok (tx, rest)) : rest.length ≤ bs.length ∧ bs.take (bs.length - rest.length) = txtF tx := by
  have h1 := (rdTxt_form hb h).1
  rw [← h1]
  simp

/-- Open, and that the copy lies in new memory -/
def Far (w : World) (b L : Nat) : Prop := ∀ p n c a, w.cell? ⟨b, 0, none⟩ = some (.slice p n c) → p = some a → L ≤ a.block

/-- another reader's work leaves a reader as it was -/
theorem Rd.other {w w' : World} {b b1 : Nat} {bs : List Int} {x : Int} (h : Rd A w b bs x) (hg : w.grownBy w' (some b1)) (hne : b1 ≠ b) (hf : Far w b (b1 + 1)) : Rd A w' b bs x := by
  have hlt := h.lt
  obtain ⟨p, cap, h0, h1, f0, f1, hl, hm, hs, hb, hn⟩ := h
  have hk : some b ≠ some b1 := fun e => hne (by simpa using e.symm)
  have hblk := hg.block b hlt hk
  refine ⟨p, cap, (World.cell?_of_block (w := w) hblk).trans h0, (World.cell?_of_block (w := w) hblk).trans h1, (World.frozen?_of_block (w := w) hblk).trans f0, (World.frozen?_of_block (w := w) hblk).trans f1, hl, hm, hs, bytes_kept hb hg ?_, hn⟩
  intro a ha e
  have := hf p _ _ a h0 ha
  simp at e
  omega

/-- whoever writes elsewhere leaves a reader as it was -/
theorem Rd.apart {w w' : World} {b b1 : Nat} {bs : List Int} {x : Int} (h : Rd A w b bs x) (hg : w.grownBy w' (some b1)) (hne : b1 ≠ b) (hA : ∀ k, A k → k ≠ b1) : Rd A w' b bs x := by
  have hlt := h.lt
  obtain ⟨p, cap, h0, h1, f0, f1, hl, hm, hs, hb, hn⟩ := h
  have hk : some b ≠ some b1 := fun e => hne (by simpa using e.symm)
  have hblk := hg.block b hlt hk
  refine ⟨p, cap, (World.cell?_of_block (w := w) hblk).trans h0, (World.cell?_of_block (w := w) hblk).trans h1, (World.frozen?_of_block (w := w) hblk).trans f0, (World.frozen?_of_block (w := w) hblk).trans f1, hl, hm, hs, bytes_kept hb hg ?_, hn⟩
  intro a ha e
  simp at e
  exact hA _ (hn a ha).1 e

def sNum (bs : List Int) (x : Int) : Nat × List Int × Int :=
  if x = 0 then match rdNum bs with
    | none => (0, bs, 4)
    | some (m, r) => (m, r, 0)
  else (0, bs, x)

def sTxt (most : Int) (bs : List Int) (x : Int) : List Int × List Int × Int :=
  if x = 0 then match rdTxt most.toNat bs with
    | .error e => ([], bs, e)
    | .ok (t, r) => (t, r, 0)
  else ([], bs, x)

def sRest (bs : List Int) (x : Int) : List Int × List Int × Int := if x = 0 then (bs, [], 0) else ([], bs, x)


theorem rfix_any (b : Nat) (s : Int) (bs : List Int) (x : Int) (w : World) (hr : Rd A w b bs x) :
    Calls Tryd.prog 38 #[.pointer (some ⟨b, 0, none⟩), .int .i64 s] w fun e w' => e = .returned (.int .u64 ((sFix s bs x).1 : Nat)) ∧ Rd A w' b (sFix s bs x).2.1 (sFix s bs x).2.2 ∧ w.grownBy w' (some b) := by
  by_cases hx : x = 0
  · subst hx
    refine (rfix_ok b bs s w hr).mono ?_
    rintro e w' ⟨m, bs', x, rfl, hrd, hg, ⟨hn, rfl, rfl, rfl⟩ | ⟨hn, rfl, rfl, rfl⟩⟩
    · have e1 : sFix s bs' 0 = (0, bs', 4) := by rw [sFix, if_pos rfl, if_neg hn]
      rw [e1]; exact ⟨rfl, hrd, hg⟩
    · have e1 : sFix s bs 0 = (valF (bs.take s.toNat), bs.drop s.toNat, 0) := by rw [sFix, if_pos rfl, if_pos hn]
      rw [e1]; exact ⟨rfl, hrd, hg⟩
  · have e1 : sFix s bs x = (0, bs, x) := by rw [sFix, if_neg hx]
    rw [e1]
    obtain ⟨p, cap, _, h1, _⟩ := id hr
    refine (rfix_err b s x w h1 hx).mono ?_
    rintro e w' ⟨rfl, rfl⟩
    exact ⟨rfl, hr, grown_refl _ _⟩


theorem rest_any (b : Nat) (bs : List Int) (x : Int) (w : World) (hr : Rd A w b bs x) :
    Calls Tryd.prog 44 #[.pointer (some ⟨b, 0, none⟩)] w fun e w' => ∃ v, e = .returned v ∧ w'.ownsRow w.heap.size 5 1 v (sRest bs x).1.length ((sRest bs x).1.map (Value.int .u8)) ∧ Rd A w' b (sRest bs x).2.1 (sRest bs x).2.2 ∧ w.grownBy w' (some b) := by
  by_cases hx : x = 0
  · subst hx
    have e1 : sRest bs 0 = (bs, [], 0) := by rw [sRest, if_pos rfl]
    rw [e1]
    exact rest_ok b bs w hr
  · have e1 : sRest bs x = ([], bs, x) := by rw [sRest, if_neg hx]
    rw [e1]
    refine (rest_err b bs x w hr hx).mono ?_
    rintro e w' ⟨rfl, rfl⟩
    exact ⟨_, rfl, World.ownsRow_nil _ _ _ _, hr, grown_refl _ _⟩

theorem err_rd (b : Nat) (bs : List Int) (x : Int) (w : World) (hr : Rd A w b bs x) :
    Calls Tryd.prog 45 #[.pointer (some ⟨b, 0, none⟩)] w fun e w' => e = .returned (.int .i64 x) ∧ w' = w := by
  obtain ⟨p, cap, _, h1, _⟩ := hr
  exact err_at b x w h1

theorem left_rd (b : Nat) (bs : List Int) (x : Int) (w : World) (hr : Rd A w b bs x) :
    Calls Tryd.prog 58 #[.pointer (some ⟨b, 0, none⟩)] w fun e w' => e = .returned (.int .i64 bs.length) ∧ w' = w := by
  obtain ⟨p, cap, h0, _⟩ := hr
  exact left_at b p _ cap w h0

theorem Rd.bytes {w : World} {b : Nat} {bs : List Int} {x : Int} (h : Rd A w b bs x) : ∀ c ∈ bs, 0 ≤ c ∧ c < 256 := by
  obtain ⟨p, cap, _, _, _, _, _, _, _, hb, _⟩ := h
  exact hb.1

theorem rdN_high : ∀ (bs : List Int) (k n : Nat), (∀ c ∈ bs, 128 ≤ c) → rdN bs k n = none
  | [], k, n, _ => by cases k <;> rfl
  | _ :: _, 0, n, _ => rfl
  | c :: r, k + 1, n, h => by
    have hc := h c (by simp)
    rw [rdN]
    by_cases hb : 144115188075855871 < n
    · rw [if_pos hb]
    · rw [if_neg hb, if_neg (by omega)]
      exact rdN_high r k _ (fun x hx => h x (List.mem_cons_of_mem _ hx))

/-- a number's form that is cut is none -/
theorem rdNum_cut (n c : Nat) (hc : c < (numF n).length) : rdNum ((numF n).take c) = none := by
  have e : (numF n).take c = (numH 10 (n / 128)).take c := by
    rw [numF, List.take_append_of_le_length]
    simp [numF] at hc; omega
  rw [e, rdNum]
  split
  · rfl
  · exact rdN_high _ _ _ (fun x hx => (numH_bytes 10 (n / 128) x (List.mem_of_mem_take hx)).1)

theorem sNum_form (n : Nat) (hn : n < 18446744073709551616) (r : List Int) : sNum (numF n ++ r) 0 = (n, r, 0) := by
  rw [sNum, if_pos rfl, rdNum_numF n hn]

theorem sFix_form (m : Nat) (hm : m < 18446744073709551616) (r : List Int) : sFix 8 (fixF 8 m ++ r) 0 = (m, r, 0) := by
  have hl := fixF_length 8 m
  rw [sFix, if_pos rfl, if_pos ⟨by decide, by decide, by rw [List.length_append, hl]; omega⟩]
  have e : (8 : Int).toNat = 8 := rfl
  rw [e, List.take_append_of_le_length (by omega), List.drop_append_of_le_length (by omega), List.drop_of_length_le (by omega)]
  have e2 : valF ((fixF 8 m).take 8) = m := by
    rw [List.take_of_length_le (by omega), valF]
    have key : ∀ (s n a : Nat), (fixF s n).foldl (fun a c => a * 256 + c.toNat) a = a * 256 ^ s + n % 256 ^ s := by
      intro s n
      induction s with
      | zero => intro a; simp [fixF, Nat.mod_one]
      | succ s ih =>
        intro a
        rw [fixF, List.foldl_cons, ih, Nat.mod_pow_succ, Nat.pow_succ]
        simp only [Int.toNat_natCast]
        rw [Nat.add_mul, Nat.mul_assoc, Nat.mul_comm 256 (256 ^ s), Nat.mul_comm (n / 256 ^ s % 256)]
        omega
    rw [key]
    have : (256 : Nat) ^ 8 = 18446744073709551616 := by decide
    omega
  rw [e2]; simp

theorem rdTxt_txtF (s r : List Int) (hs : s.length < 18446744073709551616) : rdTxt s.length (txtF s ++ r) = .ok (s, r) := by
  rw [txtF, List.append_assoc, rdTxt, rdNum_numF _ hs]
  simp

theorem sTxt_form (s r : List Int) (hs : s.length < 18446744073709551616) : sTxt (s.length : Int) (txtF s ++ r) 0 = (s, r, 0) := by
  rw [sTxt, if_pos rfl, Int.toNat_natCast, rdTxt_txtF s r hs]

end Go.Proofs.YtbmjlofehbbkbaaDoor
