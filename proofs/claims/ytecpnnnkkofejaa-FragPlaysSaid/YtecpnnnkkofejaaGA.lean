/-
  Plain: pieces, their forms, what stands against them, how they are read.
-/
import Derived.Test.YtecpnnnkkofejaaYC
import Derived.Test.YtecpnnnkkofejaaBE
namespace Go.Proofs.Ytecpnnnkkofejaa
open Go.RowKit

/-- a number's form -/
def nmF (n : Nat) : List Nat := (numF n).map Int.toNat
theorem nm_ofNat (n : Nat) : (nmF n).map Int.ofNat = numF n := by
  rw [nmF, List.map_map]
  conv => rhs; rw [← List.map_id (numF n)]
  apply List.map_congr_left
  intro x hx
  have := numF_bytes n x hx
  exact Int.toNat_of_nonneg (by omega)
theorem nm_u8s (n : Nat) : (numF n).map (Value.int .u8) = u8s (nmF n) := by
  rw [← nm_ofNat n, u8s, List.map_map]
  rfl
theorem nm_length (n : Nat) : (nmF n).length = (numF n).length := by simp [nmF]
theorem nm_short (n : Nat) : (nmF n).length ≤ 11 := by
  rw [nm_length, numF, List.length_append]
  have := numH_length 10 (n / 128)
  simp; omega
theorem nm_bytes (n : Nat) : BytesN (nmF n) := fun x hx => by
  obtain ⟨y, hy, rfl⟩ := List.mem_map.1 hx
  have := numF_bytes n y hy
  omega

/-- a piece -/
structure Pc where
  i : Nat
  a : Int
  l : Bool
  b : List Nat
def Pc.none : Pc := ⟨0, 0, false, []⟩
/-- what stands against it -/
def Pc.e (x : Pc) : Int := if x.a < 0 ∨ 255 < x.a then 2 else if 1100 < x.b.length then 3 else 0
/-- its second number -/
def Pc.n (x : Pc) : Nat := 2 * x.a.toNat + if x.l then 1 else 0
/-- its form -/
def Pc.form (x : Pc) : List Nat := (nmF x.i ++ nmF x.n) ++ x.b
/-- what is read -/
def pcRead (b : List Nat) : Pc × Int :=
  match rdNum (b.map Int.ofNat) with
  | none => (Pc.none, 4)
  | some (i, r) => match rdNum r with
    | none => (Pc.none, 4)
    | some (n, q) => if 511 < n ∨ 1100 < q.length then (Pc.none, 4) else (⟨i, ((n / 2 : Nat) : Int), decide (n % 2 = 1), q.map Int.toNat⟩, 0)

theorem Pc.e_zero {x : Pc} (h : x.e = 0) : 0 ≤ x.a ∧ x.a ≤ 255 ∧ x.b.length ≤ 1100 := by
  unfold Pc.e at h
  by_cases h1 : x.a < 0 ∨ 255 < x.a
  · rw [if_pos h1] at h; omega
  · rw [if_neg h1] at h
    by_cases h2 : 1100 < x.b.length
    · rw [if_pos h2] at h; omega
    · omega
theorem toNat_ofNat (b : List Nat) : (b.map Int.ofNat).map Int.toNat = b := by
  rw [List.map_map]
  conv => rhs; rw [← List.map_id b]
  apply List.map_congr_left
  intro x _
  rfl
/-- what was formed is read again -/
theorem read_form (x : Pc) (h : x.e = 0) (hi : x.i < 18446744073709551616) : pcRead x.form = (x, 0) := by
  obtain ⟨h1, h2, h3⟩ := Pc.e_zero h
  have hn : x.n ≤ 511 := by unfold Pc.n; split <;> omega
  have e : x.form.map Int.ofNat = numF x.i ++ (numF x.n ++ x.b.map Int.ofNat) := by
    rw [Pc.form, List.map_append, List.map_append, nm_ofNat, nm_ofNat, List.append_assoc]
  rw [pcRead, e, rdNum_numF x.i hi]
  simp only
  rw [rdNum_numF x.n (by omega)]
  simp only
  rw [if_neg (by rw [List.length_map]; omega), toNat_ofNat]
  obtain ⟨i, a, l, b⟩ := x
  simp only [Pc.n] at h1 h2 ⊢
  cases l
  · simp; omega
  · simp; omega

/-- a piece as it lies in memory -/
abbrev pcC (x : Pc) (p : Option Addr) (c : Nat) : List Value := [.int .u64 (x.i : Int), .int .i64 x.a, .bool x.l, .slice p x.b.length c]
abbrev pcV (x : Pc) (p : Option Addr) (c : Nat) : Value := .agg #[.int .u64 (x.i : Int), .int .i64 x.a, .bool x.l, .slice p x.b.length c]
theorem infoPc : (Try.prog.info? 25).map (·.size) = some 4 := by kernel_rfl
theorem one_pcC (x : Pc) (p : Option Addr) (c : Nat) : (pcC x p c).toArray.all (·.oneCell') = true := by simp [Value.oneCell']

end Go.Proofs.Ytecpnnnkkofejaa
