/-
  A walk: the reference's rounds of a key.
-/
import Derived.Test.YtflakgigekfgcaaRB
import Derived.Test.YtflakgigekfgcaaEH
namespace Go.Proofs.Ytflakgigekfgcaa
open Go.RowKit

theorem zero44 (v : World) : (zeroValue 63).run Try.prog v = .ok (.agg (u8s z176).toArray) v := by kernel_rfl
theorem part_zero176 (T : List Nat) : part T 176 0 = z176 := by rw [part, List.take_zero, List.nil_append, z176]

/-- what lies in memory while columns are made -/
structure StC (w wr : World) (key s C : List Nat) : Prop where
  k : Arr wr w.heap.size 22 (u8s key)
  t : Arr wr (w.heap.size + 1) 52 (u8s s)
  r : Arr wr (w.heap.size + 1 + 1) 54 (u8s z176)
  c : Arr wr (w.heap.size + 1 + 1 + 1) 63 (u8s C)
  b : Below w.heap.size w wr
theorem StC.set {w wr : World} {key s C : List Nat} (r : StC w wr key s C) (i x : Nat) : StC w (wr.setCell ⟨w.heap.size + 1 + 1 + 1, i, none⟩ (.int .u8 ((x : Nat) : Int))) key s (C.set i x) := by
  obtain ⟨h0, h1, h2, h3, h4⟩ := r
  refine ⟨h0.other _ _ (show w.heap.size ≠ w.heap.size + 1 + 1 + 1 by omega), h1.other _ _ (show w.heap.size + 1 ≠ w.heap.size + 1 + 1 + 1 by omega), h2.other _ _ (show w.heap.size + 1 + 1 ≠ w.heap.size + 1 + 1 + 1 by omega), ?_, h4.setCell (show w.heap.size ≤ w.heap.size + 1 + 1 + 1 by omega) _⟩
  have := h3.set i (.int .u8 ((x : Nat) : Int))
  rw [u8s_set] at this
  exact this
theorem StC.drew {w wr : World} {key s C : List Nat} (r : StC w wr key s C) : StC w wr.drew key s C := ⟨r.k, r.t, r.r, r.c, r.b.drew⟩
theorem StC.atC {w wr : World} {key s C : List Nat} (r : StC w wr key s C) {i : Nat} (hi : i < C.length) : wr.cell? ⟨w.heap.size + 1 + 1 + 1, i, none⟩ = some (.int .u8 ((C.getD i 0 : Nat) : Int)) := (r.c.cell i).trans (u8s_at hi)

/-- .. the key alone; the table, and the columns that are done -/
def StK (w v : World) (key : List Nat) : Prop := Arr v w.heap.size 22 (u8s key)
def StO (w v : World) (s T : List Nat) (n : Nat) : Prop := Arr v (w.heap.size + 1) 52 (u8s s) ∧ ∀ j, j < n → v.cell? ⟨w.heap.size + 1 + 1 + 1, j, none⟩ = some (.int .u8 ((T.getD j 0 : Nat) : Int))
theorem set_ne (l : List Nat) (i j x : Nat) (h : i ≠ j) : (l.set i x).getD j 0 = l.getD j 0 := by simp [List.getD, List.getElem?_set_ne h]
theorem StC.out {w wr : World} {key s C : List Nat} (r : StC w wr key s C) {g : Nat} (hg : w.heap.size + 1 + 1 + 1 < g) (i x : Nat) : StC w (wr.setCell ⟨g, i, none⟩ (.int .u8 ((x : Nat) : Int))) key s C :=
  ⟨r.k.other _ _ (show w.heap.size ≠ g by omega), r.t.other _ _ (show w.heap.size + 1 ≠ g by omega), r.r.other _ _ (show w.heap.size + 1 + 1 ≠ g by omega), r.c.other _ _ (show w.heap.size + 1 + 1 + 1 ≠ g by omega), r.b.setCell (show w.heap.size ≤ g by omega) _⟩

/-- what the walk wants to know of the columns -/
structure Cols (key s T : List Nat) (W : Nat → List Nat) (PW : Nat → Nat) : Prop where
  tl : T.length = 176
  tb : ∀ j, T.getD j 0 < 256
  wl : ∀ i, (W i).length = 176
  wb : ∀ i j, (W i).getD j 0 < 256
  first : ∀ i, part T 176 (i * 4) = part (W i) 176 (i * 4)
  old : ∀ i j, j < i * 4 → (W i).getD j 0 = T.getD j 0
  v0 : ∀ i k, i < 4 → k < 4 → (W i).getD (i * 4 + k) 0 = key.getD (4 * i + k) 0
  v4 : ∀ i k, 4 ≤ i → i < 44 → k < 4 → i % 4 = 0 → (W i).getD (i * 4 + k) 0 = T.getD ((i - 4) * 4 + k) 0 ^^^ s.getD (T.getD ((i - 1) * 4 + (k + 1) % 4) 0) 0
  v1 : ∀ i k, 4 ≤ i → i < 44 → k < 4 → i % 4 ≠ 0 → (W i).getD (i * 4 + k) 0 = T.getD ((i - 4) * 4 + k) 0 ^^^ T.getD ((i - 1) * 4 + k) 0
  last : ∀ i, i < 44 → ¬ (4 ≤ i ∧ i % 4 = 0) → part (W i) 176 (i * 4 + 4) = part T 176 ((i + 1) * 4)
  lastP : ∀ i, 4 ≤ i → i < 44 → i % 4 = 0 → (part (W i) 176 (i * 4 + 4)).set (i * 4) ((W i).getD (i * 4) 0 ^^^ PW i) = part T 176 ((i + 1) * 4)
  p0 : PW 0 = 1
  pb : ∀ i, PW i < 256
  pn : ∀ i, ¬ (4 ≤ i ∧ i % 4 = 0) → PW (i + 1) = PW i
  pp : ∀ i, 4 ≤ i → i % 4 = 0 → PW (i + 1) = tmF (PW i) 2

set_option maxHeartbeats 16000000 in
set_option maxRecDepth 100000 in
theorem rrounds_of (key s T : List Nat) (W : Nat → List Nat) (PW : Nat → Nat) (w : World) (kl : key.length = 16) (sl : s.length = 256) (hs : ∀ i, s.getD i 0 < 256) (hC : Cols key s T W PW) :
    Calls Try.prog 22 #[.agg (u8s key).toArray, .agg (u8s s).toArray] w fun e w' => e = .returned (.agg (u8s T).toArray) ∧ Below w.heap.size w w' := by
  have KL := hide kl
  have SL := hide sl
  have HS := hide hs
  have HC := hide hC
  have Z1 := zero44
  have Z2 := zero176
  clear kl sl hs hC
  go_enter Try.func22, Try.ntmps22
  go_wp2
  go_loopg [6, 7] 45 (fun f0 s6 s7 wr => ∃ (i p : Nat), s6 = .int .u8 p ∧ s7 = .int .i64 i ∧ i ≤ 44 ∧ 44 - i < f0 ∧ Hid (p = PW i) ∧ Hid (StC w wr key s (part T 176 (i * 4))))
  case atStart =>
    refine ⟨0, 1, rfl, rfl, by omega, by omega, HC.out.p0.symm, ?_⟩
    rw [Nat.zero_mul, part_zero176]
    exact ⟨(((Arr.new w _ (u8s key)).alloc _).alloc _).alloc _, ((Arr.newAt (w.alloc _) _ (u8s s) _ (by simp)).alloc _).alloc _, (Arr.newAt ((w.alloc _).alloc _) _ (u8s z176) _ (by simp)).alloc _, Arr.newAt (((w.alloc _).alloc _).alloc _) _ (u8s z176) _ (by simp), ((((Below.refl _ _).alloc (Nat.le_refl _) _).alloc (by simp) _).alloc (by simp; omega) _).alloc (by simp; omega) _⟩
  case round =>
    obtain ⟨i, p, rfl, rfl, hi, hf, HP, HR⟩ := hrel
    by_cases hlt : i < 44
    · have hi44 : (i : Int) < 44 := by omega
      rw [HC.out.first i] at HR
      go_wp2
      go_loopg [8] 5 (fun f0 s8 wr' => ∃ (k : Nat), s8 = .int .i64 k ∧ k ≤ 4 ∧ 4 - k < f0 ∧ Hid (StC w wr' key s (part (W i) 176 (i * 4 + k))))
      case atStart => exact ⟨0, rfl, by omega, by omega, HR⟩
      case round =>
        clear HR
        obtain ⟨k, rfl, hk, hf2, HR⟩ := hrel
        by_cases hk4 : k < 4
        · have hk4' : (k : Int) < 4 := by omega
          have hW := hide (HC.out.wl i)
          have fw := HR.out.c.frozen (i * 4 + k)
          have HN := hide (part_set (W i) 176 (i * 4 + k) hW.out (by omega))
          have hc := HR.out.atC (i := i * 4 + k) (by rw [part_length _ _ _ hW.out (by omega)]; omega)
          generalize (part (W i) 176 (i * 4 + k)).getD (i * 4 + k) 0 = old at *
          by_cases hi4 : i < 4
          · have hi4' : (i : Int) < 4 := by omega
            obtain ⟨p4, hp4⟩ : ∃ p4, p4 = 4 * i := ⟨_, rfl⟩
            obtain ⟨pk, hpk⟩ : ∃ pk, pk = p4 + k := ⟨_, rfl⟩
            have q1 : (4 : Int) * (i : Int) = (p4 : Int) := by omega
            have q2 : (p4 : Int) + (k : Int) = (pk : Int) := by omega
            have q3 : IntKind.i64.wrap (p4 : Int) = (p4 : Int) := by simp [IntKind.wrap, IntKind.bits, IntKind.signed]; omega
            have q4 : IntKind.i64.wrap (pk : Int) = (pk : Int) := by simp [IntKind.wrap, IntKind.bits, IntKind.signed]; omega
            have q5 : (pk : Int) < 16 := by omega
            have HV : Hid ((W i).getD (i * 4 + k) 0 = key.getD pk 0) := by show _ = _; rw [HC.out.v0 i k hi4 hk4, hpk, hp4]
            have LK : Hid (∀ v : World, Hid (StK w v key) → v.cell? ⟨w.heap.size, pk, none⟩ = some (.int .u8 ((key.getD pk 0 : Nat) : Int))) := fun v h => (Arr.cell h.out pk).trans (u8s_at (by rw [KL.out]; omega))
            clear hp4 hpk
            rw [HV.out] at HN
            generalize key.getD pk 0 = y at *
            have KS : Hid (∀ (v : World) (x : Nat), StC w v key s ((part (W i) 176 (i * 4 + k)).set (i * 4 + k) x) → Hid (StK w v key)) := fun v x h => h.k
            go_wp2_with fail
            refine wp_region_held_drew (S := fun v => Hid (StK w v key)) (by kernel_rfl) (hide HR.out.k) (fun hHeld => ?_)
            refine take_dstH (i := 0) (d := 39) (v := ?_) rfl rfl (by kernel_rfl) (by kernel_rfl) (by kernel_rfl) (fun _ _ _ h => h) (by rfl) hHeld ?_ ?_
            rotate_left
            · intro wZ hSw; clear hSw; go_simp; first | (with_reducible rfl) | (rw [if_pos (by omega)]; with_reducible rfl) | skip
            try simp only [Act.put, List.setIfInBounds_toArray, List.set_cons_zero, List.set_cons_succ]
            refine take_dstH (i := 1) (d := 40) (v := ?_) rfl rfl (by kernel_rfl) (by kernel_rfl) (by kernel_rfl) (fun _ _ _ h => h) (by rfl) hHeld ?_ ?_
            rotate_left
            · intro wZ hSw; clear hSw; go_simp; first | (with_reducible rfl) | (rw [if_pos (by omega)]; with_reducible rfl) | skip
            try simp only [Act.put, List.setIfInBounds_toArray, List.set_cons_zero, List.set_cons_succ]
            refine take_dstH (i := 2) (d := 41) (v := ?_) rfl rfl (by kernel_rfl) (by kernel_rfl) (by kernel_rfl) (fun _ _ _ h => h) (by rfl) hHeld ?_ ?_
            rotate_left
            · intro wZ hSw; clear hSw; go_simp; first | (with_reducible rfl) | (rw [if_pos (by omega)]; with_reducible rfl) | skip
            try simp only [Act.put, List.setIfInBounds_toArray, List.set_cons_zero, List.set_cons_succ]
            refine take_dstH (i := 3) (d := 42) (v := ?_) rfl rfl (by kernel_rfl) (by kernel_rfl) (by kernel_rfl) (fun _ _ _ h => h) (by rfl) hHeld ?_ ?_
            rotate_left
            · intro wZ hSw; clear hSw; go_simp; first | (with_reducible rfl) | (rw [if_pos (by omega)]; with_reducible rfl) | skip
            try simp only [Act.put, List.setIfInBounds_toArray, List.set_cons_zero, List.set_cons_succ]
            refine take_dstH (i := 4) (d := 43) (v := ?_) rfl rfl (by kernel_rfl) (by kernel_rfl) (by kernel_rfl) (fun _ _ _ h => h) (by rfl) hHeld ?_ ?_
            rotate_left
            · intro wZ hSw; clear hSw; go_simp; first | (with_reducible rfl) | (rw [if_pos (by omega)]; with_reducible rfl) | skip
            try simp only [Act.put, List.setIfInBounds_toArray, List.set_cons_zero, List.set_cons_succ]
            refine take_dstH (i := 5) (d := 44) (v := ?_) rfl rfl (by kernel_rfl) (by kernel_rfl) (by kernel_rfl) (fun _ _ _ h => h) (by rfl) hHeld ?_ ?_
            rotate_left
            · intro wZ hSw; clear hSw; go_simp; first | (with_reducible rfl) | (rw [if_pos (by omega)]; with_reducible rfl) | skip
            try simp only [Act.put, List.setIfInBounds_toArray, List.set_cons_zero, List.set_cons_succ]
            refine take_dstH (i := 6) (d := 45) (v := ?_) rfl rfl (by kernel_rfl) (by kernel_rfl) (by kernel_rfl) (fun _ _ _ h => h) (by rfl) hHeld ?_ ?_
            rotate_left
            · intro wZ hSw; clear hSw; go_simp; first | (with_reducible rfl) | (rw [if_pos (by omega)]; with_reducible rfl) | skip
            try simp only [Act.put, List.setIfInBounds_toArray, List.set_cons_zero, List.set_cons_succ]
            refine take_dstH (i := 7) (d := 46) (v := ?_) rfl rfl (by kernel_rfl) (by kernel_rfl) (by kernel_rfl) (fun _ _ _ h => h) (by rfl) hHeld ?_ ?_
            rotate_left
            · intro wZ hSw; have hfS := LK.out wZ hSw; clear hSw; go_simp; first | (with_reducible rfl) | (rw [if_pos (by omega)]; with_reducible rfl) | skip
            try simp only [Act.put, List.setIfInBounds_toArray, List.set_cons_zero, List.set_cons_succ]
            refine take_dstH (i := 8) (d := 47) (v := ?_) rfl rfl (by kernel_rfl) (by kernel_rfl) (by kernel_rfl) (fun _ _ _ h => h) (by rfl) hHeld ?_ ?_
            rotate_left
            · intro wZ hSw; clear hSw; go_simp; first | (with_reducible rfl) | (rw [if_pos (by omega)]; with_reducible rfl) | skip
            try simp only [Act.put, List.setIfInBounds_toArray, List.set_cons_zero, List.set_cons_succ]
            refine take_dstH (i := 9) (d := 48) (v := ?_) rfl rfl (by kernel_rfl) (by kernel_rfl) (by kernel_rfl) (fun _ _ _ h => h) (by rfl) hHeld ?_ ?_
            rotate_left
            · intro wZ hSw; clear hSw; go_simp; first | (with_reducible rfl) | (rw [if_pos (by omega)]; with_reducible rfl) | skip
            try simp only [Act.put, List.setIfInBounds_toArray, List.set_cons_zero, List.set_cons_succ]
            refine wpAnyH_ready (rs := [10]) (by kernel_rfl) (by simp) ?_
            refine (AllReadyH.cons rfl (fun K hK => ?_) AllReadyH.nil)
            go_simp
            refine hK.out _ _ ?_ (fun hHeld => ?_)
            · exact KS.out _ _ (HR.out.drew.set (i * 4 + k) _)
            clear hK K
            try simp only [Act.put, List.setIfInBounds_toArray, List.set_cons_zero, List.set_cons_succ]
            refine wpAnyH_done (by kernel_rfl) ?_ _
            clear hHeld
            go_wp2
            go_roundg (4 - k)
            case measure => omega
            case rel =>
              refine ⟨k + 1, by go_num, by omega, by omega, ?_⟩
              have := (HR.out.set (i * 4 + k) y).drew
              rw [HN.out] at this
              exact this
          · have hi4' : ¬ (i : Int) < 4 := by omega
            obtain ⟨m, hm⟩ : ∃ m, m = i - 4 := ⟨_, rfl⟩
            obtain ⟨n, hn⟩ : ∃ n, n = i - 1 := ⟨_, rfl⟩
            have m1 : (i : Int) - 4 = (m : Int) := by omega
            have m2 : IntKind.i64.wrap (m : Int) = (m : Int) := by simp [IntKind.wrap, IntKind.bits, IntKind.signed]; omega
            have m3 : (m : Int) < 44 := by omega
            have n1 : (i : Int) - 1 = (n : Int) := by omega
            have n2 : IntKind.i64.wrap (n : Int) = (n : Int) := by simp [IntKind.wrap, IntKind.bits, IntKind.signed]; omega
            have n3 : (n : Int) < 44 := by omega
            have OLD : Hid (∀ (v : World) (x : Nat), StC w v key s ((part (W i) 176 (i * 4 + k)).set (i * 4 + k) x) → Hid (StO w v s T (i * 4))) := fun v x h => ⟨h.t, fun j hj => by
              rw [h.atC (i := j) (by rw [List.length_set, part_length _ _ _ hW.out (by omega)]; omega), set_ne _ _ _ _ (by omega), part_get' _ _ _ _ hW.out (by omega) (by omega), HC.out.old i j hj]⟩
            have OLD0 : Hid (StO w wr s T (i * 4)) := ⟨HR.out.t, fun j hj => by
              rw [HR.out.atC (i := j) (by rw [part_length _ _ _ hW.out (by omega)]; omega), part_get' _ _ _ _ hW.out (by omega) (by omega), HC.out.old i j hj]⟩
            have b1 := HC.out.tb (m * 4 + k)
            have C1 : Hid (∀ v : World, Hid (StO w v s T (i * 4)) → v.cell? ⟨w.heap.size + 1 + 1 + 1, m * 4 + k, none⟩ = some (.int .u8 ((T.getD (m * 4 + k) 0 : Nat) : Int))) := fun v h => h.out.2 (m * 4 + k) (by omega)
            by_cases hi0 : i % 4 = 0
            · have r0 : Int.tmod (i : Int) 4 = 0 := by rw [Int.tmod_eq_emod_of_nonneg (by omega)]; omega
              have r1 : (i : Int) % 4 = 0 := by omega
              obtain ⟨k1, hk1⟩ : ∃ k1, k1 = k + 1 := ⟨_, rfl⟩
              obtain ⟨q, hq⟩ : ∃ q, q = (k + 1) % 4 := ⟨_, rfl⟩
              have q0 : (k : Int) + 1 = (k1 : Int) := by omega
              have q0' : IntKind.i64.wrap (k1 : Int) = (k1 : Int) := by simp [IntKind.wrap, IntKind.bits, IntKind.signed]; omega
              have q1 : Int.tmod (k1 : Int) 4 = (q : Int) := by rw [Int.tmod_eq_emod_of_nonneg (by omega)]; omega
              have q2 : (k1 : Int) % 4 = (q : Int) := by omega
              have q3 : (q : Int) < 4 := by omega
              have q4 : IntKind.i64.wrap (q : Int) = (q : Int) := by simp [IntKind.wrap, IntKind.bits, IntKind.signed]; omega
              have C2 : Hid (∀ v : World, Hid (StO w v s T (i * 4)) → v.cell? ⟨w.heap.size + 1 + 1 + 1, n * 4 + q, none⟩ = some (.int .u8 ((T.getD (n * 4 + q) 0 : Nat) : Int))) := fun v h => h.out.2 (n * 4 + q) (by omega)
              have b2 := HC.out.tb (n * 4 + q)
              have HV : Hid ((W i).getD (i * 4 + k) 0 = T.getD (m * 4 + k) 0 ^^^ s.getD (T.getD (n * 4 + q) 0) 0) := by show _ = _; rw [HC.out.v4 i k (by omega) hlt hk4 hi0, hm, hn, hq]
              generalize T.getD (n * 4 + q) 0 = x2 at *
              have x2b : (x2 : Int) < 256 := by omega
              have C3 : Hid (∀ v : World, Hid (StO w v s T (i * 4)) → v.cell? ⟨w.heap.size + 1, x2, none⟩ = some (.int .u8 ((s.getD x2 0 : Nat) : Int))) := fun v h => (h.out.1.cell x2).trans (u8s_at (by rw [SL.out]; omega))
              have b3 := HS.out x2
              have ex := u8_xor_nat _ _ b1 b3
              rw [HV.out] at HN
              generalize T.getD (m * 4 + k) 0 = x1 at *
              generalize s.getD x2 0 = x3 at *
              generalize x1 ^^^ x3 = y at *
              clear hm hn hq hk1 HV
              go_wp2_with fail
              refine wp_region_held_drew (S := fun v => Hid (StO w v s T (i * 4))) (by kernel_rfl) (hide OLD0.out) (fun hHeld => ?_)
              refine take_dstH (i := 0) (d := 53) (v := ?_) rfl rfl (by kernel_rfl) (by kernel_rfl) (by kernel_rfl) (fun _ _ _ h => h) (by rfl) hHeld ?_ ?_
              rotate_left
              · intro wZ hSw; clear hSw; go_simp; first | (with_reducible rfl) | (rw [if_pos (by omega)]; with_reducible rfl) | skip
              try simp only [Act.put, List.setIfInBounds_toArray, List.set_cons_zero, List.set_cons_succ]
              refine take_dstH (i := 1) (d := 54) (v := ?_) rfl rfl (by kernel_rfl) (by kernel_rfl) (by kernel_rfl) (fun _ _ _ h => h) (by rfl) hHeld ?_ ?_
              rotate_left
              · intro wZ hSw; clear hSw; go_simp; first | (with_reducible rfl) | (rw [if_pos (by omega)]; with_reducible rfl) | skip
              try simp only [Act.put, List.setIfInBounds_toArray, List.set_cons_zero, List.set_cons_succ]
              refine take_dstH (i := 2) (d := 55) (v := ?_) rfl rfl (by kernel_rfl) (by kernel_rfl) (by kernel_rfl) (fun _ _ _ h => h) (by rfl) hHeld ?_ ?_
              rotate_left
              · intro wZ hSw; clear hSw; go_simp; first | (with_reducible rfl) | (rw [if_pos (by omega)]; with_reducible rfl) | skip
              try simp only [Act.put, List.setIfInBounds_toArray, List.set_cons_zero, List.set_cons_succ]
              refine take_dstH (i := 3) (d := 56) (v := ?_) rfl rfl (by kernel_rfl) (by kernel_rfl) (by kernel_rfl) (fun _ _ _ h => h) (by rfl) hHeld ?_ ?_
              rotate_left
              · intro wZ hSw; clear hSw; go_simp; first | (with_reducible rfl) | (rw [if_pos (by omega)]; with_reducible rfl) | skip
              try simp only [Act.put, List.setIfInBounds_toArray, List.set_cons_zero, List.set_cons_succ]
              refine take_dstH (i := 4) (d := 57) (v := ?_) rfl rfl (by kernel_rfl) (by kernel_rfl) (by kernel_rfl) (fun _ _ _ h => h) (by rfl) hHeld ?_ ?_
              rotate_left
              · intro wZ hSw; clear hSw; go_simp; first | (with_reducible rfl) | (rw [if_pos (by omega)]; with_reducible rfl) | skip
              try simp only [Act.put, List.setIfInBounds_toArray, List.set_cons_zero, List.set_cons_succ]
              refine take_dstH (i := 5) (d := 58) (v := ?_) rfl rfl (by kernel_rfl) (by kernel_rfl) (by kernel_rfl) (fun _ _ _ h => h) (by rfl) hHeld ?_ ?_
              rotate_left
              · intro wZ hSw; clear hSw; go_simp; first | (with_reducible rfl) | (rw [if_pos (by omega)]; with_reducible rfl) | skip
              try simp only [Act.put, List.setIfInBounds_toArray, List.set_cons_zero, List.set_cons_succ]
              refine take_dstH (i := 6) (d := 59) (v := ?_) rfl rfl (by kernel_rfl) (by kernel_rfl) (by kernel_rfl) (fun _ _ _ h => h) (by rfl) hHeld ?_ ?_
              rotate_left
              · intro wZ hSw; clear hSw; go_simp; first | (with_reducible rfl) | (rw [if_pos (by omega)]; with_reducible rfl) | skip
              try simp only [Act.put, List.setIfInBounds_toArray, List.set_cons_zero, List.set_cons_succ]
              refine take_dstH (i := 7) (d := 60) (v := ?_) rfl rfl (by kernel_rfl) (by kernel_rfl) (by kernel_rfl) (fun _ _ _ h => h) (by rfl) hHeld ?_ ?_
              rotate_left
              · intro wZ hSw; have hfS := C1.out wZ hSw; clear hSw; go_simp; first | (with_reducible rfl) | (rw [if_pos (by omega)]; with_reducible rfl) | skip
              try simp only [Act.put, List.setIfInBounds_toArray, List.set_cons_zero, List.set_cons_succ]
              refine take_dstH (i := 8) (d := 61) (v := ?_) rfl rfl (by kernel_rfl) (by kernel_rfl) (by kernel_rfl) (fun _ _ _ h => h) (by rfl) hHeld ?_ ?_
              rotate_left
              · intro wZ hSw; clear hSw; go_simp; first | (with_reducible rfl) | (rw [if_pos (by omega)]; with_reducible rfl) | skip
              try simp only [Act.put, List.setIfInBounds_toArray, List.set_cons_zero, List.set_cons_succ]
              refine take_dstH (i := 9) (d := 62) (v := ?_) rfl rfl (by kernel_rfl) (by kernel_rfl) (by kernel_rfl) (fun _ _ _ h => h) (by rfl) hHeld ?_ ?_
              rotate_left
              · intro wZ hSw; clear hSw; go_simp; first | (with_reducible rfl) | (rw [if_pos (by omega)]; with_reducible rfl) | skip
              try simp only [Act.put, List.setIfInBounds_toArray, List.set_cons_zero, List.set_cons_succ]
              refine take_dstH (i := 10) (d := 63) (v := ?_) rfl rfl (by kernel_rfl) (by kernel_rfl) (by kernel_rfl) (fun _ _ _ h => h) (by rfl) hHeld ?_ ?_
              rotate_left
              · intro wZ hSw; clear hSw; go_simp; first | (with_reducible rfl) | (rw [if_pos (by omega)]; with_reducible rfl) | skip
              try simp only [Act.put, List.setIfInBounds_toArray, List.set_cons_zero, List.set_cons_succ]
              refine take_dstH (i := 11) (d := 64) (v := ?_) rfl rfl (by kernel_rfl) (by kernel_rfl) (by kernel_rfl) (fun _ _ _ h => h) (by rfl) hHeld ?_ ?_
              rotate_left
              · intro wZ hSw; clear hSw; go_simp; first | (with_reducible rfl) | (rw [if_pos (by omega)]; with_reducible rfl) | skip
              try simp only [Act.put, List.setIfInBounds_toArray, List.set_cons_zero, List.set_cons_succ]
              refine take_dstH (i := 12) (d := 65) (v := ?_) rfl rfl (by kernel_rfl) (by kernel_rfl) (by kernel_rfl) (fun _ _ _ h => h) (by rfl) hHeld ?_ ?_
              rotate_left
              · intro wZ hSw; clear hSw; go_simp; first | (with_reducible rfl) | (rw [if_pos (by omega)]; with_reducible rfl) | skip
              try simp only [Act.put, List.setIfInBounds_toArray, List.set_cons_zero, List.set_cons_succ]
              refine take_dstH (i := 13) (d := 66) (v := ?_) rfl rfl (by kernel_rfl) (by kernel_rfl) (by kernel_rfl) (fun _ _ _ h => h) (by rfl) hHeld ?_ ?_
              rotate_left
              · intro wZ hSw; clear hSw; go_simp; first | (with_reducible rfl) | (rw [if_pos (by omega)]; with_reducible rfl) | skip
              try simp only [Act.put, List.setIfInBounds_toArray, List.set_cons_zero, List.set_cons_succ]
              refine take_dstH (i := 14) (d := 67) (v := ?_) rfl rfl (by kernel_rfl) (by kernel_rfl) (by kernel_rfl) (fun _ _ _ h => h) (by rfl) hHeld ?_ ?_
              rotate_left
              · intro wZ hSw; clear hSw; go_simp; first | (with_reducible rfl) | (rw [if_pos (by omega)]; with_reducible rfl) | skip
              try simp only [Act.put, List.setIfInBounds_toArray, List.set_cons_zero, List.set_cons_succ]
              refine take_dstH (i := 15) (d := 68) (v := ?_) rfl rfl (by kernel_rfl) (by kernel_rfl) (by kernel_rfl) (fun _ _ _ h => h) (by rfl) hHeld ?_ ?_
              rotate_left
              · intro wZ hSw; have hfS := C2.out wZ hSw; clear hSw; go_simp; first | (with_reducible rfl) | (rw [if_pos (by omega)]; with_reducible rfl) | skip
              try simp only [Act.put, List.setIfInBounds_toArray, List.set_cons_zero, List.set_cons_succ]
              refine take_dstH (i := 16) (d := 69) (v := ?_) rfl rfl (by kernel_rfl) (by kernel_rfl) (by kernel_rfl) (fun _ _ _ h => h) (by rfl) hHeld ?_ ?_
              rotate_left
              · intro wZ hSw; clear hSw; go_simp; first | (with_reducible rfl) | (rw [if_pos (by omega)]; with_reducible rfl) | skip
              try simp only [Act.put, List.setIfInBounds_toArray, List.set_cons_zero, List.set_cons_succ]
              refine take_dstH (i := 17) (d := 70) (v := ?_) rfl rfl (by kernel_rfl) (by kernel_rfl) (by kernel_rfl) (fun _ _ _ h => h) (by rfl) hHeld ?_ ?_
              rotate_left
              · intro wZ hSw; have hfS := C3.out wZ hSw; clear hSw; go_simp; first | (with_reducible rfl) | (rw [if_pos (by omega)]; with_reducible rfl) | skip
              try simp only [Act.put, List.setIfInBounds_toArray, List.set_cons_zero, List.set_cons_succ]
              refine take_dstH (i := 18) (d := 71) (v := ?_) rfl rfl (by kernel_rfl) (by kernel_rfl) (by kernel_rfl) (fun _ _ _ h => h) (by rfl) hHeld ?_ ?_
              rotate_left
              · intro wZ hSw; clear hSw; go_simp; first | (with_reducible rfl) | (rw [if_pos (by omega)]; with_reducible rfl) | skip
              try simp only [Act.put, List.setIfInBounds_toArray, List.set_cons_zero, List.set_cons_succ]
              refine take_dstH (i := 19) (d := 72) (v := ?_) rfl rfl (by kernel_rfl) (by kernel_rfl) (by kernel_rfl) (fun _ _ _ h => h) (by rfl) hHeld ?_ ?_
              rotate_left
              · intro wZ hSw; clear hSw; go_simp; first | (with_reducible rfl) | (rw [if_pos (by omega)]; with_reducible rfl) | skip
              try simp only [Act.put, List.setIfInBounds_toArray, List.set_cons_zero, List.set_cons_succ]
              refine take_dstH (i := 20) (d := 73) (v := ?_) rfl rfl (by kernel_rfl) (by kernel_rfl) (by kernel_rfl) (fun _ _ _ h => h) (by rfl) hHeld ?_ ?_
              rotate_left
              · intro wZ hSw; clear hSw; go_simp; first | (with_reducible rfl) | (rw [if_pos (by omega)]; with_reducible rfl) | skip
              try simp only [Act.put, List.setIfInBounds_toArray, List.set_cons_zero, List.set_cons_succ]
              refine wpAnyH_ready (rs := [21]) (by kernel_rfl) (by simp) ?_
              refine (AllReadyH.cons rfl (fun K hK => ?_) AllReadyH.nil)
              go_simp
              refine hK.out _ _ ?_ (fun hHeld => ?_)
              · exact OLD.out _ _ (HR.out.drew.set (i * 4 + k) _)
              clear hK K
              try simp only [Act.put, List.setIfInBounds_toArray, List.set_cons_zero, List.set_cons_succ]
              refine wpAnyH_done (by kernel_rfl) ?_ _
              clear hHeld
              go_wp2
              go_roundg (4 - k)
              case measure => omega
              case rel =>
                refine ⟨k + 1, by go_num, by omega, by omega, ?_⟩
                have := (HR.out.set (i * 4 + k) y).drew
                rw [HN.out] at this
                exact this
            · obtain ⟨u, hu⟩ : ∃ u, u = i % 4 := ⟨_, rfl⟩
              have r0 : Int.tmod (i : Int) 4 = (u : Int) := by rw [Int.tmod_eq_emod_of_nonneg (by omega)]; omega
              have r1 : (i : Int) % 4 = (u : Int) := by omega
              have r2 : ¬ (u : Int) = 0 := by omega
              have r3 : ((u : Int) == 0) = false := by rw [beq_eq_false_iff_ne]; exact r2
              have C2 : Hid (∀ v : World, Hid (StO w v s T (i * 4)) → v.cell? ⟨w.heap.size + 1 + 1 + 1, n * 4 + k, none⟩ = some (.int .u8 ((T.getD (n * 4 + k) 0 : Nat) : Int))) := fun v h => h.out.2 (n * 4 + k) (by omega)
              have b2 := HC.out.tb (n * 4 + k)
              have HV : Hid ((W i).getD (i * 4 + k) 0 = T.getD (m * 4 + k) 0 ^^^ T.getD (n * 4 + k) 0) := by show _ = _; rw [HC.out.v1 i k (by omega) hlt hk4 hi0, hm, hn]
              have ex := u8_xor_nat _ _ b1 b2
              rw [HV.out] at HN
              generalize T.getD (m * 4 + k) 0 = x1 at *
              generalize T.getD (n * 4 + k) 0 = x2 at *
              generalize x1 ^^^ x2 = y at *
              clear hm hn hu HV
              go_wp2_with fail
              refine wp_region_held_drew (S := fun v => Hid (StO w v s T (i * 4))) (by kernel_rfl) (hide OLD0.out) (fun hHeld => ?_)
              refine take_dstH (i := 0) (d := 19) (v := ?_) rfl rfl (by kernel_rfl) (by kernel_rfl) (by kernel_rfl) (fun _ _ _ h => h) (by rfl) hHeld ?_ ?_
              rotate_left
              · intro wZ hSw; clear hSw; go_simp; first | (with_reducible rfl) | (rw [if_pos (by omega)]; with_reducible rfl) | skip
              try simp only [Act.put, List.setIfInBounds_toArray, List.set_cons_zero, List.set_cons_succ]
              refine take_dstH (i := 1) (d := 20) (v := ?_) rfl rfl (by kernel_rfl) (by kernel_rfl) (by kernel_rfl) (fun _ _ _ h => h) (by rfl) hHeld ?_ ?_
              rotate_left
              · intro wZ hSw; clear hSw; go_simp; first | (with_reducible rfl) | (rw [if_pos (by omega)]; with_reducible rfl) | skip
              try simp only [Act.put, List.setIfInBounds_toArray, List.set_cons_zero, List.set_cons_succ]
              refine take_dstH (i := 2) (d := 21) (v := ?_) rfl rfl (by kernel_rfl) (by kernel_rfl) (by kernel_rfl) (fun _ _ _ h => h) (by rfl) hHeld ?_ ?_
              rotate_left
              · intro wZ hSw; clear hSw; go_simp; first | (with_reducible rfl) | (rw [if_pos (by omega)]; with_reducible rfl) | skip
              try simp only [Act.put, List.setIfInBounds_toArray, List.set_cons_zero, List.set_cons_succ]
              refine take_dstH (i := 3) (d := 22) (v := ?_) rfl rfl (by kernel_rfl) (by kernel_rfl) (by kernel_rfl) (fun _ _ _ h => h) (by rfl) hHeld ?_ ?_
              rotate_left
              · intro wZ hSw; clear hSw; go_simp; first | (with_reducible rfl) | (rw [if_pos (by omega)]; with_reducible rfl) | skip
              try simp only [Act.put, List.setIfInBounds_toArray, List.set_cons_zero, List.set_cons_succ]
              refine take_dstH (i := 4) (d := 23) (v := ?_) rfl rfl (by kernel_rfl) (by kernel_rfl) (by kernel_rfl) (fun _ _ _ h => h) (by rfl) hHeld ?_ ?_
              rotate_left
              · intro wZ hSw; clear hSw; go_simp; first | (with_reducible rfl) | (rw [if_pos (by omega)]; with_reducible rfl) | skip
              try simp only [Act.put, List.setIfInBounds_toArray, List.set_cons_zero, List.set_cons_succ]
              refine take_dstH (i := 5) (d := 24) (v := ?_) rfl rfl (by kernel_rfl) (by kernel_rfl) (by kernel_rfl) (fun _ _ _ h => h) (by rfl) hHeld ?_ ?_
              rotate_left
              · intro wZ hSw; clear hSw; go_simp; first | (with_reducible rfl) | (rw [if_pos (by omega)]; with_reducible rfl) | skip
              try simp only [Act.put, List.setIfInBounds_toArray, List.set_cons_zero, List.set_cons_succ]
              refine take_dstH (i := 6) (d := 25) (v := ?_) rfl rfl (by kernel_rfl) (by kernel_rfl) (by kernel_rfl) (fun _ _ _ h => h) (by rfl) hHeld ?_ ?_
              rotate_left
              · intro wZ hSw; clear hSw; go_simp; first | (with_reducible rfl) | (rw [if_pos (by omega)]; with_reducible rfl) | skip
              try simp only [Act.put, List.setIfInBounds_toArray, List.set_cons_zero, List.set_cons_succ]
              refine take_dstH (i := 7) (d := 26) (v := ?_) rfl rfl (by kernel_rfl) (by kernel_rfl) (by kernel_rfl) (fun _ _ _ h => h) (by rfl) hHeld ?_ ?_
              rotate_left
              · intro wZ hSw; have hfS := C1.out wZ hSw; clear hSw; go_simp; first | (with_reducible rfl) | (rw [if_pos (by omega)]; with_reducible rfl) | skip
              try simp only [Act.put, List.setIfInBounds_toArray, List.set_cons_zero, List.set_cons_succ]
              refine take_dstH (i := 8) (d := 27) (v := ?_) rfl rfl (by kernel_rfl) (by kernel_rfl) (by kernel_rfl) (fun _ _ _ h => h) (by rfl) hHeld ?_ ?_
              rotate_left
              · intro wZ hSw; clear hSw; go_simp; first | (with_reducible rfl) | (rw [if_pos (by omega)]; with_reducible rfl) | skip
              try simp only [Act.put, List.setIfInBounds_toArray, List.set_cons_zero, List.set_cons_succ]
              refine take_dstH (i := 9) (d := 28) (v := ?_) rfl rfl (by kernel_rfl) (by kernel_rfl) (by kernel_rfl) (fun _ _ _ h => h) (by rfl) hHeld ?_ ?_
              rotate_left
              · intro wZ hSw; clear hSw; go_simp; first | (with_reducible rfl) | (rw [if_pos (by omega)]; with_reducible rfl) | skip
              try simp only [Act.put, List.setIfInBounds_toArray, List.set_cons_zero, List.set_cons_succ]
              refine take_dstH (i := 10) (d := 29) (v := ?_) rfl rfl (by kernel_rfl) (by kernel_rfl) (by kernel_rfl) (fun _ _ _ h => h) (by rfl) hHeld ?_ ?_
              rotate_left
              · intro wZ hSw; clear hSw; go_simp; first | (with_reducible rfl) | (rw [if_pos (by omega)]; with_reducible rfl) | skip
              try simp only [Act.put, List.setIfInBounds_toArray, List.set_cons_zero, List.set_cons_succ]
              refine take_dstH (i := 11) (d := 30) (v := ?_) rfl rfl (by kernel_rfl) (by kernel_rfl) (by kernel_rfl) (fun _ _ _ h => h) (by rfl) hHeld ?_ ?_
              rotate_left
              · intro wZ hSw; clear hSw; go_simp; first | (with_reducible rfl) | (rw [if_pos (by omega)]; with_reducible rfl) | skip
              try simp only [Act.put, List.setIfInBounds_toArray, List.set_cons_zero, List.set_cons_succ]
              refine take_dstH (i := 12) (d := 31) (v := ?_) rfl rfl (by kernel_rfl) (by kernel_rfl) (by kernel_rfl) (fun _ _ _ h => h) (by rfl) hHeld ?_ ?_
              rotate_left
              · intro wZ hSw; clear hSw; go_simp; first | (with_reducible rfl) | (rw [if_pos (by omega)]; with_reducible rfl) | skip
              try simp only [Act.put, List.setIfInBounds_toArray, List.set_cons_zero, List.set_cons_succ]
              refine take_dstH (i := 13) (d := 32) (v := ?_) rfl rfl (by kernel_rfl) (by kernel_rfl) (by kernel_rfl) (fun _ _ _ h => h) (by rfl) hHeld ?_ ?_
              rotate_left
              · intro wZ hSw; have hfS := C2.out wZ hSw; clear hSw; go_simp; first | (with_reducible rfl) | (rw [if_pos (by omega)]; with_reducible rfl) | skip
              try simp only [Act.put, List.setIfInBounds_toArray, List.set_cons_zero, List.set_cons_succ]
              refine take_dstH (i := 14) (d := 33) (v := ?_) rfl rfl (by kernel_rfl) (by kernel_rfl) (by kernel_rfl) (fun _ _ _ h => h) (by rfl) hHeld ?_ ?_
              rotate_left
              · intro wZ hSw; clear hSw; go_simp; first | (with_reducible rfl) | (rw [if_pos (by omega)]; with_reducible rfl) | skip
              try simp only [Act.put, List.setIfInBounds_toArray, List.set_cons_zero, List.set_cons_succ]
              refine take_dstH (i := 15) (d := 34) (v := ?_) rfl rfl (by kernel_rfl) (by kernel_rfl) (by kernel_rfl) (fun _ _ _ h => h) (by rfl) hHeld ?_ ?_
              rotate_left
              · intro wZ hSw; clear hSw; go_simp; first | (with_reducible rfl) | (rw [if_pos (by omega)]; with_reducible rfl) | skip
              try simp only [Act.put, List.setIfInBounds_toArray, List.set_cons_zero, List.set_cons_succ]
              refine take_dstH (i := 16) (d := 35) (v := ?_) rfl rfl (by kernel_rfl) (by kernel_rfl) (by kernel_rfl) (fun _ _ _ h => h) (by rfl) hHeld ?_ ?_
              rotate_left
              · intro wZ hSw; clear hSw; go_simp; first | (with_reducible rfl) | (rw [if_pos (by omega)]; with_reducible rfl) | skip
              try simp only [Act.put, List.setIfInBounds_toArray, List.set_cons_zero, List.set_cons_succ]
              refine wpAnyH_ready (rs := [17]) (by kernel_rfl) (by simp) ?_
              refine (AllReadyH.cons rfl (fun K hK => ?_) AllReadyH.nil)
              go_simp
              refine hK.out _ _ ?_ (fun hHeld => ?_)
              · exact OLD.out _ _ (HR.out.drew.set (i * 4 + k) _)
              clear hK K
              try simp only [Act.put, List.setIfInBounds_toArray, List.set_cons_zero, List.set_cons_succ]
              refine wpAnyH_done (by kernel_rfl) ?_ _
              clear hHeld
              go_wp2
              go_roundg (4 - k)
              case measure => omega
              case rel =>
                refine ⟨k + 1, by go_num, by omega, by omega, ?_⟩
                have := (HR.out.set (i * 4 + k) y).drew
                rw [HN.out] at this
                exact this
        · have e : k = 4 := by omega
          subst e
          have hpb : p < 256 := by rw [HP.out]; exact HC.out.pb i
          by_cases hpw : 4 ≤ i ∧ i % 4 = 0
          · obtain ⟨h4, h0⟩ := hpw
            have h4' : (4 : Int) ≤ (i : Int) := by omega
            have r0 : Int.tmod (i : Int) 4 = 0 := by rw [Int.tmod_eq_emod_of_nonneg (by omega)]; omega
            have r1 : (i : Int) % 4 = 0 := by omega
            have hW := hide (HC.out.wl i)
            have fw := HR.out.c.frozen (i * 4)
            have hc := HR.out.atC (i := i * 4) (by rw [part_length _ _ _ hW.out (by omega)]; omega)
            rw [part_get' _ _ _ _ hW.out (by omega) (by omega)] at hc
            have HN := hide (HC.out.lastP i h4 hlt h0)
            have HPN := hide (HC.out.pp i h4 h0)
            have HT := hide (fun v => rtimes_any p 2 hpb (by omega) v)
            have ex := u8_xor_nat _ _ (HC.out.wb i (i * 4)) hpb
            rw [← HP.out] at HN HPN
            rw [← HPN.out] at HT
            generalize (W i).getD (i * 4) 0 = x at *
            generalize x ^^^ p = y at *
            generalize hpn : PW (i + 1) = pn at *
            have HPN2 := hide hpn
            clear hpn
            go_wp2_with fail
            refine wp_region_held_drew (S := fun v => Hid (StK w v key)) (by kernel_rfl) (hide HR.out.k) (fun hHeld => ?_)
            refine take_dstH (i := 0) (d := 81) (v := ?_) rfl rfl (by kernel_rfl) (by kernel_rfl) (by kernel_rfl) (fun _ _ _ h => h) (by rfl) hHeld ?_ ?_
            rotate_left
            · intro wZ hSw; clear hSw; go_simp; first | (with_reducible rfl) | (rw [if_pos (by omega)]; with_reducible rfl) | skip
            try simp only [Act.put, List.setIfInBounds_toArray, List.set_cons_zero, List.set_cons_succ]
            refine take_dstH (i := 1) (d := 82) (v := ?_) rfl rfl (by kernel_rfl) (by kernel_rfl) (by kernel_rfl) (fun _ _ _ h => h) (by rfl) hHeld ?_ ?_
            rotate_left
            · intro wZ hSw; clear hSw; go_simp; first | (with_reducible rfl) | (rw [if_pos (by omega)]; with_reducible rfl) | skip
            try simp only [Act.put, List.setIfInBounds_toArray, List.set_cons_zero, List.set_cons_succ]
            refine take_dstH (i := 2) (d := 83) (v := ?_) rfl rfl (by kernel_rfl) (by kernel_rfl) (by kernel_rfl) (fun _ _ _ h => h) (by rfl) hHeld ?_ ?_
            rotate_left
            · intro wZ hSw; clear hSw; go_simp; first | (with_reducible rfl) | (rw [if_pos (by omega)]; with_reducible rfl) | skip
            try simp only [Act.put, List.setIfInBounds_toArray, List.set_cons_zero, List.set_cons_succ]
            refine take_dstH (i := 3) (d := 84) (v := ?_) rfl rfl (by kernel_rfl) (by kernel_rfl) (by kernel_rfl) (fun _ _ _ h => h) (by rfl) hHeld ?_ ?_
            rotate_left
            · intro wZ hSw; clear hSw; go_simp; first | (with_reducible rfl) | (rw [if_pos (by omega)]; with_reducible rfl) | skip
            try simp only [Act.put, List.setIfInBounds_toArray, List.set_cons_zero, List.set_cons_succ]
            refine take_dstH (i := 5) (d := 86) (v := ?_) rfl rfl (by kernel_rfl) (by kernel_rfl) (by kernel_rfl) (fun _ _ _ h => h) (by rfl) hHeld ?_ ?_
            rotate_left
            · intro wZ hSw; clear hSw; go_simp; first | (with_reducible rfl) | (rw [if_pos (by omega)]; with_reducible rfl) | skip
            try simp only [Act.put, List.setIfInBounds_toArray, List.set_cons_zero, List.set_cons_succ]
            refine take_dstH (i := 7) (d := 88) (v := ?_) rfl rfl (by kernel_rfl) (by kernel_rfl) (by kernel_rfl) (fun _ _ _ h => h) (by rfl) hHeld ?_ ?_
            rotate_left
            · intro wZ hSw; clear hSw; go_simp; first | (with_reducible rfl) | (rw [if_pos (by omega)]; with_reducible rfl) | skip
            try simp only [Act.put, List.setIfInBounds_toArray, List.set_cons_zero, List.set_cons_succ]
            refine wpAnyH_ready (rs := [4]) (by kernel_rfl) (by simp) ?_
            refine (AllReadyH.cons rfl (fun K hK => ?_) AllReadyH.nil)
            go_simp
            refine hK.out _ _ ?_ (fun hHeld => ?_)
            · exact hHeld
            clear hK K
            try simp only [Act.put, List.setIfInBounds_toArray, List.set_cons_zero, List.set_cons_succ]
            refine take_dstH (i := 6) (d := 87) (v := ?_) rfl rfl (by kernel_rfl) (by kernel_rfl) (by kernel_rfl) (fun _ _ _ h => h) (by rfl) hHeld ?_ ?_
            rotate_left
            · intro wZ hSw; clear hSw; go_simp; first | (with_reducible rfl) | (rw [if_pos (by omega)]; with_reducible rfl) | skip
            try simp only [Act.put, List.setIfInBounds_toArray, List.set_cons_zero, List.set_cons_succ]
            refine take_dstH (i := 8) (d := 89) (v := ?_) rfl rfl (by kernel_rfl) (by kernel_rfl) (by kernel_rfl) (fun _ _ _ h => h) (by rfl) hHeld ?_ ?_
            rotate_left
            · intro wZ hSw; clear hSw; go_simp; first | (with_reducible rfl) | (rw [if_pos (by omega)]; with_reducible rfl) | skip
            try simp only [Act.put, List.setIfInBounds_toArray, List.set_cons_zero, List.set_cons_succ]
            refine wpAnyH_ready (rs := [9]) (by kernel_rfl) (by simp) ?_
            refine (AllReadyH.cons rfl (fun K hK => ?_) AllReadyH.nil)
            go_simp
            refine hK.out _ _ ?_ (fun hHeld => ?_)
            · exact hide (HR.out.drew.set (i * 4) _).k
            clear hK K
            try simp only [Act.put, List.setIfInBounds_toArray, List.set_cons_zero, List.set_cons_succ]
            refine wpAnyH_done (by kernel_rfl) ?_ _
            clear hHeld
            go_wp2_with (refine (HT.out _).mono ?_; rintro e wt ⟨rfl, hwt⟩; subst hwt)
            go_roundg (44 - i)
            case measure => omega
            case rel =>
              refine ⟨i + 1, pn, rfl, by go_num, by omega, by omega, HPN2.out.symm, ?_⟩
              have := (HR.out.set (i * 4) y).drew
              rw [HN.out] at this
              exact this
          · have HN := hide (HC.out.last i hlt hpw)
            have HPN := hide (HC.out.pn i hpw)
            rw [HN.out] at HR
            by_cases h4 : 4 ≤ i
            · have h4' : (4 : Int) ≤ (i : Int) := by omega
              obtain ⟨u, hu⟩ : ∃ u, u = i % 4 := ⟨_, rfl⟩
              have r0 : Int.tmod (i : Int) 4 = (u : Int) := by rw [Int.tmod_eq_emod_of_nonneg (by omega)]; omega
              have r1 : (i : Int) % 4 = (u : Int) := by omega
              have r2 : ¬ (u : Int) = 0 := by omega
              have r3 : ((u : Int) == 0) = false := by rw [beq_eq_false_iff_ne]; exact r2
              clear hu hpw
              go_wp2
              go_roundg (44 - i)
              case measure => omega
              case rel => exact ⟨i + 1, p, rfl, by go_num, by omega, by omega, by rw [HPN.out]; exact HP, HR⟩
            · have h4' : ¬ (4 : Int) ≤ (i : Int) := by omega
              clear hpw
              go_wp2
              go_roundg (44 - i)
              case measure => omega
              case rel => exact ⟨i + 1, p, rfl, by go_num, by omega, by omega, by rw [HPN.out]; exact HP, HR⟩
    · have e : i = 44 := by omega
      subst e
      rw [part_full _ _ HC.out.tl] at HR
      clear HP
      have TL := hide HC.out.tl
      have G0 : Hid (StC w (wr.alloc (Obj.cells (u8s z176).toArray 54)) key s T ∧ Arr (wr.alloc (Obj.cells (u8s z176).toArray 54)) wr.heap.size 54 (u8s z176) ∧ w.heap.size + 1 + 1 + 1 < wr.heap.size) :=
        ⟨⟨HR.out.k.alloc _, HR.out.t.alloc _, HR.out.r.alloc _, HR.out.c.alloc _, HR.out.b.alloc HR.out.b.size _⟩, Arr.new wr _ (u8s z176), HR.out.c.lt⟩
      go_wp2
      generalize wr.alloc (Obj.cells (u8s z176).toArray 54) = wq at *
      generalize wr.heap.size = g at *
      go_loopg [10] 177 (fun f0 s10 wx => ∃ (i : Nat), s10 = .int .i64 i ∧ i ≤ 176 ∧ 176 - i < f0 ∧ Hid (StC w wx key s T ∧ Arr wx g 54 (u8s (part T 176 i)) ∧ w.heap.size + 1 + 1 + 1 < g))
      case atStart =>
        refine ⟨0, rfl, by omega, by omega, ?_⟩
        rw [part_zero176]
        exact G0
      case round =>
        clear HR G0
        obtain ⟨i, rfl, hi, hf3, HR⟩ := hrel
        by_cases hi176 : i < 176
        · obtain ⟨a1, ha1⟩ : ∃ a, a = i / 16 := ⟨_, rfl⟩
          obtain ⟨a2, ha2⟩ : ∃ a, a = i % 16 := ⟨_, rfl⟩
          obtain ⟨c1, hc1⟩ : ∃ a, a = i / 4 := ⟨_, rfl⟩
          obtain ⟨c2, hc2⟩ : ∃ a, a = i % 4 := ⟨_, rfl⟩
          have z1 : Int.tdiv (i : Int) 16 = (a1 : Int) := by rw [Int.tdiv_eq_ediv_of_nonneg (by omega)]; omega
          have z1' : (i : Int) / 16 = (a1 : Int) := by omega
          have z1w : IntKind.i64.wrap (a1 : Int) = (a1 : Int) := by simp [IntKind.wrap, IntKind.bits, IntKind.signed]; omega
          have z2 : Int.tmod (i : Int) 16 = (a2 : Int) := by rw [Int.tmod_eq_emod_of_nonneg (by omega)]; omega
          have z2' : (i : Int) % 16 = (a2 : Int) := by omega
          have z2w : IntKind.i64.wrap (a2 : Int) = (a2 : Int) := by simp [IntKind.wrap, IntKind.bits, IntKind.signed]; omega
          have z3 : Int.tdiv (i : Int) 4 = (c1 : Int) := by rw [Int.tdiv_eq_ediv_of_nonneg (by omega)]; omega
          have z3' : (i : Int) / 4 = (c1 : Int) := by omega
          have z3w : IntKind.i64.wrap (c1 : Int) = (c1 : Int) := by simp [IntKind.wrap, IntKind.bits, IntKind.signed]; omega
          have z4 : Int.tmod (i : Int) 4 = (c2 : Int) := by rw [Int.tmod_eq_emod_of_nonneg (by omega)]; omega
          have z4' : (i : Int) % 4 = (c2 : Int) := by omega
          have z4w : IntKind.i64.wrap (c2 : Int) = (c2 : Int) := by simp [IntKind.wrap, IntKind.bits, IntKind.signed]; omega
          have y1 : (a1 : Int) < 11 := by omega
          have y2 : (a2 : Int) < 16 := by omega
          have y3 : (c1 : Int) < 44 := by omega
          have y4 : (c2 : Int) < 4 := by omega
          have ea : Hid (a1 * 16 + a2 = i) := by show _ = _; omega
          have ec : Hid (c1 * 4 + c2 = i) := by show _ = _; omega
          clear ha1 ha2 hc1 hc2
          have LC : Hid (∀ v : World, Hid (Arr v (w.heap.size + 1 + 1 + 1) 63 (u8s T)) → v.cell? ⟨w.heap.size + 1 + 1 + 1, c1 * 4 + c2, none⟩ = some (.int .u8 ((T.getD i 0 : Nat) : Int))) := fun v h => by rw [ec.out]; exact (h.out.cell i).trans (u8s_at (by rw [TL.out]; exact hi176))
          have fw := HR.out.2.1.frozen (a1 * 16 + a2)
          have hc : wr.cell? ⟨g, a1 * 16 + a2, none⟩ = some (.int .u8 (((part T 176 i).getD i 0 : Nat) : Int)) := by rw [ea.out]; exact (HR.out.2.1.cell i).trans (u8s_at (by rw [part_length _ _ _ TL.out (by omega)]; exact hi176))
          have HN := hide (part_set T 176 i TL.out hi176)
          generalize (part T 176 i).getD i 0 = old at *
          generalize T.getD i 0 = y at *
          go_wp2_with fail
          refine wp_region_held_drew (S := fun v => Hid (Arr v (w.heap.size + 1 + 1 + 1) 63 (u8s T))) (by kernel_rfl) (hide HR.out.1.c) (fun hHeld => ?_)
          refine take_dstH (i := 0) (d := 96) (v := ?_) rfl rfl (by kernel_rfl) (by kernel_rfl) (by kernel_rfl) (fun _ _ _ h => h) (by rfl) hHeld ?_ ?_
          rotate_left
          · intro wZ hSw; clear hSw; go_simp; first | (with_reducible rfl) | (rw [if_pos (by omega)]; with_reducible rfl) | skip
          try simp only [Act.put, List.setIfInBounds_toArray, List.set_cons_zero, List.set_cons_succ]
          refine take_dstH (i := 1) (d := 97) (v := ?_) rfl rfl (by kernel_rfl) (by kernel_rfl) (by kernel_rfl) (fun _ _ _ h => h) (by rfl) hHeld ?_ ?_
          rotate_left
          · intro wZ hSw; clear hSw; go_simp; first | (with_reducible rfl) | (rw [if_pos (by omega)]; with_reducible rfl) | skip
          try simp only [Act.put, List.setIfInBounds_toArray, List.set_cons_zero, List.set_cons_succ]
          refine take_dstH (i := 2) (d := 98) (v := ?_) rfl rfl (by kernel_rfl) (by kernel_rfl) (by kernel_rfl) (fun _ _ _ h => h) (by rfl) hHeld ?_ ?_
          rotate_left
          · intro wZ hSw; clear hSw; go_simp; first | (with_reducible rfl) | (rw [if_pos (by omega)]; with_reducible rfl) | skip
          try simp only [Act.put, List.setIfInBounds_toArray, List.set_cons_zero, List.set_cons_succ]
          refine take_dstH (i := 3) (d := 99) (v := ?_) rfl rfl (by kernel_rfl) (by kernel_rfl) (by kernel_rfl) (fun _ _ _ h => h) (by rfl) hHeld ?_ ?_
          rotate_left
          · intro wZ hSw; clear hSw; go_simp; first | (with_reducible rfl) | (rw [if_pos (by omega)]; with_reducible rfl) | skip
          try simp only [Act.put, List.setIfInBounds_toArray, List.set_cons_zero, List.set_cons_succ]
          refine take_dstH (i := 4) (d := 100) (v := ?_) rfl rfl (by kernel_rfl) (by kernel_rfl) (by kernel_rfl) (fun _ _ _ h => h) (by rfl) hHeld ?_ ?_
          rotate_left
          · intro wZ hSw; clear hSw; go_simp; first | (with_reducible rfl) | (rw [if_pos (by omega)]; with_reducible rfl) | skip
          try simp only [Act.put, List.setIfInBounds_toArray, List.set_cons_zero, List.set_cons_succ]
          refine take_dstH (i := 5) (d := 101) (v := ?_) rfl rfl (by kernel_rfl) (by kernel_rfl) (by kernel_rfl) (fun _ _ _ h => h) (by rfl) hHeld ?_ ?_
          rotate_left
          · intro wZ hSw; clear hSw; go_simp; first | (with_reducible rfl) | (rw [if_pos (by omega)]; with_reducible rfl) | skip
          try simp only [Act.put, List.setIfInBounds_toArray, List.set_cons_zero, List.set_cons_succ]
          refine take_dstH (i := 6) (d := 102) (v := ?_) rfl rfl (by kernel_rfl) (by kernel_rfl) (by kernel_rfl) (fun _ _ _ h => h) (by rfl) hHeld ?_ ?_
          rotate_left
          · intro wZ hSw; clear hSw; go_simp; first | (with_reducible rfl) | (rw [if_pos (by omega)]; with_reducible rfl) | skip
          try simp only [Act.put, List.setIfInBounds_toArray, List.set_cons_zero, List.set_cons_succ]
          refine take_dstH (i := 7) (d := 103) (v := ?_) rfl rfl (by kernel_rfl) (by kernel_rfl) (by kernel_rfl) (fun _ _ _ h => h) (by rfl) hHeld ?_ ?_
          rotate_left
          · intro wZ hSw; clear hSw; go_simp; first | (with_reducible rfl) | (rw [if_pos (by omega)]; with_reducible rfl) | skip
          try simp only [Act.put, List.setIfInBounds_toArray, List.set_cons_zero, List.set_cons_succ]
          refine take_dstH (i := 8) (d := 104) (v := ?_) rfl rfl (by kernel_rfl) (by kernel_rfl) (by kernel_rfl) (fun _ _ _ h => h) (by rfl) hHeld ?_ ?_
          rotate_left
          · intro wZ hSw; clear hSw; go_simp; first | (with_reducible rfl) | (rw [if_pos (by omega)]; with_reducible rfl) | skip
          try simp only [Act.put, List.setIfInBounds_toArray, List.set_cons_zero, List.set_cons_succ]
          refine take_dstH (i := 9) (d := 105) (v := ?_) rfl rfl (by kernel_rfl) (by kernel_rfl) (by kernel_rfl) (fun _ _ _ h => h) (by rfl) hHeld ?_ ?_
          rotate_left
          · intro wZ hSw; clear hSw; go_simp; first | (with_reducible rfl) | (rw [if_pos (by omega)]; with_reducible rfl) | skip
          try simp only [Act.put, List.setIfInBounds_toArray, List.set_cons_zero, List.set_cons_succ]
          refine take_dstH (i := 10) (d := 106) (v := ?_) rfl rfl (by kernel_rfl) (by kernel_rfl) (by kernel_rfl) (fun _ _ _ h => h) (by rfl) hHeld ?_ ?_
          rotate_left
          · intro wZ hSw; have hfS := LC.out wZ hSw; clear hSw; go_simp; first | (with_reducible rfl) | (rw [if_pos (by omega)]; with_reducible rfl) | skip
          try simp only [Act.put, List.setIfInBounds_toArray, List.set_cons_zero, List.set_cons_succ]
          refine take_dstH (i := 11) (d := 107) (v := ?_) rfl rfl (by kernel_rfl) (by kernel_rfl) (by kernel_rfl) (fun _ _ _ h => h) (by rfl) hHeld ?_ ?_
          rotate_left
          · intro wZ hSw; clear hSw; go_simp; first | (with_reducible rfl) | (rw [if_pos (by omega)]; with_reducible rfl) | skip
          try simp only [Act.put, List.setIfInBounds_toArray, List.set_cons_zero, List.set_cons_succ]
          refine take_dstH (i := 12) (d := 108) (v := ?_) rfl rfl (by kernel_rfl) (by kernel_rfl) (by kernel_rfl) (fun _ _ _ h => h) (by rfl) hHeld ?_ ?_
          rotate_left
          · intro wZ hSw; clear hSw; go_simp; first | (with_reducible rfl) | (rw [if_pos (by omega)]; with_reducible rfl) | skip
          try simp only [Act.put, List.setIfInBounds_toArray, List.set_cons_zero, List.set_cons_succ]
          refine wpAnyH_ready (rs := [13]) (by kernel_rfl) (by simp) ?_
          refine (AllReadyH.cons rfl (fun K hK => ?_) AllReadyH.nil)
          go_simp
          refine hK.out _ _ ?_ (fun hHeld => ?_)
          · exact hide (Arr.other (Hid.out hHeld) _ _ (Nat.ne_of_lt HR.out.2.2))
          clear hK K
          try simp only [Act.put, List.setIfInBounds_toArray, List.set_cons_zero, List.set_cons_succ]
          refine wpAnyH_done (by kernel_rfl) ?_ _
          clear hHeld
          go_wp2
          go_roundg (176 - i)
          case measure => omega
          case rel =>
            refine ⟨i + 1, by go_num, by omega, by omega, ?_⟩
            obtain ⟨h1, h2, h3⟩ := HR.out
            have hs := h2.set i (.int .u8 (y : Int))
            rw [u8s_set, HN.out] at hs
            rw [ea.out]
            exact ⟨(StC.out h1 h3 i y).drew, hs, h3⟩
        · have e : i = 176 := by omega
          subst e
          rw [part_full _ _ TL.out] at HR
          have K0 := hide HR.out.2.1
          have K2 := hide HR.out.1.r
          have KB := hide HR.out.1.b
          have T1 : Hid ((Try.prog.info? 54).map (·.size) = some (u8s T).toArray.size) := by show _ = _; rw [info176]; simp [u8s, TL.out]
          have T2 : Hid ((u8s z176).toArray.size = (u8s T).toArray.size) := by show _ = _; simp [u8s, TL.out, z176]
          have O2 := hide (one_u8s T)
          clear HR
          go_wp2_with (first
            | (refine wpList_load_row rfl 54 _ rfl g rfl 54 _ (0, 0) _ K0.out Try.underlying54 rfl T1.out ?_)
            | (refine wpList_store_row rfl 54 _ _ rfl (w.heap.size + 1 + 1) _ rfl rfl 54 _ K2.out T1.out T2.out O2.out ?_))
          exact bodyPost_ret (v := .agg (u8s T).toArray) (results_cell_row Try.results22 _ _ (w.heap.size + 1 + 1) 54 _ (0, 0) _ rfl (K2.out.row _) Try.underlying54 rfl T1.out) rfl ⟨rfl, below_setRow KB.out (by omega) K2.out.lt _⟩

end Go.Proofs.Ytflakgigekfgcaa
