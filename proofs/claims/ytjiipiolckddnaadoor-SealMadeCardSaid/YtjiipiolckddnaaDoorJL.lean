/-
  Several texts, joined: RC, EQ, RD, RF.
-/
import Derived.Test.YtjiipiolckddnaaDoorJK
import Derived.Test.YtjiipiolckddnaaDoorJJ

/- A walk: the reference's rounds of a key. -/
namespace Go.Proofs.YtjiipiolckddnaaDoor
open Go.RowKit

theorem zero44 (v : World) : (zeroValue 87).run Tryd.prog v = .ok (.agg (u8s z176).toArray) v := by kernel_rfl
theorem part_zero176 (T : List Nat) : part T 176 0 = z176 := by rw [part, List.take_zero, List.nil_append, z176]

/-- what lies in memory while columns are made -/
structure StC (w wr : World) (key s C : List Nat) : Prop where
  k : Arr wr w.heap.size 31 (u8s key)
  t : Arr wr (w.heap.size + 1) 66 (u8s s)
  r : Arr wr (w.heap.size + 1 + 1) 68 (u8s z176)
  c : Arr wr (w.heap.size + 1 + 1 + 1) 87 (u8s C)
  b : Below w.heap.size w wr
theorem StC.set {w wr : World} {key s C : List Nat} (r : StC w wr key s C) (i x : Nat) : StC w (wr.setCell ⟨w.heap.size + 1 + 1 + 1, i, none⟩ (.int .u8 ((x : Nat) : Int))) key s (C.set i x) := by
  obtain ⟨h0, h1, h2, h3, h4⟩ := r
  refine ⟨h0.other _ _ (show w.heap.size ≠ w.heap.size + 1 + 1 + 1 by omega), h1.other _ _ (show w.heap.size + 1 ≠ w.heap.size + 1 + 1 + 1 by omega), h2.other _ _ (show w.heap.size + 1 + 1 ≠ w.heap.size + 1 + 1 + 1 by omega), ?_, h4.setCell (show w.heap.size ≤ w.heap.size + 1 + 1 + 1 by omega) _⟩
  have := h3.set i (.int .u8 ((x : Nat) : Int))
  rw [u8s_set] at this
  exact this
theorem StC.drew {w wr : World} {key s C : List Nat} (r : StC w wr key s C) : StC w wr.drew key s C := ⟨r.k, r.t, r.r, r.c, r.b.drew⟩
theorem StC.atC {w wr : World} {key s C : List Nat} (r : StC w wr key s C) {i : Nat} (hi : i < C.length) : wr.cell? ⟨w.heap.size + 1 + 1 + 1, i, none⟩ = some (.int .u8 ((C.getD i 0 : Nat) : Int)) := (r.c.cell i).trans (u8s_at hi)

/-- .. the key alone; the table, and the columns that are done -/
def StK (w v : World) (key : List Nat) : Prop := Arr v w.heap.size 31 (u8s key)
def StO (w v : World) (s T : List Nat) (n : Nat) : Prop := Arr v (w.heap.size + 1) 66 (u8s s) ∧ ∀ j, j < n → v.cell? ⟨w.heap.size + 1 + 1 + 1, j, none⟩ = some (.int .u8 ((T.getD j 0 : Nat) : Int))
theorem set_ne (l : List Nat) (i j x : Nat) (h : i ≠ j) : (l.set i x).getD j 0 = l.getD j 0 := by simp [List.getD, List.getElem?_set_ne h]
theorem StC.out {w wr : World} {key s C : List Nat} (r : StC w wr key s C) {g : Nat} (hg : w.heap.size + 1 + 1 + 1 < g) (i x : Nat) : StC w (wr.setCell ⟨g, i, none⟩ (.int .u8 ((x : Nat) : Int))) key s C :=
  ⟨r.k.other _ _ (show w.heap.size ≠ g by omega), r.t.other _ _ (show w.heap.size + 1 ≠ g by omega), r.r.other _ _ (show w.heap.size + 1 + 1 ≠ g by omega), r.c.other _ _ (show w.heap.size + 1 + 1 + 1 ≠ g by omega), r.b.setCell (show w.heap.size ≤ g by omega) _⟩

/-- what the walk wants to know of the columns -/
structure Cols (key s T : List Nat) (W : Nat → List Nat) (PW : Nat → Nat) : Prop where
  tl : T.length = 176
  tb : ∀ j, T.getD j 0 < 256
  wl : ∀ i, (W i).length = 176
  wb : ∀ i j, (W i).getD j 0 < 256
  first : ∀ i, part T 176 (i * 4) = part (W i) 176 (i * 4)
  old : ∀ i j, j < i * 4 → (W i).getD j 0 = T.getD j 0
  v0 : ∀ i k, i < 4 → k < 4 → (W i).getD (i * 4 + k) 0 = key.getD (4 * i + k) 0
  v4 : ∀ i k, 4 ≤ i → i < 44 → k < 4 → i % 4 = 0 → (W i).getD (i * 4 + k) 0 = T.getD ((i - 4) * 4 + k) 0 ^^^ s.getD (T.getD ((i - 1) * 4 + (k + 1) % 4) 0) 0
  v1 : ∀ i k, 4 ≤ i → i < 44 → k < 4 → i % 4 ≠ 0 → (W i).getD (i * 4 + k) 0 = T.getD ((i - 4) * 4 + k) 0 ^^^ T.getD ((i - 1) * 4 + k) 0
  last : ∀ i, i < 44 → ¬ (4 ≤ i ∧ i % 4 = 0) → part (W i) 176 (i * 4 + 4) = part T 176 ((i + 1) * 4)
  lastP : ∀ i, 4 ≤ i → i < 44 → i % 4 = 0 → (part (W i) 176 (i * 4 + 4)).set (i * 4) ((W i).getD (i * 4) 0 ^^^ PW i) = part T 176 ((i + 1) * 4)
  p0 : PW 0 = 1
  pb : ∀ i, PW i < 256
  pn : ∀ i, ¬ (4 ≤ i ∧ i % 4 = 0) → PW (i + 1) = PW i
  pp : ∀ i, 4 ≤ i → i % 4 = 0 → PW (i + 1) = tmF (PW i) 2

set_option maxHeartbeats 16000000 in
set_option maxRecDepth 100000 in
theorem rrounds_of (key s T : List Nat) (W : Nat → List Nat) (PW : Nat → Nat) (w : World) (kl : key.length = 16) (sl : s.length = 256) (hs : ∀ i, s.getD i 0 < 256) (hC : Cols key s T W PW) :
    Calls Tryd.prog 35 #[.agg (u8s key).toArray, .agg (u8s s).toArray] w fun e w' => e = .returned (.agg (u8s T).toArray) ∧ Below w.heap.size w w' := by
  have KL := hide kl
  have SL := hide sl
  have HS := hide hs
  have HC := hide hC
  have Z1 := zero44
  have Z2 := zero176
  clear kl sl hs hC
  go_enter Tryd.func35, Tryd.ntmps35
  go_wp2
  go_loopg [6, 7] 45 (fun f0 s6 s7 wr => ∃ (i p : Nat), s6 = .int .u8 p ∧ s7 = .int .i64 i ∧ i ≤ 44 ∧ 44 - i < f0 ∧ Hid (p = PW i) ∧ Hid (StC w wr key s (part T 176 (i * 4))))
  case atStart =>
    refine ⟨0, 1, rfl, rfl, by omega, by omega, HC.out.p0.symm, ?_⟩
    rw [Nat.zero_mul, part_zero176]
    exact ⟨(((Arr.new w _ (u8s key)).alloc _).alloc _).alloc _, ((Arr.newAt (w.alloc _) _ (u8s s) _ (by simp)).alloc _).alloc _, (Arr.newAt ((w.alloc _).alloc _) _ (u8s z176) _ (by simp)).alloc _, Arr.newAt (((w.alloc _).alloc _).alloc _) _ (u8s z176) _ (by simp), ((((Below.refl _ _).alloc (Nat.le_refl _) _).alloc (by simp) _).alloc (by simp; omega) _).alloc (by simp; omega) _⟩
  case round =>
    obtain ⟨i, p, rfl, rfl, hi, hf, HP, HR⟩ := hrel
    by_cases hlt : i < 44
    · have hi44 : (i : Int) < 44 := by omega
      rw [HC.out.first i] at HR
      go_wp2
      go_loopg [8] 5 (fun f0 s8 wr' => ∃ (k : Nat), s8 = .int .i64 k ∧ k ≤ 4 ∧ 4 - k < f0 ∧ Hid (StC w wr' key s (part (W i) 176 (i * 4 + k))))
      case atStart => exact ⟨0, rfl, by omega, by omega, HR⟩
      case round =>
        clear HR
        obtain ⟨k, rfl, hk, hf2, HR⟩ := hrel
        by_cases hk4 : k < 4
        · have hk4' : (k : Int) < 4 := by omega
          have hW := hide (HC.out.wl i)
          have fw := HR.out.c.frozen (i * 4 + k)
          have HN := hide (part_set (W i) 176 (i * 4 + k) hW.out (by omega))
          have hc := HR.out.atC (i := i * 4 + k) (by rw [part_length _ _ _ hW.out (by omega)]; omega)
          generalize (part (W i) 176 (i * 4 + k)).getD (i * 4 + k) 0 = old at *
          by_cases hi4 : i < 4
          · have hi4' : (i : Int) < 4 := by omega
            obtain ⟨p4, hp4⟩ : ∃ p4, p4 = 4 * i := ⟨_, rfl⟩
            obtain ⟨pk, hpk⟩ : ∃ pk, pk = p4 + k := ⟨_, rfl⟩
            have q1 : (4 : Int) * (i : Int) = (p4 : Int) := by omega
            have q2 : (p4 : Int) + (k : Int) = (pk : Int) := by omega
            have q3 : IntKind.i64.wrap (p4 : Int) = (p4 : Int) := by simp [IntKind.wrap, IntKind.bits, IntKind.signed]; omega
            have q4 : IntKind.i64.wrap (pk : Int) = (pk : Int) := by simp [IntKind.wrap, IntKind.bits, IntKind.signed]; omega
            have q5 : (pk : Int) < 16 := by omega
            have HV : Hid ((W i).getD (i * 4 + k) 0 = key.getD pk 0) := by show _ = _; rw [HC.out.v0 i k hi4 hk4, hpk, hp4]
            have LK : Hid (∀ v : World, Hid (StK w v key) → v.cell? ⟨w.heap.size, pk, none⟩ = some (.int .u8 ((key.getD pk 0 : Nat) : Int))) := fun v h => (Arr.cell h.out pk).trans (u8s_at (by rw [KL.out]; omega))
            clear hp4 hpk
            rw [HV.out] at HN
            generalize key.getD pk 0 = y at *
            have KS : Hid (∀ (v : World) (x : Nat), StC w v key s ((part (W i) 176 (i * 4 + k)).set (i * 4 + k) x) → Hid (StK w v key)) := fun v x h => h.k
            go_wp2_with fail
            refine wp_region_held_drew (S := fun v => Hid (StK w v key)) (by kernel_rfl) (hide HR.out.k) (fun hHeld => ?_)
            refine take_dstH (i := 0) (d := 39) (v := ?_) rfl rfl (by kernel_rfl) (by kernel_rfl) (by kernel_rfl) (fun _ _ _ h => h) (by rfl) hHeld ?_ ?_
            rotate_left
            · intro wZ hSw; clear hSw; go_simp; first | (with_reducible rfl) | (rw [if_pos (by omega)]; with_reducible rfl) | skip
            try simp only [Act.put, List.setIfInBounds_toArray, List.set_cons_zero, List.set_cons_succ]
            refine take_dstH (i := 1) (d := 40) (v := ?_) rfl rfl (by kernel_rfl) (by kernel_rfl) (by kernel_rfl) (fun _ _ _ h => h) (by rfl) hHeld ?_ ?_
            rotate_left
            · intro wZ hSw; clear hSw; go_simp; first | (with_reducible rfl) | (rw [if_pos (by omega)]; with_reducible rfl) | skip
            try simp only [Act.put, List.setIfInBounds_toArray, List.set_cons_zero, List.set_cons_succ]
            refine take_dstH (i := 2) (d := 41) (v := ?_) rfl rfl (by kernel_rfl) (by kernel_rfl) (by kernel_rfl) (fun _ _ _ h => h) (by rfl) hHeld ?_ ?_
            rotate_left
            · intro wZ hSw; clear hSw; go_simp; first | (with_reducible rfl) | (rw [if_pos (by omega)]; with_reducible rfl) | skip
            try simp only [Act.put, List.setIfInBounds_toArray, List.set_cons_zero, List.set_cons_succ]
            refine take_dstH (i := 3) (d := 42) (v := ?_) rfl rfl (by kernel_rfl) (by kernel_rfl) (by kernel_rfl) (fun _ _ _ h => h) (by rfl) hHeld ?_ ?_
            rotate_left
            · intro wZ hSw; clear hSw; go_simp; first | (with_reducible rfl) | (rw [if_pos (by omega)]; with_reducible rfl) | skip
            try simp only [Act.put, List.setIfInBounds_toArray, List.set_cons_zero, List.set_cons_succ]
            refine take_dstH (i := 4) (d := 43) (v := ?_) rfl rfl (by kernel_rfl) (by kernel_rfl) (by kernel_rfl) (fun _ _ _ h => h) (by rfl) hHeld ?_ ?_
            rotate_left
            · intro wZ hSw; clear hSw; go_simp; first | (with_reducible rfl) | (rw [if_pos (by omega)]; with_reducible rfl) | skip
            try simp only [Act.put, List.setIfInBounds_toArray, List.set_cons_zero, List.set_cons_succ]
            refine take_dstH (i := 5) (d := 44) (v := ?_) rfl rfl (by kernel_rfl) (by kernel_rfl) (by kernel_rfl) (fun _ _ _ h => h) (by rfl) hHeld ?_ ?_
            rotate_left
            · intro wZ hSw; clear hSw; go_simp; first | (with_reducible rfl) | (rw [if_pos (by omega)]; with_reducible rfl) | skip
            try simp only [Act.put, List.setIfInBounds_toArray, List.set_cons_zero, List.set_cons_succ]
            refine take_dstH (i := 6) (d := 45) (v := ?_) rfl rfl (by kernel_rfl) (by kernel_rfl) (by kernel_rfl) (fun _ _ _ h => h) (by rfl) hHeld ?_ ?_
            rotate_left
            · intro wZ hSw; clear hSw; go_simp; first | (with_reducible rfl) | (rw [if_pos (by omega)]; with_reducible rfl) | skip
            try simp only [Act.put, List.setIfInBounds_toArray, List.set_cons_zero, List.set_cons_succ]
            refine take_dstH (i := 7) (d := 46) (v := ?_) rfl rfl (by kernel_rfl) (by kernel_rfl) (by kernel_rfl) (fun _ _ _ h => h) (by rfl) hHeld ?_ ?_
            rotate_left
            · intro wZ hSw; have hfS := LK.out wZ hSw; clear hSw; go_simp; first | (with_reducible rfl) | (rw [if_pos (by omega)]; with_reducible rfl) | skip
            try simp only [Act.put, List.setIfInBounds_toArray, List.set_cons_zero, List.set_cons_succ]
            refine take_dstH (i := 8) (d := 47) (v := ?_) rfl rfl (by kernel_rfl) (by kernel_rfl) (by kernel_rfl) (fun _ _ _ h => h) (by rfl) hHeld ?_ ?_
            rotate_left
            · intro wZ hSw; clear hSw; go_simp; first | (with_reducible rfl) | (rw [if_pos (by omega)]; with_reducible rfl) | skip
            try simp only [Act.put, List.setIfInBounds_toArray, List.set_cons_zero, List.set_cons_succ]
            refine take_dstH (i := 9) (d := 48) (v := ?_) rfl rfl (by kernel_rfl) (by kernel_rfl) (by kernel_rfl) (fun _ _ _ h => h) (by rfl) hHeld ?_ ?_
            rotate_left
            · intro wZ hSw; clear hSw; go_simp; first | (with_reducible rfl) | (rw [if_pos (by omega)]; with_reducible rfl) | skip
            try simp only [Act.put, List.setIfInBounds_toArray, List.set_cons_zero, List.set_cons_succ]
            refine wpAnyH_ready (rs := [10]) (by kernel_rfl) (by simp) ?_
            refine (AllReadyH.cons rfl (fun K hK => ?_) AllReadyH.nil)
            go_simp
            refine hK.out _ _ ?_ (fun hHeld => ?_)
            · exact KS.out _ _ (HR.out.drew.set (i * 4 + k) _)
            clear hK K
            try simp only [Act.put, List.setIfInBounds_toArray, List.set_cons_zero, List.set_cons_succ]
            refine wpAnyH_done (by kernel_rfl) ?_ _
            clear hHeld
            go_wp2
            go_roundg (4 - k)
            case measure => omega
            case rel =>
              refine ⟨k + 1, by go_num, by omega, by omega, ?_⟩
              have := (HR.out.set (i * 4 + k) y).drew
              rw [HN.out] at this
              exact this
          · have hi4' : ¬ (i : Int) < 4 := by omega
            obtain ⟨m, hm⟩ : ∃ m, m = i - 4 := ⟨_, rfl⟩
            obtain ⟨n, hn⟩ : ∃ n, n = i - 1 := ⟨_, rfl⟩
            have m1 : (i : Int) - 4 = (m : Int) := by omega
            have m2 : IntKind.i64.wrap (m : Int) = (m : Int) := by simp [IntKind.wrap, IntKind.bits, IntKind.signed]; omega
            have m3 : (m : Int) < 44 := by omega
            have n1 : (i : Int) - 1 = (n : Int) := by omega
            have n2 : IntKind.i64.wrap (n : Int) = (n : Int) := by simp [IntKind.wrap, IntKind.bits, IntKind.signed]; omega
            have n3 : (n : Int) < 44 := by omega
            have OLD : Hid (∀ (v : World) (x : Nat), StC w v key s ((part (W i) 176 (i * 4 + k)).set (i * 4 + k) x) → Hid (StO w v s T (i * 4))) := fun v x h => ⟨h.t, fun j hj => by
              rw [h.atC (i := j) (by rw [List.length_set, part_length _ _ _ hW.out (by omega)]; omega), set_ne _ _ _ _ (by omega), part_get' _ _ _ _ hW.out (by omega) (by omega), HC.out.old i j hj]⟩
            have OLD0 : Hid (StO w wr s T (i * 4)) := ⟨HR.out.t, fun j hj => by
              rw [HR.out.atC (i := j) (by rw [part_length _ _ _ hW.out (by omega)]; omega), part_get' _ _ _ _ hW.out (by omega) (by omega), HC.out.old i j hj]⟩
            have b1 := HC.out.tb (m * 4 + k)
            have C1 : Hid (∀ v : World, Hid (StO w v s T (i * 4)) → v.cell? ⟨w.heap.size + 1 + 1 + 1, m * 4 + k, none⟩ = some (.int .u8 ((T.getD (m * 4 + k) 0 : Nat) : Int))) := fun v h => h.out.2 (m * 4 + k) (by omega)
            by_cases hi0 : i % 4 = 0
            · have r0 : Int.tmod (i : Int) 4 = 0 := by rw [Int.tmod_eq_emod_of_nonneg (by omega)]; omega
              have r1 : (i : Int) % 4 = 0 := by omega
              obtain ⟨k1, hk1⟩ : ∃ k1, k1 = k + 1 := ⟨_, rfl⟩
              obtain ⟨q, hq⟩ : ∃ q, q = (k + 1) % 4 := ⟨_, rfl⟩
              have q0 : (k : Int) + 1 = (k1 : Int) := by omega
              have q0' : IntKind.i64.wrap (k1 : Int) = (k1 : Int) := by simp [IntKind.wrap, IntKind.bits, IntKind.signed]; omega
              have q1 : Int.tmod (k1 : Int) 4 = (q : Int) := by rw [Int.tmod_eq_emod_of_nonneg (by omega)]; omega
              have q2 : (k1 : Int) % 4 = (q : Int) := by omega
              have q3 : (q : Int) < 4 := by omega
              have q4 : IntKind.i64.wrap (q : Int) = (q : Int) := by simp [IntKind.wrap, IntKind.bits, IntKind.signed]; omega
              have C2 : Hid (∀ v : World, Hid (StO w v s T (i * 4)) → v.cell? ⟨w.heap.size + 1 + 1 + 1, n * 4 + q, none⟩ = some (.int .u8 ((T.getD (n * 4 + q) 0 : Nat) : Int))) := fun v h => h.out.2 (n * 4 + q) (by omega)
              have b2 := HC.out.tb (n * 4 + q)
              have HV : Hid ((W i).getD (i * 4 + k) 0 = T.getD (m * 4 + k) 0 ^^^ s.getD (T.getD (n * 4 + q) 0) 0) := by show _ = _; rw [HC.out.v4 i k (by omega) hlt hk4 hi0, hm, hn, hq]
              generalize T.getD (n * 4 + q) 0 = x2 at *
              have x2b : (x2 : Int) < 256 := by omega
              have C3 : Hid (∀ v : World, Hid (StO w v s T (i * 4)) → v.cell? ⟨w.heap.size + 1, x2, none⟩ = some (.int .u8 ((s.getD x2 0 : Nat) : Int))) := fun v h => (h.out.1.cell x2).trans (u8s_at (by rw [SL.out]; omega))
              have b3 := HS.out x2
              have ex := u8_xor_nat _ _ b1 b3
              rw [HV.out] at HN
              generalize T.getD (m * 4 + k) 0 = x1 at *
              generalize s.getD x2 0 = x3 at *
              generalize x1 ^^^ x3 = y at *
              clear hm hn hq hk1 HV
              go_wp2_with fail
              refine wp_region_held_drew (S := fun v => Hid (StO w v s T (i * 4))) (by kernel_rfl) (hide OLD0.out) (fun hHeld => ?_)
              refine take_dstH (i := 0) (d := 53) (v := ?_) rfl rfl (by kernel_rfl) (by kernel_rfl) (by kernel_rfl) (fun _ _ _ h => h) (by rfl) hHeld ?_ ?_
              rotate_left
              · intro wZ hSw; clear hSw; go_simp; first | (with_reducible rfl) | (rw [if_pos (by omega)]; with_reducible rfl) | skip
              try simp only [Act.put, List.setIfInBounds_toArray, List.set_cons_zero, List.set_cons_succ]
              refine take_dstH (i := 1) (d := 54) (v := ?_) rfl rfl (by kernel_rfl) (by kernel_rfl) (by kernel_rfl) (fun _ _ _ h => h) (by rfl) hHeld ?_ ?_
              rotate_left
              · intro wZ hSw; clear hSw; go_simp; first | (with_reducible rfl) | (rw [if_pos (by omega)]; with_reducible rfl) | skip
              try simp only [Act.put, List.setIfInBounds_toArray, List.set_cons_zero, List.set_cons_succ]
              refine take_dstH (i := 2) (d := 55) (v := ?_) rfl rfl (by kernel_rfl) (by kernel_rfl) (by kernel_rfl) (fun _ _ _ h => h) (by rfl) hHeld ?_ ?_
              rotate_left
              · intro wZ hSw; clear hSw; go_simp; first | (with_reducible rfl) | (rw [if_pos (by omega)]; with_reducible rfl) | skip
              try simp only [Act.put, List.setIfInBounds_toArray, List.set_cons_zero, List.set_cons_succ]
              refine take_dstH (i := 3) (d := 56) (v := ?_) rfl rfl (by kernel_rfl) (by kernel_rfl) (by kernel_rfl) (fun _ _ _ h => h) (by rfl) hHeld ?_ ?_
              rotate_left
              · intro wZ hSw; clear hSw; go_simp; first | (with_reducible rfl) | (rw [if_pos (by omega)]; with_reducible rfl) | skip
              try simp only [Act.put, List.setIfInBounds_toArray, List.set_cons_zero, List.set_cons_succ]
              refine take_dstH (i := 4) (d := 57) (v := ?_) rfl rfl (by kernel_rfl) (by kernel_rfl) (by kernel_rfl) (fun _ _ _ h => h) (by rfl) hHeld ?_ ?_
              rotate_left
              · intro wZ hSw; clear hSw; go_simp; first | (with_reducible rfl) | (rw [if_pos (by omega)]; with_reducible rfl) | skip
              try simp only [Act.put, List.setIfInBounds_toArray, List.set_cons_zero, List.set_cons_succ]
              refine take_dstH (i := 5) (d := 58) (v := ?_) rfl rfl (by kernel_rfl) (by kernel_rfl) (by kernel_rfl) (fun _ _ _ h => h) (by rfl) hHeld ?_ ?_
              rotate_left
              · intro wZ hSw; clear hSw; go_simp; first | (with_reducible rfl) | (rw [if_pos (by omega)]; with_reducible rfl) | skip
              try simp only [Act.put, List.setIfInBounds_toArray, List.set_cons_zero, List.set_cons_succ]
              refine take_dstH (i := 6) (d := 59) (v := ?_) rfl rfl (by kernel_rfl) (by kernel_rfl) (by kernel_rfl) (fun _ _ _ h => h) (by rfl) hHeld ?_ ?_
              rotate_left
              · intro wZ hSw; clear hSw; go_simp; first | (with_reducible rfl) | (rw [if_pos (by omega)]; with_reducible rfl) | skip
              try simp only [Act.put, List.setIfInBounds_toArray, List.set_cons_zero, List.set_cons_succ]
              refine take_dstH (i := 7) (d := 60) (v := ?_) rfl rfl (by kernel_rfl) (by kernel_rfl) (by kernel_rfl) (fun _ _ _ h => h) (by rfl) hHeld ?_ ?_
              rotate_left
              · intro wZ hSw; have hfS := C1.out wZ hSw; clear hSw; go_simp; first | (with_reducible rfl) | (rw [if_pos (by omega)]; with_reducible rfl) | skip
              try simp only [Act.put, List.setIfInBounds_toArray, List.set_cons_zero, List.set_cons_succ]
              refine take_dstH (i := 8) (d := 61) (v := ?_) rfl rfl (by kernel_rfl) (by kernel_rfl) (by kernel_rfl) (fun _ _ _ h => h) (by rfl) hHeld ?_ ?_
              rotate_left
              · intro wZ hSw; clear hSw; go_simp; first | (with_reducible rfl) | (rw [if_pos (by omega)]; with_reducible rfl) | skip
              try simp only [Act.put, List.setIfInBounds_toArray, List.set_cons_zero, List.set_cons_succ]
              refine take_dstH (i := 9) (d := 62) (v := ?_) rfl rfl (by kernel_rfl) (by kernel_rfl) (by kernel_rfl) (fun _ _ _ h => h) (by rfl) hHeld ?_ ?_
              rotate_left
              · intro wZ hSw; clear hSw; go_simp; first | (with_reducible rfl) | (rw [if_pos (by omega)]; with_reducible rfl) | skip
              try simp only [Act.put, List.setIfInBounds_toArray, List.set_cons_zero, List.set_cons_succ]
              refine take_dstH (i := 10) (d := 63) (v := ?_) rfl rfl (by kernel_rfl) (by kernel_rfl) (by kernel_rfl) (fun _ _ _ h => h) (by rfl) hHeld ?_ ?_
              rotate_left
              · intro wZ hSw; clear hSw; go_simp; first | (with_reducible rfl) | (rw [if_pos (by omega)]; with_reducible rfl) | skip
              try simp only [Act.put, List.setIfInBounds_toArray, List.set_cons_zero, List.set_cons_succ]
              refine take_dstH (i := 11) (d := 64) (v := ?_) rfl rfl (by kernel_rfl) (by kernel_rfl) (by kernel_rfl) (fun _ _ _ h => h) (by rfl) hHeld ?_ ?_
              rotate_left
              · intro wZ hSw; clear hSw; go_simp; first | (with_reducible rfl) | (rw [if_pos (by omega)]; with_reducible rfl) | skip
              try simp only [Act.put, List.setIfInBounds_toArray, List.set_cons_zero, List.set_cons_succ]
              refine take_dstH (i := 12) (d := 65) (v := ?_) rfl rfl (by kernel_rfl) (by kernel_rfl) (by kernel_rfl) (fun _ _ _ h => h) (by rfl) hHeld ?_ ?_
              rotate_left
              · intro wZ hSw; clear hSw; go_simp; first | (with_reducible rfl) | (rw [if_pos (by omega)]; with_reducible rfl) | skip
              try simp only [Act.put, List.setIfInBounds_toArray, List.set_cons_zero, List.set_cons_succ]
              refine take_dstH (i := 13) (d := 66) (v := ?_) rfl rfl (by kernel_rfl) (by kernel_rfl) (by kernel_rfl) (fun _ _ _ h => h) (by rfl) hHeld ?_ ?_
              rotate_left
              · intro wZ hSw; clear hSw; go_simp; first | (with_reducible rfl) | (rw [if_pos (by omega)]; with_reducible rfl) | skip
              try simp only [Act.put, List.setIfInBounds_toArray, List.set_cons_zero, List.set_cons_succ]
              refine take_dstH (i := 14) (d := 67) (v := ?_) rfl rfl (by kernel_rfl) (by kernel_rfl) (by kernel_rfl) (fun _ _ _ h => h) (by rfl) hHeld ?_ ?_
              rotate_left
              · intro wZ hSw; clear hSw; go_simp; first | (with_reducible rfl) | (rw [if_pos (by omega)]; with_reducible rfl) | skip
              try simp only [Act.put, List.setIfInBounds_toArray, List.set_cons_zero, List.set_cons_succ]
              refine take_dstH (i := 15) (d := 68) (v := ?_) rfl rfl (by kernel_rfl) (by kernel_rfl) (by kernel_rfl) (fun _ _ _ h => h) (by rfl) hHeld ?_ ?_
              rotate_left
              · intro wZ hSw; have hfS := C2.out wZ hSw; clear hSw; go_simp; first | (with_reducible rfl) | (rw [if_pos (by omega)]; with_reducible rfl) | skip
              try simp only [Act.put, List.setIfInBounds_toArray, List.set_cons_zero, List.set_cons_succ]
              refine take_dstH (i := 16) (d := 69) (v := ?_) rfl rfl (by kernel_rfl) (by kernel_rfl) (by kernel_rfl) (fun _ _ _ h => h) (by rfl) hHeld ?_ ?_
              rotate_left
              · intro wZ hSw; clear hSw; go_simp; first | (with_reducible rfl) | (rw [if_pos (by omega)]; with_reducible rfl) | skip
              try simp only [Act.put, List.setIfInBounds_toArray, List.set_cons_zero, List.set_cons_succ]
              refine take_dstH (i := 17) (d := 70) (v := ?_) rfl rfl (by kernel_rfl) (by kernel_rfl) (by kernel_rfl) (fun _ _ _ h => h) (by rfl) hHeld ?_ ?_
              rotate_left
              · intro wZ hSw; have hfS := C3.out wZ hSw; clear hSw; go_simp; first | (with_reducible rfl) | (rw [if_pos (by omega)]; with_reducible rfl) | skip
              try simp only [Act.put, List.setIfInBounds_toArray, List.set_cons_zero, List.set_cons_succ]
              refine take_dstH (i := 18) (d := 71) (v := ?_) rfl rfl (by kernel_rfl) (by kernel_rfl) (by kernel_rfl) (fun _ _ _ h => h) (by rfl) hHeld ?_ ?_
              rotate_left
              · intro wZ hSw; clear hSw; go_simp; first | (with_reducible rfl) | (rw [if_pos (by omega)]; with_reducible rfl) | skip
              try simp only [Act.put, List.setIfInBounds_toArray, List.set_cons_zero, List.set_cons_succ]
              refine take_dstH (i := 19) (d := 72) (v := ?_) rfl rfl (by kernel_rfl) (by kernel_rfl) (by kernel_rfl) (fun _ _ _ h => h) (by rfl) hHeld ?_ ?_
              rotate_left
              · intro wZ hSw; clear hSw; go_simp; first | (with_reducible rfl) | (rw [if_pos (by omega)]; with_reducible rfl) | skip
              try simp only [Act.put, List.setIfInBounds_toArray, List.set_cons_zero, List.set_cons_succ]
              refine take_dstH (i := 20) (d := 73) (v := ?_) rfl rfl (by kernel_rfl) (by kernel_rfl) (by kernel_rfl) (fun _ _ _ h => h) (by rfl) hHeld ?_ ?_
              rotate_left
              · intro wZ hSw; clear hSw; go_simp; first | (with_reducible rfl) | (rw [if_pos (by omega)]; with_reducible rfl) | skip
              try simp only [Act.put, List.setIfInBounds_toArray, List.set_cons_zero, List.set_cons_succ]
              refine wpAnyH_ready (rs := [21]) (by kernel_rfl) (by simp) ?_
              refine (AllReadyH.cons rfl (fun K hK => ?_) AllReadyH.nil)
              go_simp
              refine hK.out _ _ ?_ (fun hHeld => ?_)
              · exact OLD.out _ _ (HR.out.drew.set (i * 4 + k) _)
              clear hK K
              try simp only [Act.put, List.setIfInBounds_toArray, List.set_cons_zero, List.set_cons_succ]
              refine wpAnyH_done (by kernel_rfl) ?_ _
              clear hHeld
              go_wp2
              go_roundg (4 - k)
              case measure => omega
              case rel =>
                refine ⟨k + 1, by go_num, by omega, by omega, ?_⟩
                have := (HR.out.set (i * 4 + k) y).drew
                rw [HN.out] at this
                exact this
            · obtain ⟨u, hu⟩ : ∃ u, u = i % 4 := ⟨_, rfl⟩
              have r0 : Int.tmod (i : Int) 4 = (u : Int) := by rw [Int.tmod_eq_emod_of_nonneg (by omega)]; omega
              have r1 : (i : Int) % 4 = (u : Int) := by omega
              have r2 : ¬ (u : Int) = 0 := by omega
              have r3 : ((u : Int) == 0) = false := by rw [beq_eq_false_iff_ne]; exact r2
              have C2 : Hid (∀ v : World, Hid (StO w v s T (i * 4)) → v.cell? ⟨w.heap.size + 1 + 1 + 1, n * 4 + k, none⟩ = some (.int .u8 ((T.getD (n * 4 + k) 0 : Nat) : Int))) := fun v h => h.out.2 (n * 4 + k) (by omega)
              have b2 := HC.out.tb (n * 4 + k)
              have HV : Hid ((W i).getD (i * 4 + k) 0 = T.getD (m * 4 + k) 0 ^^^ T.getD (n * 4 + k) 0) := by show _ = _; rw [HC.out.v1 i k (by omega) hlt hk4 hi0, hm, hn]
              have ex := u8_xor_nat _ _ b1 b2
              rw [HV.out] at HN
              generalize T.getD (m * 4 + k) 0 = x1 at *
              generalize T.getD (n * 4 + k) 0 = x2 at *
              generalize x1 ^^^ x2 = y at *
              clear hm hn hu HV
              go_wp2_with fail
              refine wp_region_held_drew (S := fun v => Hid (StO w v s T (i * 4))) (by kernel_rfl) (hide OLD0.out) (fun hHeld => ?_)
              refine take_dstH (i := 0) (d := 19) (v := ?_) rfl rfl (by kernel_rfl) (by kernel_rfl) (by kernel_rfl) (fun _ _ _ h => h) (by rfl) hHeld ?_ ?_
              rotate_left
              · intro wZ hSw; clear hSw; go_simp; first | (with_reducible rfl) | (rw [if_pos (by omega)]; with_reducible rfl) | skip
              try simp only [Act.put, List.setIfInBounds_toArray, List.set_cons_zero, List.set_cons_succ]
              refine take_dstH (i := 1) (d := 20) (v := ?_) rfl rfl (by kernel_rfl) (by kernel_rfl) (by kernel_rfl) (fun _ _ _ h => h) (by rfl) hHeld ?_ ?_
              rotate_left
              · intro wZ hSw; clear hSw; go_simp; first | (with_reducible rfl) | (rw [if_pos (by omega)]; with_reducible rfl) | skip
              try simp only [Act.put, List.setIfInBounds_toArray, List.set_cons_zero, List.set_cons_succ]
              refine take_dstH (i := 2) (d := 21) (v := ?_) rfl rfl (by kernel_rfl) (by kernel_rfl) (by kernel_rfl) (fun _ _ _ h => h) (by rfl) hHeld ?_ ?_
              rotate_left
              · intro wZ hSw; clear hSw; go_simp; first | (with_reducible rfl) | (rw [if_pos (by omega)]; with_reducible rfl) | skip
              try simp only [Act.put, List.setIfInBounds_toArray, List.set_cons_zero, List.set_cons_succ]
              refine take_dstH (i := 3) (d := 22) (v := ?_) rfl rfl (by kernel_rfl) (by kernel_rfl) (by kernel_rfl) (fun _ _ _ h => h) (by rfl) hHeld ?_ ?_
              rotate_left
              · intro wZ hSw; clear hSw; go_simp; first | (with_reducible rfl) | (rw [if_pos (by omega)]; with_reducible rfl) | skip
              try simp only [Act.put, List.setIfInBounds_toArray, List.set_cons_zero, List.set_cons_succ]
              refine take_dstH (i := 4) (d := 23) (v := ?_) rfl rfl (by kernel_rfl) (by kernel_rfl) (by kernel_rfl) (fun _ _ _ h => h) (by rfl) hHeld ?_ ?_
              rotate_left
              · intro wZ hSw; clear hSw; go_simp; first | (with_reducible rfl) | (rw [if_pos (by omega)]; with_reducible rfl) | skip
              try simp only [Act.put, List.setIfInBounds_toArray, List.set_cons_zero, List.set_cons_succ]
              refine take_dstH (i := 5) (d := 24) (v := ?_) rfl rfl (by kernel_rfl) (by kernel_rfl) (by kernel_rfl) (fun _ _ _ h => h) (by rfl) hHeld ?_ ?_
              rotate_left
              · intro wZ hSw; clear hSw; go_simp; first | (with_reducible rfl) | (rw [if_pos (by omega)]; with_reducible rfl) | skip
              try simp only [Act.put, List.setIfInBounds_toArray, List.set_cons_zero, List.set_cons_succ]
              refine take_dstH (i := 6) (d := 25) (v := ?_) rfl rfl (by kernel_rfl) (by kernel_rfl) (by kernel_rfl) (fun _ _ _ h => h) (by rfl) hHeld ?_ ?_
              rotate_left
              · intro wZ hSw; clear hSw; go_simp; first | (with_reducible rfl) | (rw [if_pos (by omega)]; with_reducible rfl) | skip
              try simp only [Act.put, List.setIfInBounds_toArray, List.set_cons_zero, List.set_cons_succ]
              refine take_dstH (i := 7) (d := 26) (v := ?_) rfl rfl (by kernel_rfl) (by kernel_rfl) (by kernel_rfl) (fun _ _ _ h => h) (by rfl) hHeld ?_ ?_
              rotate_left
              · intro wZ hSw; have hfS := C1.out wZ hSw; clear hSw; go_simp; first | (with_reducible rfl) | (rw [if_pos (by omega)]; with_reducible rfl) | skip
              try simp only [Act.put, List.setIfInBounds_toArray, List.set_cons_zero, List.set_cons_succ]
              refine take_dstH (i := 8) (d := 27) (v := ?_) rfl rfl (by kernel_rfl) (by kernel_rfl) (by kernel_rfl) (fun _ _ _ h => h) (by rfl) hHeld ?_ ?_
              rotate_left
              · intro wZ hSw; clear hSw; go_simp; first | (with_reducible rfl) | (rw [if_pos (by omega)]; with_reducible rfl) | skip
              try simp only [Act.put, List.setIfInBounds_toArray, List.set_cons_zero, List.set_cons_succ]
              refine take_dstH (i := 9) (d := 28) (v := ?_) rfl rfl (by kernel_rfl) (by kernel_rfl) (by kernel_rfl) (fun _ _ _ h => h) (by rfl) hHeld ?_ ?_
              rotate_left
              · intro wZ hSw; clear hSw; go_simp; first | (with_reducible rfl) | (rw [if_pos (by omega)]; with_reducible rfl) | skip
              try simp only [Act.put, List.setIfInBounds_toArray, List.set_cons_zero, List.set_cons_succ]
              refine take_dstH (i := 10) (d := 29) (v := ?_) rfl rfl (by kernel_rfl) (by kernel_rfl) (by kernel_rfl) (fun _ _ _ h => h) (by rfl) hHeld ?_ ?_
              rotate_left
              · intro wZ hSw; clear hSw; go_simp; first | (with_reducible rfl) | (rw [if_pos (by omega)]; with_reducible rfl) | skip
              try simp only [Act.put, List.setIfInBounds_toArray, List.set_cons_zero, List.set_cons_succ]
              refine take_dstH (i := 11) (d := 30) (v := ?_) rfl rfl (by kernel_rfl) (by kernel_rfl) (by kernel_rfl) (fun _ _ _ h => h) (by rfl) hHeld ?_ ?_
              rotate_left
              · intro wZ hSw; clear hSw; go_simp; first | (with_reducible rfl) | (rw [if_pos (by omega)]; with_reducible rfl) | skip
              try simp only [Act.put, List.setIfInBounds_toArray, List.set_cons_zero, List.set_cons_succ]
              refine take_dstH (i := 12) (d := 31) (v := ?_) rfl rfl (by kernel_rfl) (by kernel_rfl) (by kernel_rfl) (fun _ _ _ h => h) (by rfl) hHeld ?_ ?_
              rotate_left
              · intro wZ hSw; clear hSw; go_simp; first | (with_reducible rfl) | (rw [if_pos (by omega)]; with_reducible rfl) | skip
              try simp only [Act.put, List.setIfInBounds_toArray, List.set_cons_zero, List.set_cons_succ]
              refine take_dstH (i := 13) (d := 32) (v := ?_) rfl rfl (by kernel_rfl) (by kernel_rfl) (by kernel_rfl) (fun _ _ _ h => h) (by rfl) hHeld ?_ ?_
              rotate_left
              · intro wZ hSw; have hfS := C2.out wZ hSw; clear hSw; go_simp; first | (with_reducible rfl) | (rw [if_pos (by omega)]; with_reducible rfl) | skip
              try simp only [Act.put, List.setIfInBounds_toArray, List.set_cons_zero, List.set_cons_succ]
              refine take_dstH (i := 14) (d := 33) (v := ?_) rfl rfl (by kernel_rfl) (by kernel_rfl) (by kernel_rfl) (fun _ _ _ h => h) (by rfl) hHeld ?_ ?_
              rotate_left
              · intro wZ hSw; clear hSw; go_simp; first | (with_reducible rfl) | (rw [if_pos (by omega)]; with_reducible rfl) | skip
              try simp only [Act.put, List.setIfInBounds_toArray, List.set_cons_zero, List.set_cons_succ]
              refine take_dstH (i := 15) (d := 34) (v := ?_) rfl rfl (by kernel_rfl) (by kernel_rfl) (by kernel_rfl) (fun _ _ _ h => h) (by rfl) hHeld ?_ ?_
              rotate_left
              · intro wZ hSw; clear hSw; go_simp; first | (with_reducible rfl) | (rw [if_pos (by omega)]; with_reducible rfl) | skip
              try simp only [Act.put, List.setIfInBounds_toArray, List.set_cons_zero, List.set_cons_succ]
              refine take_dstH (i := 16) (d := 35) (v := ?_) rfl rfl (by kernel_rfl) (by kernel_rfl) (by kernel_rfl) (fun _ _ _ h => h) (by rfl) hHeld ?_ ?_
              rotate_left
              · intro wZ hSw; clear hSw; go_simp; first | (with_reducible rfl) | (rw [if_pos (by omega)]; with_reducible rfl) | skip
              try simp only [Act.put, List.setIfInBounds_toArray, List.set_cons_zero, List.set_cons_succ]
              refine wpAnyH_ready (rs := [17]) (by kernel_rfl) (by simp) ?_
              refine (AllReadyH.cons rfl (fun K hK => ?_) AllReadyH.nil)
              go_simp
              refine hK.out _ _ ?_ (fun hHeld => ?_)
              · exact OLD.out _ _ (HR.out.drew.set (i * 4 + k) _)
              clear hK K
              try simp only [Act.put, List.setIfInBounds_toArray, List.set_cons_zero, List.set_cons_succ]
              refine wpAnyH_done (by kernel_rfl) ?_ _
              clear hHeld
              go_wp2
              go_roundg (4 - k)
              case measure => omega
              case rel =>
                refine ⟨k + 1, by go_num, by omega, by omega, ?_⟩
                have := (HR.out.set (i * 4 + k) y).drew
                rw [HN.out] at this
                exact this
        · have e : k = 4 := by omega
          subst e
          have hpb : p < 256 := by rw [HP.out]; exact HC.out.pb i
          by_cases hpw : 4 ≤ i ∧ i % 4 = 0
          · obtain ⟨h4, h0⟩ := hpw
            have h4' : (4 : Int) ≤ (i : Int) := by omega
            have r0 : Int.tmod (i : Int) 4 = 0 := by rw [Int.tmod_eq_emod_of_nonneg (by omega)]; omega
            have r1 : (i : Int) % 4 = 0 := by omega
            have hW := hide (HC.out.wl i)
            have fw := HR.out.c.frozen (i * 4)
            have hc := HR.out.atC (i := i * 4) (by rw [part_length _ _ _ hW.out (by omega)]; omega)
            rw [part_get' _ _ _ _ hW.out (by omega) (by omega)] at hc
            have HN := hide (HC.out.lastP i h4 hlt h0)
            have HPN := hide (HC.out.pp i h4 h0)
            have HT := hide (fun v => rtimes_any p 2 hpb (by omega) v)
            have ex := u8_xor_nat _ _ (HC.out.wb i (i * 4)) hpb
            rw [← HP.out] at HN HPN
            rw [← HPN.out] at HT
            generalize (W i).getD (i * 4) 0 = x at *
            generalize x ^^^ p = y at *
            generalize hpn : PW (i + 1) = pn at *
            have HPN2 := hide hpn
            clear hpn
            go_wp2_with fail
            refine wp_region_held_drew (S := fun v => Hid (StK w v key)) (by kernel_rfl) (hide HR.out.k) (fun hHeld => ?_)
            refine take_dstH (i := 0) (d := 81) (v := ?_) rfl rfl (by kernel_rfl) (by kernel_rfl) (by kernel_rfl) (fun _ _ _ h => h) (by rfl) hHeld ?_ ?_
            rotate_left
            · intro wZ hSw; clear hSw; go_simp; first | (with_reducible rfl) | (rw [if_pos (by omega)]; with_reducible rfl) | skip
            try simp only [Act.put, List.setIfInBounds_toArray, List.set_cons_zero, List.set_cons_succ]
            refine take_dstH (i := 1) (d := 82) (v := ?_) rfl rfl (by kernel_rfl) (by kernel_rfl) (by kernel_rfl) (fun _ _ _ h => h) (by rfl) hHeld ?_ ?_
            rotate_left
            · intro wZ hSw; clear hSw; go_simp; first | (with_reducible rfl) | (rw [if_pos (by omega)]; with_reducible rfl) | skip
            try simp only [Act.put, List.setIfInBounds_toArray, List.set_cons_zero, List.set_cons_succ]
            refine take_dstH (i := 2) (d := 83) (v := ?_) rfl rfl (by kernel_rfl) (by kernel_rfl) (by kernel_rfl) (fun _ _ _ h => h) (by rfl) hHeld ?_ ?_
            rotate_left
            · intro wZ hSw; clear hSw; go_simp; first | (with_reducible rfl) | (rw [if_pos (by omega)]; with_reducible rfl) | skip
            try simp only [Act.put, List.setIfInBounds_toArray, List.set_cons_zero, List.set_cons_succ]
            refine take_dstH (i := 3) (d := 84) (v := ?_) rfl rfl (by kernel_rfl) (by kernel_rfl) (by kernel_rfl) (fun _ _ _ h => h) (by rfl) hHeld ?_ ?_
            rotate_left
            · intro wZ hSw; clear hSw; go_simp; first | (with_reducible rfl) | (rw [if_pos (by omega)]; with_reducible rfl) | skip
            try simp only [Act.put, List.setIfInBounds_toArray, List.set_cons_zero, List.set_cons_succ]
            refine take_dstH (i := 5) (d := 86) (v := ?_) rfl rfl (by kernel_rfl) (by kernel_rfl) (by kernel_rfl) (fun _ _ _ h => h) (by rfl) hHeld ?_ ?_
            rotate_left
            · intro wZ hSw; clear hSw; go_simp; first | (with_reducible rfl) | (rw [if_pos (by omega)]; with_reducible rfl) | skip
            try simp only [Act.put, List.setIfInBounds_toArray, List.set_cons_zero, List.set_cons_succ]
            refine take_dstH (i := 7) (d := 88) (v := ?_) rfl rfl (by kernel_rfl) (by kernel_rfl) (by kernel_rfl) (fun _ _ _ h => h) (by rfl) hHeld ?_ ?_
            rotate_left
            · intro wZ hSw; clear hSw; go_simp; first | (with_reducible rfl) | (rw [if_pos (by omega)]; with_reducible rfl) | skip
            try simp only [Act.put, List.setIfInBounds_toArray, List.set_cons_zero, List.set_cons_succ]
            refine wpAnyH_ready (rs := [4]) (by kernel_rfl) (by simp) ?_
            refine (AllReadyH.cons rfl (fun K hK => ?_) AllReadyH.nil)
            go_simp
            refine hK.out _ _ ?_ (fun hHeld => ?_)
            · exact hHeld
            clear hK K
            try simp only [Act.put, List.setIfInBounds_toArray, List.set_cons_zero, List.set_cons_succ]
            refine take_dstH (i := 6) (d := 87) (v := ?_) rfl rfl (by kernel_rfl) (by kernel_rfl) (by kernel_rfl) (fun _ _ _ h => h) (by rfl) hHeld ?_ ?_
            rotate_left
            · intro wZ hSw; clear hSw; go_simp; first | (with_reducible rfl) | (rw [if_pos (by omega)]; with_reducible rfl) | skip
            try simp only [Act.put, List.setIfInBounds_toArray, List.set_cons_zero, List.set_cons_succ]
            refine take_dstH (i := 8) (d := 89) (v := ?_) rfl rfl (by kernel_rfl) (by kernel_rfl) (by kernel_rfl) (fun _ _ _ h => h) (by rfl) hHeld ?_ ?_
            rotate_left
            · intro wZ hSw; clear hSw; go_simp; first | (with_reducible rfl) | (rw [if_pos (by omega)]; with_reducible rfl) | skip
            try simp only [Act.put, List.setIfInBounds_toArray, List.set_cons_zero, List.set_cons_succ]
            refine wpAnyH_ready (rs := [9]) (by kernel_rfl) (by simp) ?_
            refine (AllReadyH.cons rfl (fun K hK => ?_) AllReadyH.nil)
            go_simp
            refine hK.out _ _ ?_ (fun hHeld => ?_)
            · exact hide (HR.out.drew.set (i * 4) _).k
            clear hK K
            try simp only [Act.put, List.setIfInBounds_toArray, List.set_cons_zero, List.set_cons_succ]
            refine wpAnyH_done (by kernel_rfl) ?_ _
            clear hHeld
            go_wp2_with (refine (HT.out _).mono ?_; rintro e wt ⟨rfl, hwt⟩; subst hwt)
            go_roundg (44 - i)
            case measure => omega
            case rel =>
              refine ⟨i + 1, pn, rfl, by go_num, by omega, by omega, HPN2.out.symm, ?_⟩
              have := (HR.out.set (i * 4) y).drew
              rw [HN.out] at this
              exact this
          · have HN := hide (HC.out.last i hlt hpw)
            have HPN := hide (HC.out.pn i hpw)
            rw [HN.out] at HR
            by_cases h4 : 4 ≤ i
            · have h4' : (4 : Int) ≤ (i : Int) := by omega
              obtain ⟨u, hu⟩ : ∃ u, u = i % 4 := ⟨_, rfl⟩
              have r0 : Int.tmod (i : Int) 4 = (u : Int) := by rw [Int.tmod_eq_emod_of_nonneg (by omega)]; omega
              have r1 : (i : Int) % 4 = (u : Int) := by omega
              have r2 : ¬ (u : Int) = 0 := by omega
              have r3 : ((u : Int) == 0) = false := by rw [beq_eq_false_iff_ne]; exact r2
              clear hu hpw
              go_wp2
              go_roundg (44 - i)
              case measure => omega
              case rel => exact ⟨i + 1, p, rfl, by go_num, by omega, by omega, by rw [HPN.out]; exact HP, HR⟩
            · have h4' : ¬ (4 : Int) ≤ (i : Int) := by omega
              clear hpw
              go_wp2
              go_roundg (44 - i)
              case measure => omega
              case rel => exact ⟨i + 1, p, rfl, by go_num, by omega, by omega, by rw [HPN.out]; exact HP, HR⟩
    · have e : i = 44 := by omega
      subst e
      rw [part_full _ _ HC.out.tl] at HR
      clear HP
      have TL := hide HC.out.tl
      have G0 : Hid (StC w (wr.alloc (Obj.cells (u8s z176).toArray 68)) key s T ∧ Arr (wr.alloc (Obj.cells (u8s z176).toArray 68)) wr.heap.size 68 (u8s z176) ∧ w.heap.size + 1 + 1 + 1 < wr.heap.size) :=
        ⟨⟨HR.out.k.alloc _, HR.out.t.alloc _, HR.out.r.alloc _, HR.out.c.alloc _, HR.out.b.alloc HR.out.b.size _⟩, Arr.new wr _ (u8s z176), HR.out.c.lt⟩
      go_wp2
      generalize wr.alloc (Obj.cells (u8s z176).toArray 68) = wq at *
      generalize wr.heap.size = g at *
      go_loopg [10] 177 (fun f0 s10 wx => ∃ (i : Nat), s10 = .int .i64 i ∧ i ≤ 176 ∧ 176 - i < f0 ∧ Hid (StC w wx key s T ∧ Arr wx g 68 (u8s (part T 176 i)) ∧ w.heap.size + 1 + 1 + 1 < g))
      case atStart =>
        refine ⟨0, rfl, by omega, by omega, ?_⟩
        rw [part_zero176]
        exact G0
      case round =>
        clear HR G0
        obtain ⟨i, rfl, hi, hf3, HR⟩ := hrel
        by_cases hi176 : i < 176
        · obtain ⟨a1, ha1⟩ : ∃ a, a = i / 16 := ⟨_, rfl⟩
          obtain ⟨a2, ha2⟩ : ∃ a, a = i % 16 := ⟨_, rfl⟩
          obtain ⟨c1, hc1⟩ : ∃ a, a = i / 4 := ⟨_, rfl⟩
          obtain ⟨c2, hc2⟩ : ∃ a, a = i % 4 := ⟨_, rfl⟩
          have z1 : Int.tdiv (i : Int) 16 = (a1 : Int) := by rw [Int.tdiv_eq_ediv_of_nonneg (by omega)]; omega
          have z1' : (i : Int) / 16 = (a1 : Int) := by omega
          have z1w : IntKind.i64.wrap (a1 : Int) = (a1 : Int) := by simp [IntKind.wrap, IntKind.bits, IntKind.signed]; omega
          have z2 : Int.tmod (i : Int) 16 = (a2 : Int) := by rw [Int.tmod_eq_emod_of_nonneg (by omega)]; omega
          have z2' : (i : Int) % 16 = (a2 : Int) := by omega
          have z2w : IntKind.i64.wrap (a2 : Int) = (a2 : Int) := by simp [IntKind.wrap, IntKind.bits, IntKind.signed]; omega
          have z3 : Int.tdiv (i : Int) 4 = (c1 : Int) := by rw [Int.tdiv_eq_ediv_of_nonneg (by omega)]; omega
          have z3' : (i : Int) / 4 = (c1 : Int) := by omega
          have z3w : IntKind.i64.wrap (c1 : Int) = (c1 : Int) := by simp [IntKind.wrap, IntKind.bits, IntKind.signed]; omega
          have z4 : Int.tmod (i : Int) 4 = (c2 : Int) := by rw [Int.tmod_eq_emod_of_nonneg (by omega)]; omega
          have z4' : (i : Int) % 4 = (c2 : Int) := by omega
          have z4w : IntKind.i64.wrap (c2 : Int) = (c2 : Int) := by simp [IntKind.wrap, IntKind.bits, IntKind.signed]; omega
          have y1 : (a1 : Int) < 11 := by omega
          have y2 : (a2 : Int) < 16 := by omega
          have y3 : (c1 : Int) < 44 := by omega
          have y4 : (c2 : Int) < 4 := by omega
          have ea : Hid (a1 * 16 + a2 = i) := by show _ = _; omega
          have ec : Hid (c1 * 4 + c2 = i) := by show _ = _; omega
          clear ha1 ha2 hc1 hc2
          have LC : Hid (∀ v : World, Hid (Arr v (w.heap.size + 1 + 1 + 1) 87 (u8s T)) → v.cell? ⟨w.heap.size + 1 + 1 + 1, c1 * 4 + c2, none⟩ = some (.int .u8 ((T.getD i 0 : Nat) : Int))) := fun v h => by rw [ec.out]; exact (h.out.cell i).trans (u8s_at (by rw [TL.out]; exact hi176))
          have fw := HR.out.2.1.frozen (a1 * 16 + a2)
          have hc : wr.cell? ⟨g, a1 * 16 + a2, none⟩ = some (.int .u8 (((part T 176 i).getD i 0 : Nat) : Int)) := by rw [ea.out]; exact (HR.out.2.1.cell i).trans (u8s_at (by rw [part_length _ _ _ TL.out (by omega)]; exact hi176))
          have HN := hide (part_set T 176 i TL.out hi176)
          generalize (part T 176 i).getD i 0 = old at *
          generalize T.getD i 0 = y at *
          go_wp2_with fail
          refine wp_region_held_drew (S := fun v => Hid (Arr v (w.heap.size + 1 + 1 + 1) 87 (u8s T))) (by kernel_rfl) (hide HR.out.1.c) (fun hHeld => ?_)
          refine take_dstH (i := 0) (d := 96) (v := ?_) rfl rfl (by kernel_rfl) (by kernel_rfl) (by kernel_rfl) (fun _ _ _ h => h) (by rfl) hHeld ?_ ?_
          rotate_left
          · intro wZ hSw; clear hSw; go_simp; first | (with_reducible rfl) | (rw [if_pos (by omega)]; with_reducible rfl) | skip
          try simp only [Act.put, List.setIfInBounds_toArray, List.set_cons_zero, List.set_cons_succ]
          refine take_dstH (i := 1) (d := 97) (v := ?_) rfl rfl (by kernel_rfl) (by kernel_rfl) (by kernel_rfl) (fun _ _ _ h => h) (by rfl) hHeld ?_ ?_
          rotate_left
          · intro wZ hSw; clear hSw; go_simp; first | (with_reducible rfl) | (rw [if_pos (by omega)]; with_reducible rfl) | skip
          try simp only [Act.put, List.setIfInBounds_toArray, List.set_cons_zero, List.set_cons_succ]
          refine take_dstH (i := 2) (d := 98) (v := ?_) rfl rfl (by kernel_rfl) (by kernel_rfl) (by kernel_rfl) (fun _ _ _ h => h) (by rfl) hHeld ?_ ?_
          rotate_left
          · intro wZ hSw; clear hSw; go_simp; first | (with_reducible rfl) | (rw [if_pos (by omega)]; with_reducible rfl) | skip
          try simp only [Act.put, List.setIfInBounds_toArray, List.set_cons_zero, List.set_cons_succ]
          refine take_dstH (i := 3) (d := 99) (v := ?_) rfl rfl (by kernel_rfl) (by kernel_rfl) (by kernel_rfl) (fun _ _ _ h => h) (by rfl) hHeld ?_ ?_
          rotate_left
          · intro wZ hSw; clear hSw; go_simp; first | (with_reducible rfl) | (rw [if_pos (by omega)]; with_reducible rfl) | skip
          try simp only [Act.put, List.setIfInBounds_toArray, List.set_cons_zero, List.set_cons_succ]
          refine take_dstH (i := 4) (d := 100) (v := ?_) rfl rfl (by kernel_rfl) (by kernel_rfl) (by kernel_rfl) (fun _ _ _ h => h) (by rfl) hHeld ?_ ?_
          rotate_left
          · intro wZ hSw; clear hSw; go_simp; first | (with_reducible rfl) | (rw [if_pos (by omega)]; with_reducible rfl) | skip
          try simp only [Act.put, List.setIfInBounds_toArray, List.set_cons_zero, List.set_cons_succ]
          refine take_dstH (i := 5) (d := 101) (v := ?_) rfl rfl (by kernel_rfl) (by kernel_rfl) (by kernel_rfl) (fun _ _ _ h => h) (by rfl) hHeld ?_ ?_
          rotate_left
          · intro wZ hSw; clear hSw; go_simp; first | (with_reducible rfl) | (rw [if_pos (by omega)]; with_reducible rfl) | skip
          try simp only [Act.put, List.setIfInBounds_toArray, List.set_cons_zero, List.set_cons_succ]
          refine take_dstH (i := 6) (d := 102) (v := ?_) rfl rfl (by kernel_rfl) (by kernel_rfl) (by kernel_rfl) (fun _ _ _ h => h) (by rfl) hHeld ?_ ?_
          rotate_left
          · intro wZ hSw; clear hSw; go_simp; first | (with_reducible rfl) | (rw [if_pos (by omega)]; with_reducible rfl) | skip
          try simp only [Act.put, List.setIfInBounds_toArray, List.set_cons_zero, List.set_cons_succ]
          refine take_dstH (i := 7) (d := 103) (v := ?_) rfl rfl (by kernel_rfl) (by kernel_rfl) (by kernel_rfl) (fun _ _ _ h => h) (by rfl) hHeld ?_ ?_
          rotate_left
          · intro wZ hSw; clear hSw; go_simp; first | (with_reducible rfl) | (rw [if_pos (by omega)]; with_reducible rfl) | skip
          try simp only [Act.put, List.setIfInBounds_toArray, List.set_cons_zero, List.set_cons_succ]
          refine take_dstH (i := 8) (d := 104) (v := ?_) rfl rfl (by kernel_rfl) (by kernel_rfl) (by kernel_rfl) (fun _ _ _ h => h) (by rfl) hHeld ?_ ?_
          rotate_left
          · intro wZ hSw; clear hSw; go_simp; first | (with_reducible rfl) | (rw [if_pos (by omega)]; with_reducible rfl) | skip
          try simp only [Act.put, List.setIfInBounds_toArray, List.set_cons_zero, List.set_cons_succ]
          refine take_dstH (i := 9) (d := 105) (v := ?_) rfl rfl (by kernel_rfl) (by kernel_rfl) (by kernel_rfl) (fun _ _ _ h => h) (by rfl) hHeld ?_ ?_
          rotate_left
          · intro wZ hSw; clear hSw; go_simp; first | (with_reducible rfl) | (rw [if_pos (by omega)]; with_reducible rfl) | skip
          try simp only [Act.put, List.setIfInBounds_toArray, List.set_cons_zero, List.set_cons_succ]
          refine take_dstH (i := 10) (d := 106) (v := ?_) rfl rfl (by kernel_rfl) (by kernel_rfl) (by kernel_rfl) (fun _ _ _ h => h) (by rfl) hHeld ?_ ?_
          rotate_left
          · intro wZ hSw; have hfS := LC.out wZ hSw; clear hSw; go_simp; first | (with_reducible rfl) | (rw [if_pos (by omega)]; with_reducible rfl) | skip
          try simp only [Act.put, List.setIfInBounds_toArray, List.set_cons_zero, List.set_cons_succ]
          refine take_dstH (i := 11) (d := 107) (v := ?_) rfl rfl (by kernel_rfl) (by kernel_rfl) (by kernel_rfl) (fun _ _ _ h => h) (by rfl) hHeld ?_ ?_
          rotate_left
          · intro wZ hSw; clear hSw; go_simp; first | (with_reducible rfl) | (rw [if_pos (by omega)]; with_reducible rfl) | skip
          try simp only [Act.put, List.setIfInBounds_toArray, List.set_cons_zero, List.set_cons_succ]
          refine take_dstH (i := 12) (d := 108) (v := ?_) rfl rfl (by kernel_rfl) (by kernel_rfl) (by kernel_rfl) (fun _ _ _ h => h) (by rfl) hHeld ?_ ?_
          rotate_left
          · intro wZ hSw; clear hSw; go_simp; first | (with_reducible rfl) | (rw [if_pos (by omega)]; with_reducible rfl) | skip
          try simp only [Act.put, List.setIfInBounds_toArray, List.set_cons_zero, List.set_cons_succ]
          refine wpAnyH_ready (rs := [13]) (by kernel_rfl) (by simp) ?_
          refine (AllReadyH.cons rfl (fun K hK => ?_) AllReadyH.nil)
          go_simp
          refine hK.out _ _ ?_ (fun hHeld => ?_)
          · exact hide (Arr.other (Hid.out hHeld) _ _ (Nat.ne_of_lt HR.out.2.2))
          clear hK K
          try simp only [Act.put, List.setIfInBounds_toArray, List.set_cons_zero, List.set_cons_succ]
          refine wpAnyH_done (by kernel_rfl) ?_ _
          clear hHeld
          go_wp2
          go_roundg (176 - i)
          case measure => omega
          case rel =>
            refine ⟨i + 1, by go_num, by omega, by omega, ?_⟩
            obtain ⟨h1, h2, h3⟩ := HR.out
            have hs := h2.set i (.int .u8 (y : Int))
            rw [u8s_set, HN.out] at hs
            rw [ea.out]
            exact ⟨(StC.out h1 h3 i y).drew, hs, h3⟩
        · have e : i = 176 := by omega
          subst e
          rw [part_full _ _ TL.out] at HR
          have K0 := hide HR.out.2.1
          have K2 := hide HR.out.1.r
          have KB := hide HR.out.1.b
          have T1 : Hid ((Tryd.prog.info? 68).map (·.size) = some (u8s T).toArray.size) := by show _ = _; rw [info176]; simp [u8s, TL.out]
          have T2 : Hid ((u8s z176).toArray.size = (u8s T).toArray.size) := by show _ = _; simp [u8s, TL.out, z176]
          have O2 := hide (one_u8s T)
          clear HR
          go_wp2_with (first
            | (refine wpList_load_row rfl 68 _ rfl g rfl 68 _ (0, 0) _ K0.out Tryd.underlying68 rfl T1.out ?_)
            | (refine wpList_store_row rfl 68 _ _ rfl (w.heap.size + 1 + 1) _ rfl rfl 68 _ K2.out T1.out T2.out O2.out ?_))
          exact bodyPost_ret (v := .agg (u8s T).toArray) (results_cell_row Tryd.results35 _ _ (w.heap.size + 1 + 1) 68 _ (0, 0) _ rfl (K2.out.row _) Tryd.underlying68 rfl T1.out) rfl ⟨rfl, below_setRow KB.out (by omega) K2.out.lt _⟩

end Go.Proofs.YtjiipiolckddnaaDoor

/- Plain facts on blocks and rounds, with nothing of the program in them: the round behind a round, byte by byte; unlike keys have unlike rounds. -/
namespace Go.Proofs.YtjiipiolckddnaaDoor
open Go.RowKit

theorem blk_ext {a b : List Nat} (ha : Blk a) (hb : Blk b) (h : ∀ i, i < 16 → a.getD i 0 = b.getD i 0) : a = b := by
  apply List.ext_getElem (by rw [ha.len, hb.len])
  intro i h1 h2
  have := h i (by rw [ha.len] at h1; exact h1)
  simpa [List.getD, h1, h2] using this

theorem blk_split {b : List Nat} (h : b.length = 16) : ∃ k0 k1 k2 k3 k4 k5 k6 k7 k8 k9 k10 k11 k12 k13 k14 k15, b = [k0, k1, k2, k3, k4, k5, k6, k7, k8, k9, k10, k11, k12, k13, k14, k15] := by
  match b, h with
  | [k0, k1, k2, k3, k4, k5, k6, k7, k8, k9, k10, k11, k12, k13, k14, k15], _ => exact ⟨k0, k1, k2, k3, k4, k5, k6, k7, k8, k9, k10, k11, k12, k13, k14, k15, rfl⟩

/-- a byte of the round behind, but for the first column -/
theorem nx_next (s b : List Nat) (p m : Nat) (hm : m + 4 < 16) : (nxL s b p).getD (m + 4) 0 = (nxL s b p).getD m 0 ^^^ b.getD (m + 4) 0 := by
  rw [nxL_at _ _ _ _ hm, nxL_at _ _ _ _ (by omega)]
  generalize colF s b p = c
  have e0 : (m + 4) % 4 = m % 4 := by omega
  rw [e0]
  rw [show m + 4 + 1 = (m + 4) + 1 from rfl, nC, if_pos e0]
  rw [show m + 4 = (m + 3) + 1 from rfl, nC, if_neg (by omega)]
  rw [show m + 3 = (m + 2) + 1 from rfl, nC, if_neg (by omega)]
  rw [show m + 2 = (m + 1) + 1 from rfl, nC, if_neg (by omega)]
theorem nx_first (s b : List Nat) (p i : Nat) (hi : i < 4) : (nxL s b p).getD i 0 = (colF s b p).getD i 0 ^^^ b.getD i 0 := by
  rw [nxL_at _ _ _ _ (by omega)]
  generalize colF s b p = c
  rcases (show i = 0 ∨ i = 1 ∨ i = 2 ∨ i = 3 by omega) with rfl | rfl | rfl | rfl <;> simp [nC]

theorem xor_left_inj {x y z : Nat} (h : x ^^^ y = x ^^^ z) : y = z := by
  have := congrArg (fun t => x ^^^ t) h
  simpa [← Nat.xor_assoc] using this

theorem nx_inj {s b b' : List Nat} {p : Nat} (hb : Blk b) (hb' : Blk b') (h : nxL s b p = nxL s b' p) : b = b' := by
  have hi4 : ∀ m, m + 4 < 16 → b.getD (m + 4) 0 = b'.getD (m + 4) 0 := fun m hm => by
    have h1 := nx_next s b p m hm
    have h2 := nx_next s b' p m hm
    rw [h] at h1
    exact xor_left_inj (h1.symm.trans h2)
  have hc : colF s b p = colF s b' p := by
    unfold colF
    rw [hi4 8 (by omega), hi4 9 (by omega), hi4 10 (by omega), hi4 11 (by omega)]
  refine blk_ext hb hb' fun i hi => ?_
  by_cases h4 : i < 4
  · have h1 := nx_first s b p i h4
    have h2 := nx_first s b' p i h4
    rw [h, hc] at h1
    exact xor_left_inj (h1.symm.trans h2)
  · have := hi4 (i - 4) (by omega)
    rw [show i - 4 + 4 = i by omega] at this
    exact this

theorem rd_inj {s k k' : List Nat} (hs : ∀ i, s.getD i 0 < 256) (hk : Blk k) (hk' : Blk k') : ∀ j, rdF s k j = rdF s k' j → k = k'
  | 0, h => h
  | j + 1, h => rd_inj hs hk hk' j (nx_inj (rd_blk hs hk j) (rd_blk hs hk' j) h)

end Go.Proofs.YtjiipiolckddnaaDoor

/- Plain facts on a key's columns, with nothing of the program in them; the reference's rounds are the program's. -/
namespace Go.Proofs.YtjiipiolckddnaaDoor
open Go.RowKit

theorem list_ext {a b : List Nat} (hl : a.length = b.length) (h : ∀ i, i < a.length → a.getD i 0 = b.getD i 0) : a = b := by
  apply List.ext_getElem hl
  intro i h1 h2
  have := h i h1
  simpa [List.getD, h1, h2] using this
theorem part_at (T : List Nat) (n i j : Nat) (h : T.length = n) (hi : i ≤ n) (_hj : j < n) : (part T n i).getD j 0 = if j < i then T.getD j 0 else 0 := by
  by_cases hji : j < i
  · rw [if_pos hji]; exact part_get' T n i j h hji hi
  · rw [if_neg hji]
    simp only [part, List.getD, List.getElem?_append, List.length_take, h]
    rw [if_neg (by omega), List.getElem?_replicate]
    split <;> rfl
theorem set_is (l : List Nat) (i j x : Nat) (hi : i < l.length) : (l.set i x).getD j 0 = if i = j then x else l.getD j 0 := by
  by_cases e : i = j
  · subst e; rw [if_pos rfl]; exact set_at l i x hi
  · rw [if_neg e]; exact set_ne l i j x e

/-- the rounds' bytes, one behind the other -/
def tF (s key : List Nat) : List Nat := flF (rdF s key) 11
theorem tF_length {s key : List Nat} (h : key.length = 16) : (tF s key).length = 176 := flF_length (rdF_length h) 11
theorem tF_at {s key : List Nat} (h : key.length = 16) {j t : Nat} (hj : j < 11) (ht : t < 16) : (tF s key).getD (16 * j + t) 0 = (rdF s key j).getD t 0 := by
  have := flF_row (rdF_length (s := s) h) j t ht 11 hj
  simp only [List.getD, tF, this]
theorem tF_lt {s key : List Nat} (hs : ∀ i, s.getD i 0 < 256) (hk : Blk key) (j : Nat) : (tF s key).getD j 0 < 256 := by
  by_cases h : j < 176
  · have := tF_at (s := s) hk.len (show j / 16 < 11 by omega) (show j % 16 < 16 by omega)
    rw [show 16 * (j / 16) + j % 16 = j by omega] at this
    rw [this]
    exact rdF_lt hs hk.lt _ _
  · rw [List.getD, List.getElem?_eq_none (by rw [tF_length hk.len]; omega)]
    show (0 : Nat) < 256
    omega

/-- the first byte of a round's first column, ahead of what is added to it -/
def uF (s key : List Nat) (i : Nat) : Nat := (tF s key).getD ((i - 4) * 4) 0 ^^^ s.getD ((tF s key).getD ((i - 1) * 4 + 1) 0) 0
def wF (s key : List Nat) (i : Nat) : List Nat := if 4 ≤ i ∧ i % 4 = 0 ∧ i < 44 then (tF s key).set (i * 4) (uF s key i) else tF s key
def pF (i : Nat) : Nat := rcF ((i + 3) / 4 - 1)

theorem wF_else {s key : List Nat} {i : Nat} (h : ¬ (4 ≤ i ∧ i % 4 = 0 ∧ i < 44)) : wF s key i = tF s key := by rw [wF, if_neg h]
theorem wF_then {s key : List Nat} {i : Nat} (h : 4 ≤ i ∧ i % 4 = 0 ∧ i < 44) : wF s key i = (tF s key).set (i * 4) (uF s key i) := by rw [wF, if_pos h]

theorem col_at (s b : List Nat) (p k : Nat) (hk : k < 4) : (colF s b p).getD k 0 = if k = 0 then s.getD (b.getD 13 0) 0 ^^^ p else s.getD (b.getD (12 + (k + 1) % 4) 0) 0 := by
  rcases (show k = 0 ∨ k = 1 ∨ k = 2 ∨ k = 3 by omega) with rfl | rfl | rfl | rfl <;> rfl

/-- a byte of a first column -/
theorem tF_first {s key : List Nat} (hl : key.length = 16) {r k : Nat} (h1 : 1 ≤ r) (hr : r < 11) (hk : k < 4) :
    (tF s key).getD (16 * r + k) 0 = (if k = 0 then s.getD ((tF s key).getD (16 * (r - 1) + 13) 0) 0 ^^^ rcF (r - 1) else s.getD ((tF s key).getD (16 * (r - 1) + (12 + (k + 1) % 4)) 0) 0) ^^^ (tF s key).getD (16 * (r - 1) + k) 0 := by
  obtain ⟨q, rfl⟩ : ∃ q, r = q + 1 := ⟨r - 1, by omega⟩
  rw [Nat.add_sub_cancel, tF_at hl hr (by omega), tF_at hl (by omega) (by omega), tF_at hl (by omega) (by omega), tF_at hl (by omega) (by omega)]
  show (nxL s (rdF s key q) (rcF q)).getD k 0 = _
  rw [nx_first _ _ _ _ hk, col_at _ _ _ _ hk]
/-- .. of another one -/
theorem tF_next {s key : List Nat} (hl : key.length = 16) {r m : Nat} (h1 : 1 ≤ r) (hr : r < 11) (hm : m + 4 < 16) :
    (tF s key).getD (16 * r + (m + 4)) 0 = (tF s key).getD (16 * r + m) 0 ^^^ (tF s key).getD (16 * (r - 1) + (m + 4)) 0 := by
  obtain ⟨q, rfl⟩ : ∃ q, r = q + 1 := ⟨r - 1, by omega⟩
  rw [Nat.add_sub_cancel, tF_at hl hr (by omega), tF_at hl hr (by omega), tF_at hl (by omega) (by omega)]
  exact nx_next s (rdF s key q) (rcF q) m hm

theorem uF_lt {s key : List Nat} (hs : ∀ i, s.getD i 0 < 256) (hk : Blk key) (i : Nat) : uF s key i < 256 := xor_lt8 (tF_lt hs hk _) (hs _)
theorem wF_length {s key : List Nat} (hl : key.length = 16) (i : Nat) : (wF s key i).length = 176 := by
  by_cases h : 4 ≤ i ∧ i % 4 = 0 ∧ i < 44
  · rw [wF_then h, List.length_set, tF_length hl]
  · rw [wF_else h, tF_length hl]
theorem wF_at {s key : List Nat} (hl : key.length = 16) (i j : Nat) : (wF s key i).getD j 0 = if (4 ≤ i ∧ i % 4 = 0 ∧ i < 44) ∧ i * 4 = j then uF s key i else (tF s key).getD j 0 := by
  by_cases h : 4 ≤ i ∧ i % 4 = 0 ∧ i < 44
  · rw [wF_then h, set_is _ _ _ _ (by rw [tF_length hl]; omega)]
    by_cases e : i * 4 = j
    · rw [if_pos e, if_pos ⟨h, e⟩]
    · rw [if_neg e, if_neg (fun x => e x.2)]
  · rw [wF_else h, if_neg (fun x => h x.1)]

theorem uF_last {s key : List Nat} (hl : key.length = 16) {i : Nat} (h4 : 4 ≤ i) (hi : i < 44) (h0 : i % 4 = 0) : uF s key i ^^^ pF i = (tF s key).getD (i * 4) 0 := by
  have h := tF_first (s := s) hl (show 1 ≤ i / 4 by omega) (show i / 4 < 11 by omega) (show (0 : Nat) < 4 by omega)
  rw [if_pos rfl] at h
  rw [show i * 4 = 16 * (i / 4) + 0 by omega, h, uF, pF, show (i - 4) * 4 = 16 * (i / 4 - 1) + 0 by omega, show (i - 1) * 4 + 1 = 16 * (i / 4 - 1) + 13 by omega, show (i + 3) / 4 - 1 = i / 4 - 1 by omega]
  rw [Nat.xor_assoc, Nat.xor_comm]

theorem cols_is {key : List Nat} (hk : Blk key) : Cols key swT (tF swT key) (wF swT key) pF where
  tl := tF_length hk.len
  tb := tF_lt sw_lt hk
  wl := wF_length hk.len
  wb := fun i j => by
    rw [wF_at hk.len]
    split
    · exact uF_lt sw_lt hk i
    · exact tF_lt sw_lt hk j
  first := fun i => by
    by_cases hi : i * 4 ≤ 176
    · refine list_ext (by rw [part_length _ _ _ (tF_length hk.len) hi, part_length _ _ _ (wF_length hk.len i) hi]) fun j hj => ?_
      rw [part_length _ _ _ (tF_length hk.len) hi] at hj
      rw [part_at _ _ _ _ (tF_length hk.len) hi hj, part_at _ _ _ _ (wF_length hk.len i) hi hj, wF_at hk.len]
      by_cases hji : j < i * 4
      · rw [if_pos hji, if_pos hji, if_neg (by omega)]
      · rw [if_neg hji, if_neg hji]
    · rw [wF_else (by omega)]
  old := fun i j hj => by rw [wF_at hk.len, if_neg (by omega)]
  v0 := fun i k hi hk4 => by
    have h := tF_at (s := swT) hk.len (show (0 : Nat) < 11 by omega) (show 4 * i + k < 16 by omega)
    rw [wF_at hk.len, if_neg (by omega), show i * 4 + k = 16 * 0 + (4 * i + k) by omega, h]
    rfl
  v4 := fun i k h4 hi hk4 h0 => by
    rw [wF_at hk.len]
    by_cases e : k = 0
    · subst e
      rw [if_pos ⟨⟨h4, h0, hi⟩, rfl⟩, uF]
      rfl
    · rw [if_neg (by omega)]
      have h := tF_first (s := swT) hk.len (show 1 ≤ i / 4 by omega) (show i / 4 < 11 by omega) hk4
      rw [if_neg e] at h
      rw [show i * 4 + k = 16 * (i / 4) + k by omega, h, Nat.xor_comm, show 16 * (i / 4 - 1) + k = (i - 4) * 4 + k by omega, show 16 * (i / 4 - 1) + (12 + (k + 1) % 4) = (i - 1) * 4 + (k + 1) % 4 by omega]
  v1 := fun i k h4 hi hk4 h0 => by
    rw [wF_at hk.len, if_neg (fun x => h0 x.1.2.1)]
    have h := tF_next (s := swT) hk.len (show 1 ≤ i / 4 by omega) (show i / 4 < 11 by omega) (show 4 * (i % 4 - 1) + k + 4 < 16 by omega)
    rw [show i * 4 + k = 16 * (i / 4) + (4 * (i % 4 - 1) + k + 4) by omega, h, Nat.xor_comm, show 16 * (i / 4) + (4 * (i % 4 - 1) + k) = (i - 1) * 4 + k by omega, show 16 * (i / 4 - 1) + (4 * (i % 4 - 1) + k + 4) = (i - 4) * 4 + k by omega]
  last := fun i hi h => by rw [wF_else (fun x => h ⟨x.1, x.2.1⟩), Nat.succ_mul]
  lastP := fun i h4 hi h0 => by
    have hw := wF_length (s := swT) hk.len i
    have ht := tF_length (s := swT) hk.len
    rw [wF_at hk.len, if_pos ⟨⟨h4, h0, hi⟩, rfl⟩, uF_last hk.len h4 hi h0]
    refine list_ext (by rw [List.length_set, part_length _ _ _ hw (by omega), part_length _ _ _ ht (by omega)]) fun j hj => ?_
    rw [List.length_set, part_length _ _ _ hw (by omega)] at hj
    rw [set_is _ _ _ _ (by rw [part_length _ _ _ hw (by omega)]; omega), part_at _ _ _ _ hw (by omega) hj, part_at _ _ _ _ ht (by omega) hj, wF_at hk.len]
    by_cases e : i * 4 = j
    · rw [if_pos e, if_pos (by omega), e]
    · rw [if_neg e]
      by_cases hji : j < i * 4 + 4
      · rw [if_pos hji, if_neg (fun x => e x.2), if_pos (by omega)]
      · rw [if_neg hji, if_neg (by omega)]
  p0 := rfl
  pb := fun i => rcF_lt _
  pn := fun i h => by
    rw [pF, pF]
    congr 1
    by_cases h0 : i % 4 = 0
    · have : i < 4 := by omega
      omega
    · omega
  pp := fun i h4 h0 => by
    rw [pF, pF, tm_two (rcF_lt _), show (i + 1 + 3) / 4 - 1 = ((i + 3) / 4 - 1) + 1 by omega]
    rfl

theorem rrounds_any (key : List Nat) (w : World) (hk : Blk key) :
    Calls Tryd.prog 35 #[.agg (u8s key).toArray, .agg (u8s swT).toArray] w fun e w' => e = .returned (.agg (u8s (flF (rdF swT key) 11)).toArray) ∧ Below w.heap.size w w' :=
  rrounds_of key swT (tF swT key) (wF swT key) pF w hk.len swT_length sw_lt (cols_is hk)

end Go.Proofs.YtjiipiolckddnaaDoor

/- The reference's block hidden is the program's, with nothing of the program's walk in it. -/
namespace Go.Proofs.YtjiipiolckddnaaDoor
open Go.RowKit

theorem mix_at {X : List Nat} (hX : Blk X) {c q : Nat} (hc : c < 4) (hq : q < 4) : (mixL [2, 3, 1, 1] X).getD (4 * c + q) 0 =
    ((tmF 2 (X.getD (4 * c + q) 0) ^^^ tmF 3 (X.getD (4 * c + (q + 1) % 4) 0)) ^^^ X.getD (4 * c + (q + 2) % 4) 0) ^^^ X.getD (4 * c + (q + 3) % 4) 0 := by
  rw [mixL, range16_at, if_pos (by omega)]
  show (((0 ^^^ tmF (X.getD (4 * c + q - (4 * c + q) % 4 + ((4 * c + q) % 4 + 0) % 4) 0) 2) ^^^ tmF (X.getD (4 * c + q - (4 * c + q) % 4 + ((4 * c + q) % 4 + 1) % 4) 0) 3) ^^^ tmF (X.getD (4 * c + q - (4 * c + q) % 4 + ((4 * c + q) % 4 + 2) % 4) 0) 1) ^^^ tmF (X.getD (4 * c + q - (4 * c + q) % 4 + ((4 * c + q) % 4 + 3) % 4) 0) 1 = _
  have e0 : 4 * c + q - (4 * c + q) % 4 + ((4 * c + q) % 4 + 0) % 4 = 4 * c + q := by omega
  have e1 : 4 * c + q - (4 * c + q) % 4 + ((4 * c + q) % 4 + 1) % 4 = 4 * c + (q + 1) % 4 := by omega
  have e2 : 4 * c + q - (4 * c + q) % 4 + ((4 * c + q) % 4 + 2) % 4 = 4 * c + (q + 2) % 4 := by omega
  have e3 : 4 * c + q - (4 * c + q) % 4 + ((4 * c + q) % 4 + 3) % 4 = 4 * c + (q + 3) % 4 := by omega
  rw [e0, e1, e2, e3, Nat.zero_xor, tm_one (hX.lt _), tm_one (hX.lt _), tm_comm (hX.lt _) (show 2 < 256 by omega), tm_comm (hX.lt _) (show 3 < 256 by omega)]

theorem hds_is {key b : List Nat} (hk : Blk key) (hb : Blk b) :
    Hds (rdF swT key) (hdF (rdF swT key) b) (fun r => movL 1 (eachL swT (hdF (rdF swT key) b r))) (fun r => mixL [2, 3, 1, 1] (movL 1 (eachL swT (hdF (rdF swT key) b r)))) swT b (flF (rdF swT key) 11) where
  hL := rfl
  fb := rd_blk sw_lt hk
  bb := hdF_blk (rd_blk sw_lt hk) hb
  xb := fun _ => (eachL_blk sw_lt _).mov 1
  yb := fun _ => ((eachL_blk sw_lt _).mov 1).mix _
  b0 := fun i hi => by
    show (addL b (rdF swT key 0)).getD i 0 = _
    rw [addL, range16_at, if_pos hi]
  x0 := fun r i hi => by
    show (movL 1 (eachL swT (hdF (rdF swT key) b r))).getD i 0 = _
    rw [movL, range16_at, if_pos hi, eachL, range16_at, if_pos (Nat.mod_lt _ (by omega)), show (i + 4 * 1 * (i % 4)) % 16 = 4 * ((i / 4 + i % 4) % 4) + i % 4 by omega]
  y0 := fun _ c q hc hq => mix_at ((eachL_blk sw_lt _).mov 1) hc hq
  b1 := fun r hr i hi => by
    show (hdF (rdF swT key) b (r + 1)).getD i 0 = _
    rw [hdF, if_pos hr, addL, range16_at, if_pos hi]
  b2 := fun r hr i hi => by
    show (hdF (rdF swT key) b (r + 1)).getD i 0 = _
    rw [hdF, if_neg hr, addL, range16_at, if_pos hi]

theorem rhide_any (key b : List Nat) (w : World) (hk : Blk key) (hb : Blk b) :
    Calls Tryd.prog 50 #[.agg (u8s (flF (rdF swT key) 11)).toArray, .agg (u8s swT).toArray, .agg (u8s b).toArray] w fun e w' => e = .returned (.agg (u8s (hdF (rdF swT key) b 10)).toArray) ∧ Below w.heap.size w w' :=
  rhide_of _ _ _ _ swT b _ w swT_length sw_lt hb (hds_is hk hb)

end Go.Proofs.YtjiipiolckddnaaDoor
