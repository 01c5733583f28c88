/-
  Walks: all bytes swapped, out of the powers of 3; and what each byte was.
-/
import Derived.Test.YtflakgigekfgcaaEC
namespace Go.Proofs.Ytflakgigekfgcaa
open Go.RowKit

theorem info8s : (Try.prog.info? 5).map (fun i => (i.zero, i.size, i.bytes)) = some (some (.int .u8 0), 1, 1) := by kernel_rfl
theorem info255 : (Try.prog.info? 72).map (·.size) = some 255 := by kernel_rfl

theorem run_index255 (T : List Nat) (i x : Nat) (w : World) (hi : i < 255) (hx : (u8s T)[i]? = some (.int .u8 ((x : Nat) : Int))) :
    (Instr.index 72 (Value.agg (u8s T).toArray) (Value.int IntKind.i64 (i : Int))).run Try.prog w = .ok (.int .u8 ((x : Nat) : Int)) w := by
  obtain ⟨i0, hi0, hz0, hz1, hz2⟩ := info_parts info8s
  unfold Instr.index
  simp [asIntOf, run_underlying Try.underlying72 w, hi, Go.sizeOf, typeInfo, hi0, hz1, Go.part, hx]

def z256 : List Nat := List.replicate 256 0
def z255 : List Nat := List.replicate 255 0
theorem zero256 (v : World) : (zeroValue 52).run Try.prog v = .ok (.agg (u8s z256).toArray) v := by kernel_rfl
theorem zero255 (v : World) : (zeroValue 72).run Try.prog v = .ok (.agg (u8s z255).toArray) v := by kernel_rfl

/-- what lies in memory while the powers are written -/
def SwA (w wr : World) (P : List Nat) : Prop :=
  Arr wr w.heap.size 52 (u8s z256) ∧ Arr wr (w.heap.size + 1) 72 (u8s P) ∧ Below w.heap.size w wr

theorem SwA.set {w wr : World} {P : List Nat} (r : SwA w wr P) (i x : Nat) : SwA w (wr.setCell ⟨w.heap.size + 1, i, none⟩ (.int .u8 ((x : Nat) : Int))) (P.set i x) := by
  obtain ⟨h0, h1, h2⟩ := r
  refine ⟨h0.other _ _ (show w.heap.size ≠ w.heap.size + 1 by omega), ?_, h2.setCell (show w.heap.size ≤ w.heap.size + 1 by omega) _⟩
  have := h1.set i (.int .u8 ((x : Nat) : Int))
  rw [u8s_set] at this
  exact this

/-- .. and while all bytes swapped are -/
def SwB (w wr : World) (g : Nat) (P A : List Nat) : Prop := SwA w wr P ∧ Arr wr g 52 (u8s A) ∧ w.heap.size + 1 < g

theorem SwB.set {w wr : World} {g : Nat} {P A : List Nat} (r : SwB w wr g P A) (i x : Nat) : SwB w (wr.setCell ⟨g, i, none⟩ (.int .u8 ((x : Nat) : Int))) g P (A.set i x) := by
  obtain ⟨⟨h0, h1, h2⟩, h3, h4⟩ := r
  refine ⟨⟨h0.other _ _ (show w.heap.size ≠ g by omega), h1.other _ _ (show w.heap.size + 1 ≠ g by omega), h2.setCell (show w.heap.size ≤ g by omega) _⟩, ?_, h4⟩
  have := h3.set i (.int .u8 ((x : Nat) : Int))
  rw [u8s_set] at this
  exact this

def c256 : Array Value := ((u8s z256).set 0 (Value.int .u8 99)).toArray

theorem wpList_build_to {P : Program} {ops : Array Oper} {rest : List Oper} {o : Oper} {a : Act} {w : World} {Q : Exit → Act → World → Prop} (hg : o.guard = none) (t : TypeId) (parts : Array (Nat × Operand)) (ho : o.op = .build t parts) (vs : List (Nat × Value)) (hv : (parts.map fun (i, x) => (i, a.eval x)).toList = vs) (C : Array Value) (hb : P.built t vs = some C)
    (h : wpList P ops Q rest (a.put o.dst (.agg C)) w) : wpList P ops Q (o :: rest) a w :=
  wpList_build hg t parts ho (by rw [hv, hb]; rfl) (by rw [hv, hb]; exact h)


set_option maxHeartbeats 8000000 in
set_option maxRecDepth 100000 in
theorem swaps_of (P F : List Nat) (L : Nat → List Nat) (w : World) (hLF : F = L 255) (hPL : P.length = 255) (hPB : ∀ i, P.getD i 0 < 256) (hP0 : P.getD 0 0 = 1) (hPN : ∀ i, i < 255 → tmF (P.getD i 0) 3 = P.getD ((i + 1) % 255) 0)
    (hL0 : L 0 = z256.set 0 99) (hLL : ∀ i, (L i).length = 256) (hLN : ∀ i, L (i + 1) = (L i).set (P.getD i 0) (spF (P.getD ((255 - i) % 255) 0))) :
    Calls Try.prog 34 #[] w fun e w' => e = .returned (.agg (u8s F).toArray) ∧ Below w.heap.size w w' := by
  have LF := hide hLF
  have PL := hide hPL
  have PB := hide hPB
  have P0 := hide hP0
  have PN := hide hPN
  have L0 := hide hL0
  have LL := hide hLL
  have LN := hide hLN
  clear hLF hPL hPB hP0 hPN hL0 hLL hLN
  have Z1 := zero256
  have Z2 := zero255
  go_enter Try.func34, Try.ntmps34
  go_wp2
  go_loopg [2, 7] 256 (fun f s2 s7 wr => ∃ (i p : Nat), s2 = .int .u8 p ∧ s7 = .int .i64 i ∧ i ≤ 255 ∧ 255 - i < f ∧ Hid (p = P.getD (i % 255) 0) ∧ Hid (SwA w wr (part P 255 i)))
  case atStart =>
    refine ⟨0, 1, rfl, rfl, by omega, by omega, P0.out.symm, ?_, ?_, ?_⟩
    · exact heap_alloc2_old _ _ _
    · exact heap_alloc2_new _ _ _
    · exact ((Below.refl _ _).alloc (Nat.le_refl _) _).alloc (by simp) _
  case round =>
    obtain ⟨i, p, rfl, rfl, hi, hf, HP, HR⟩ := hrel
    by_cases hlt : i < 255
    · have hp : Hid (p = P.getD i 0) := by show _ = _; rw [HP.out, Nat.mod_eq_of_lt hlt]
      have hpb : p < 256 := by rw [hp.out]; exact PB.out i
      have HN : Hid (tmF p 3 = P.getD ((i + 1) % 255) 0) := by show _ = _; rw [hp.out]; exact PN.out i hlt
      have HC := hide (fun v => times_any p 3 hpb (by omega) v)
      have cw := (HR.out.2.1.cell i).trans (u8s_at (by rw [part_length _ _ _ PL.out (by omega)]; omega))
      have fw := HR.out.2.1.frozen i
      generalize (part P 255 i).getD i 0 = old at *
      generalize tmF p 3 = q at *
      go_wp2_with fail
      refine (HC.out _).mono ?_
      rintro e w1 ⟨rfl, rfl⟩
      go_wp2
      go_roundg (255 - i)
      case measure => omega
      case rel =>
        refine ⟨i + 1, q, rfl, by go_num, by omega, by omega, HN, ?_⟩
        have := HR.out.set i p
        rw [hp.out, part_set _ _ _ PL.out hlt, ← hp.out] at this
        exact this
    · have e : i = 255 := by omega
      subst e
      rw [part_full _ _ PL.out] at HR
      clear HP
      have HS := hide (fun v => spread_any 0 (by omega) v)
      rw [sp_zero] at HS
      go_wp2_with fail
      refine (HS.out _).mono ?_
      rintro e w1 ⟨rfl, rfl⟩
      have A4 : ∀ v : World, (v.alloc (Obj.cells (u8s z256).toArray 52)).heap[v.heap.size]? = some (.cells (u8s z256).toArray 52 (0, 0)) := fun v => heap_alloc_new v _
      have A4 := hide A4
      have S1 : Hid ((u8s z256).toArray.size = c256.size) := by show _ = _; simp [u8s, z256, c256]
      have S2 : Hid ((Try.prog.info? 52).map (·.size) = some c256.size) := by show _ = _; rw [info256]; simp [u8s, z256, c256]
      have S3 : Hid ((Try.prog.info? 72).map (·.size) = some (u8s P).toArray.size) := by show _ = _; rw [info255]; simp [u8s, PL.out]
      have O1 : Hid (c256.all (·.oneCell') = true) := by show _ = _; rw [c256, show Value.int IntKind.u8 (99 : Int) = Value.int IntKind.u8 ((99 : Nat) : Int) from rfl, u8s_set]; exact one_u8s _
      have B0 : Hid (SwB w ((w1.alloc (Obj.cells (u8s z256).toArray 52)).setRow w1.heap.size c256) w1.heap.size P (L 0)) := by
        obtain ⟨h0, h1, h2⟩ := HR.out
        have l1 := h1.lt
        have hn := Arr.new w1 52 (u8s z256)
        refine ⟨⟨(h0.alloc _).rowOther _ _ (by omega), (h1.alloc _).rowOther _ _ (by omega), below_setRow (h2.alloc (by omega) _) (by omega) (by simp) _⟩, ?_, by omega⟩
        rw [L0.out, ← u8s_set]
        exact hn.row c256
      have l1 : w.heap.size + 1 < w1.heap.size := HR.out.2.1.lt
      clear HR
      go_wp2_with (first
        | (refine wpList_store_row rfl 52 _ _ rfl w1.heap.size c256 rfl rfl 52 _ (A4.out w1) S2.out S1.out O1.out ?_)
        | (refine wpList_load_row rfl 72 _ rfl (w.heap.size + 1) rfl 72 _ (0, 0) _ B0.out.1.2.1 Try.underlying72 rfl S3.out ?_))
      generalize w1.heap.size = g at *
      generalize (World.setRow _ g c256) = w2 at *
      go_loopg [19] 256 (fun f s19 wr => ∃ (i : Nat), s19 = .int .i64 i ∧ i ≤ 255 ∧ 255 - i < f ∧ Hid (SwB w wr g P (L i)))
      case atStart => exact ⟨0, rfl, by omega, by omega, B0⟩
      case round =>
        obtain ⟨i, rfl, hi, hf, HR⟩ := hrel
        by_cases hlt : i < 255
        · obtain ⟨r, hr⟩ : ∃ r, r = (255 - i) % 255 := ⟨_, rfl⟩
          obtain ⟨x, hx⟩ : ∃ x, x = P.getD i 0 := ⟨_, rfl⟩
          obtain ⟨y, hy⟩ : ∃ y, y = P.getD r 0 := ⟨_, rfl⟩
          have HX := hide hx
          have HY := hide hy
          have hr2 : r < 255 := by omega
          have hxb : x < 256 := by rw [hx]; exact PB.out i
          have hyb : y < 256 := by rw [hy]; exact PB.out r
          have hidx := run_index255 P i x wr hlt (by rw [u8s_at (by rw [PL.out]; exact hlt), ← hx])
          have ctm : Int.tmod (255 - (i : Int)) 255 = (r : Int) := by rw [Int.tmod_eq_emod_of_nonneg (by omega)]; omega
          have cem : (255 - (i : Int)) % 255 = (r : Int) := by omega
          have cr := (HR.out.1.2.1.cell r).trans (u8s_at (by rw [PL.out]; omega))
          rw [← hy] at cr
          have HC := hide (spread_any y hyb wr)
          have cw := (HR.out.2.1.cell x).trans (u8s_at (by rw [LL.out]; omega))
          have fw := HR.out.2.1.frozen x
          have HN : Hid (L (i + 1) = (L i).set x (spF y)) := by show _ = _; rw [LN.out, ← hx, ← hr, ← hy]
          clear hx hy
          generalize (L i).getD x 0 = old at *
          generalize spF y = z at *
          have hx256 : (x : Int) < 256 := by omega
          have hr255 : (r : Int) < 255 := by omega
          clear hr
          go_wp2_with fail
          refine (HC.out).mono ?_
          rintro e w3 ⟨rfl, rfl⟩
          go_wp2
          go_roundg (255 - i)
          case measure => omega
          case rel =>
            refine ⟨i + 1, by go_num, by omega, by omega, ?_⟩
            have := HR.out.set x z
            rw [← HN.out] at this
            exact this
        · have e : i = 255 := by omega
          subst e
          have K0 := hide HR.out.1.1
          have K1 := hide HR.out.2.1
          have KB := hide HR.out.1.2.2
          rw [← LF.out] at K1
          have FL : F.length = 256 := by rw [LF.out, LL.out]
          have T1 : Hid ((u8s z256).toArray.size = (u8s F).toArray.size) := by show _ = _; simp [u8s, z256, FL]
          have T2 : Hid ((Try.prog.info? 52).map (·.size) = some (u8s F).toArray.size) := by show _ = _; rw [info256]; simp [u8s, FL]
          have O2 := hide (one_u8s F)
          clear HR
          clear FL
          go_wp2_with (first
            | (refine wpList_load_row rfl 52 _ rfl g rfl 52 _ (0, 0) _ K1.out Try.underlying52 rfl T2.out ?_)
            | (refine wpList_store_row rfl 52 _ _ rfl w.heap.size _ rfl rfl 52 _ K0.out T2.out T1.out O2.out ?_))
          exact bodyPost_ret (v := .agg (u8s F).toArray) (results_cell_row Try.results34 _ _ w.heap.size 52 _ (0, 0) _ rfl (K0.out.row _) Try.underlying52 rfl T2.out) rfl ⟨rfl, below_setRow KB.out (Nat.le_refl _) K0.out.lt _⟩

theorem swaps_any (w : World) :
    Calls Try.prog 34 #[] w fun e w' => e = .returned (.agg (u8s swT).toArray) ∧ Below w.heap.size w w' := by
  exact swaps_of pwT swT swL w swL_all.symm pwT_length (fun i => getD_lt pwT_lt (by omega) i) pw_zero (fun i hi => pw_next hi) rfl swL_length (fun i => rfl)


end Go.Proofs.Ytflakgigekfgcaa
