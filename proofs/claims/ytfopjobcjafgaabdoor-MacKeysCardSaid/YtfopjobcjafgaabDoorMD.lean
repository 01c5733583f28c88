/-
  A walk: block: a key's block.
-/
import Derived.Test.YtfopjobcjafgaabDoorMC
namespace Go.Proofs.YtfopjobcjafgaabDoor
open Go.RowKit

/-- 'copy(b[:], key)': a key's bytes into an array of noughts -/
theorem copy_key (wr : World) (H : Nat) (a : Option Addr) (key : List Nat) (cap : Nat) (hA : Arr wr H 39 (u8s (List.replicate 64 0))) (hk : key.length ≤ 64) (hP : Piece wr a cap key) :
    ∃ w', (Builtin.copy_ #[22, 22] 3 #[.slice (some ⟨H, 0, none⟩) 64 64, .slice a key.length cap]).run Tryd.prog wr = .ok (.int .i64 (key.length : Int)) w' ∧ Arr w' H 39 (u8s (key ++ List.replicate (64 - key.length) 0)) ∧ wr.grownBy w' (some H) := by
  have e : (u8s (List.replicate 64 0)).toArray.toList.take 0 ++ u8s key ++ (u8s (List.replicate 64 0)).toArray.toList.drop (0 + key.length) = u8s (key ++ List.replicate (64 - key.length) 0) := by
    show u8s key ++ (u8s (List.replicate 64 0)).drop (0 + key.length) = _
    rw [Nat.zero_add, u8s, u8s, u8s, ← List.map_drop, ← List.map_append, List.drop_replicate]
  cases a with
  | none =>
    have h0 : key = [] := by
      have h1 := hP.2.1 rfl
      have h2 := hP.2.2.2.1
      exact List.eq_nil_of_length_eq_zero (by omega)
    have hc := hP.2.1 rfl
    subst h0 hc
    exact ⟨wr, run_copy_nil (P := Tryd.prog) wr 22 22 3 5 ⟨H, 0, none⟩ 64 64 Tryd.underlying22 (by rw [info8]; rfl), hA, grown_refl _ _⟩
  | some ad =>
    have hlen : (u8s key).length = key.length := by simp [u8s]
    have hmin : Nat.min key.length 64 = key.length := Nat.min_eq_left hk
    have h := run_copy_row (P := Tryd.prog) wr 22 22 3 5 H 0 64 64 ad key.length cap (u8s (List.replicate 64 0)).toArray 39 (u8s key) Tryd.underlying22 info8 hA (by rw [hlen]; exact hmin.symm)
      (fun j v hv => by
        have hj : j < key.length := by have := (List.getElem?_eq_some_iff.1 hv).1; simpa [u8s] using this
        rw [u8s_at hj] at hv
        cases hv
        rcases hP.1 with h0 | ⟨g, o, hp, hc⟩
        · subst h0; simp at hj
        · cases hp
          rw [Addr.add_mid]
          exact hc j hj)
      (by rw [hlen]; simp [u8s]; omega) (one_u8s _)
    rw [hlen, e] at h
    exact ⟨_, h, hA.row _, grown_row _ H _⟩

set_option maxHeartbeats 4000000 in
set_option maxRecDepth 100000 in
theorem block_key (p : Option Addr) (c : Nat) (key : List Nat) (w : World) (hP : Piece w p c key) (hk : key.length ≤ 100000) (hL : Laid w) :
    Calls Tryd.prog 14 #[.slice p key.length c] w fun e w' => e = .returned (.agg (u8s (kblockF key)).toArray) ∧ Below w.heap.size w w' := by
  have hL2 := hL.size
  have HL := hide hL
  have HP := hide hP
  have HKL := hide (kblockF_length key)
  have HS := hide (fun (v : World) (hb : Below w.heap.size w v) => ssum_one p c key (sumF key) v (hP.kept hb) hk (hL.keptB (B := w.heap.size) hL2 hb) (Nat.le_trans hL2 hb.size) rfl)
  have HLong : Hid (64 < key.length → kblockF key = sumF key ++ List.replicate (64 - (sumF key).length) 0) := fun h => by rw [kblockF_long h, sumF_length]
  have HShort : Hid (¬ 64 < key.length → kblockF key = key ++ List.replicate (64 - key.length) 0) := fun h => kblockF_short h
  have DL := hide (sumF_length key)
  have DB := hide (sumF_bytes key)
  clear hP hL
  have ID : Hid ((Tryd.prog.info? 25).map (·.size) = some (u8s (sumF key)).toArray.size) := by show _ = _; rw [info35]; simp [u8s, DL.out]
  have OD : Hid ((u8s (List.replicate 32 0)).toArray.size = (u8s (sumF key)).toArray.size) := by show _ = _; simp [u8s, DL.out]
  have IK : Hid ((Tryd.prog.info? 39).map (·.size) = some (u8s (kblockF key)).toArray.size) := by show _ = _; rw [info64]; simp [u8s, HKL.out]
  have OK : Hid ((u8s (List.replicate 64 0)).toArray.size = (u8s (kblockF key)).toArray.size) := by show _ = _; simp [u8s, HKL.out]
  generalize hkb : kblockF key = KB at *
  generalize sumF key = D at *
  clear hkb
  generalize hn : key.length = n at *
  have HN := hide hn
  clear hn
  go_enter Tryd.func14, Tryd.ntmps14
  go_upto_region 1 with fail
  go_cut [3] (fun s3 wx => s3 = .pointer (some ⟨w.heap.size + 1, 0, none⟩) ∧ Arr wx w.heap.size 39 (u8s (List.replicate 64 0)) ∧ Arr wx (w.heap.size + 1) 39 (u8s (List.replicate 64 0)) ∧ Below w.heap.size w wx)
  case first =>
    go_wp2
    go_meet
    case rel => exact ⟨rfl, (Arr.new w 39 (u8s (List.replicate 64 0))).alloc _, Arr.newAt (w.alloc _) 39 (u8s (List.replicate 64 0)) _ (by simp), ((Below.refl _ _).alloc (Nat.le_refl _) _).alloc (by simp) _⟩
  case rest =>
    obtain ⟨rfl, hR, hX, hB⟩ := hcut
    have HR := hide hR
    have HX := hide hX
    have HB := hide hB
    clear hR hX hB
    go_upto_if 7 with fail
    go_cut [0, 4] (fun s0 _ wx => ∃ (q : Option Addr) (cq : Nat) (kk : List Nat), s0 = .slice q kk.length cq ∧ Hid (Piece wx q cq kk) ∧ kk.length ≤ 64 ∧ Hid (KB = kk ++ List.replicate (64 - kk.length) 0) ∧ Hid (Arr wx w.heap.size 39 (u8s (List.replicate 64 0))) ∧ Hid (Arr wx (w.heap.size + 1) 39 (u8s (List.replicate 64 0))) ∧ Hid (Below w.heap.size w wx))
    case first =>
      by_cases hbig : 64 < n
      · have hbig' : (64 : Int) < (n : Int) := by omega
        have hsl := fun v => run_all32 v
        go_wp2_with fail
        refine (HS.out wc HB.out).mono ?_
        rintro e w9 ⟨rfl, hb9⟩
        have R9 := hide (HR.out.kept hb9)
        have X9 := hide (HX.out.kept hb9)
        have B9 : Hid (Below w.heap.size w w9) := HB.out.trans (hb9.mono HB.out.size)
        clear hb9 HR HX HB
        go_wp2_with (refine wpList_store_row rfl 25 _ _ rfl w9.heap.size (u8s D).toArray rfl rfl 25 (u8s (List.replicate 32 0)).toArray (heap_at w9 _ _ rfl) ID.out OD.out (all_u8s _) ?_)
        go_meet
        case rel =>
          have hlt1 := R9.out.lt
          have hlt2 := X9.out.lt
          have hD := (Arr.new w9 25 (u8s (List.replicate 32 0))).row (u8s D).toArray
          refine ⟨some ⟨w9.heap.size, 0, none⟩, 32, D, by rw [DL.out], piece_arr hD DL.out DB.out (by omega), by rw [DL.out]; omega, HLong.out hbig, ?_, ?_, ?_⟩
          · exact (R9.out.alloc _).rowOther _ _ (Nat.ne_of_lt hlt1)
          · exact (X9.out.alloc _).rowOther _ _ (Nat.ne_of_lt hlt2)
          · exact below_setRow (B9.out.alloc B9.out.size _) B9.out.size (by simp) _
      · have hbig' : ¬ (64 : Int) < (n : Int) := by omega
        go_wp2
        go_meet
        case rel => exact ⟨p, c, key, by rw [HN.out], HP.out.kept HB.out, by rw [HN.out]; omega, by have h := HShort.out hbig; rw [← HN.out] at h; exact h, HR, HX, HB⟩
    case rest =>
      clear HR HX HB HS HLong HShort ID OD DL DB HP
      obtain ⟨q, cq, kk, rfl, hp, hk64, hkb, hr, hx, hb⟩ := hcut
      have hsl := fun v => run_all64 v (w.heap.size + 1)
      obtain ⟨w5, hcp, hA5, hg5⟩ := copy_key wc (w.heap.size + 1) q kk cq hx.out hk64 hp.out
      rw [← hkb.out] at hA5
      have X5 := hide hA5
      have R5 := hide (hr.out.grown' hg5 (by omega))
      have B5 : Hid (Below w.heap.size w w5) := hb.out.grown hg5 hb.out.size (by intro k hk; cases hk; omega)
      clear hA5 hg5 hr hx hb hkb hp
      go_wp2_with (first
        | (refine wpList_load_row rfl 39 _ rfl (w.heap.size + 1) rfl 39 _ (0, 0) _ X5.out Tryd.underlying39 rfl IK.out ?_)
        | (refine wpList_store_row rfl 39 _ _ rfl w.heap.size _ rfl rfl 39 _ R5.out IK.out OK.out (all_u8s _) ?_))
      exact bodyPost_ret (v := .agg (u8s KB).toArray) (results_cell_row Tryd.results14 _ _ w.heap.size 39 _ (0, 0) _ rfl (R5.out.row _) Tryd.underlying39 rfl IK.out) rfl ⟨rfl, below_setRow B5.out (Nat.le_refl _) R5.out.lt _⟩

end Go.Proofs.YtfopjobcjafgaabDoor
