/-
  A walk: the reference's Sum: the document's digest of any bytes.
-/
import Derived.Test.YtfopjobcjafgaabDoorSN
namespace Go.Proofs.YtfopjobcjafgaabDoor
open Go.RowKit

theorem info35 : (Tryd.prog.info? 25).map (·.size) = some 32 := by kernel_rfl
abbrev Z32 : Obj := Obj.cells (u8s (List.replicate 32 0)).toArray 25

theorem Arr.keptRow {w w' : World} {g B : Nat} {t : TypeId} {vs : List Value} {v : Value} {n : Nat} {xs : List Value} {e : TypeId} (h : Arr w g t vs) (ho : w.ownsRow B e 1 v n xs) (hB : g < B) (hg : w.grownBy w' v.ownBlock) : Arr w' g t vs :=
  (hg.block g h.lt (fun e => by have := (ho.lt g e.symm).1; omega)).trans h

theorem Arr.grown' {w w' : World} {g X : Nat} {t : TypeId} {vs : List Value} (h : Arr w g t vs) (hg : w.grownBy w' (some X)) (hne : g ≠ X) : Arr w' g t vs := (hg.block g h.lt (fun e => hne (by cases e; rfl))).trans h
theorem grown_set (w : World) (X j : Nat) (v : Value) : w.grownBy (w.setCell ⟨X, j, none⟩ v) (some X) :=
  ⟨rfl, rfl, rfl, by simp, fun k _ hk => heap_setCell_other w ⟨X, j, none⟩ k _ (fun e => hk (by simp [e]))⟩
theorem grown_row (w : World) (X : Nat) (us : Array Value) : w.grownBy (w.setRow X us) (some X) :=
  ⟨rfl, rfl, rfl, by simp, fun k _ hk => setRow_other w X k us (fun e => hk (by rw [e]))⟩

theorem all_u8s (l : List Nat) : (u8s l).toArray.all (·.oneCell') = true := all_oneCell_toArray (one_u8s l)

theorem size5 (w : World) : (Go.sizeOf 5).run Tryd.prog w = .ok 1 w := by
  obtain ⟨i0, hi, hz0, hz1, hz2⟩ := info_parts infoU8
  simp [Go.sizeOf, typeInfo, hi, hz1]

theorem run_blk (w : World) (g n cap q : Nat) (h : q + 64 ≤ cap) :
    (Instr.slice 22 (.slice (some ⟨g, 0, none⟩) n cap) (some (.int .i64 (q : Int))) (some (.int .i64 ((q : Int) + 64))) none).run Tryd.prog w = .ok (.slice (some ⟨g, q, none⟩) 64 (cap - q)) w := by
  have ht' : Tryd.prog.underlying 22 = some (.slice (Tryd.prog.elem 22)) := by simp [Program.elem, Tryd.underlying22]
  have he : Tryd.prog.elem 22 = 5 := by simp [Program.elem, Tryd.underlying22]
  rw [run_slice_lh w 22 _ _ _ ht' .i64 .i64 _ _ (by omega) (by omega) (by omega), he, size5]
  have e : ((q : Int) + 64).toNat = q + 64 := by omega
  simp [Result.andThen, sliced, e, show cap ≠ q by omega, Addr.add_mid]

/-- what lies in memory while the reference makes a digest: the row of all bytes, the digest's place -/
def RS (w wr : World) (v : Value) (l : List Nat) : Prop :=
  wr.ownsRow (w.heap.size + 1) 5 1 v l.length (u8s l) ∧ Arr wr w.heap.size 25 (u8s (List.replicate 32 0)) ∧ w.heap.size + 1 ≤ wr.heap.size ∧ Below w.heap.size w wr

theorem RS.append {w wr w' : World} {v v' : Value} {l l' : List Nat} (r : RS w wr v l) (ho : w'.ownsRow (w.heap.size + 1) 5 1 v' l'.length (u8s l')) (hg : wr.grownBy w' v.ownBlock) : RS w w' v' l' :=
  ⟨ho, r.2.1.keptRow r.1 (by omega) hg, Nat.le_trans r.2.2.1 hg.size, r.2.2.2.grown hg (by have := r.2.2.1; omega) (fun k hk => by have := (r.1.lt k hk).1; omega)⟩

theorem RS.kept {w wr w' : World} {v : Value} {l : List Nat} (r : RS w wr v l) (hb : Below wr.heap.size wr w') : RS w w' v l :=
  ⟨own_below r.1 hb, r.2.1.kept hb, Nat.le_trans r.2.2.1 hb.size, r.2.2.2.trans (hb.mono r.2.2.2.size)⟩

theorem RS.other {w wr wx : World} {v : Value} {l : List Nat} {X : Nat} (r : RS w wr v l) (hg : wr.grownBy wx (some X)) (hv : v.ownBlock ≠ some X) (hX : w.heap.size < X) : RS w wx v l :=
  ⟨r.1.kept hg (Or.inr hv), r.2.1.grown' hg (by omega), Nat.le_trans r.2.2.1 hg.size, r.2.2.2.grown hg (by have := r.2.2.1; omega) (by intro k hk; cases hk; omega)⟩

theorem RS.drew {w wr : World} {v : Value} {l : List Nat} (r : RS w wr v l) : RS w wr.drew v l := ⟨r.1, r.2.1, r.2.2.1, r.2.2.2.drew⟩

theorem bi_one (w : World) (x : Nat) : BI (w.alloc (Obj.cells #[.int .u8 ((x : Nat) : Int)] 5)) (some ⟨w.heap.size, 0, none⟩) [x] := by
  refine Or.inr ⟨w.heap.size, 0, rfl, ?_⟩
  intro i hi
  have : i = 0 := by simp at hi; omega
  subst this
  simp

theorem u8s_zeros : (u8s (List.replicate 32 0)).toArray = #[Value.int .u8 0, Value.int .u8 0, Value.int .u8 0, Value.int .u8 0, Value.int .u8 0, Value.int .u8 0, Value.int .u8 0, Value.int .u8 0, Value.int .u8 0, Value.int .u8 0, Value.int .u8 0, Value.int .u8 0, Value.int .u8 0, Value.int .u8 0, Value.int .u8 0, Value.int .u8 0, Value.int .u8 0, Value.int .u8 0, Value.int .u8 0, Value.int .u8 0, Value.int .u8 0, Value.int .u8 0, Value.int .u8 0, Value.int .u8 0, Value.int .u8 0, Value.int .u8 0, Value.int .u8 0, Value.int .u8 0, Value.int .u8 0, Value.int .u8 0, Value.int .u8 0, Value.int .u8 0] := rfl

set_option maxHeartbeats 8000000 in
set_option maxRecDepth 100000 in
theorem refsum_of (p : Option Addr) (c : Nat) (bs : List Nat) (w : World) (hb : BI w p bs) (hp : p = none → c = 0) (hn : bs.length ≤ 100000) (hby : BytesN bs) :
    Calls Tryd.prog 18 #[.slice p bs.length c] w fun e w' => e = .returned (.agg (u8s (sumF bs)).toArray) ∧ Below w.heap.size w w' := by
  have HB := hide hb
  have HBY := hide hby
  clear hb hby
  generalize hln : bs.length = n at *
  have HN := hide hln
  have HP := hide hp
  clear hln hp
  go_enter Tryd.func18, Tryd.ntmps18
  go_upto_region 1 with fail
  go_cut [3] (fun s3 wc => ∃ v, v = s3 ∧ RS w wc v bs)
  case first =>
    rw [← u8s_zeros]
    have A0 := hide (Arr.new w 25 (u8s (List.replicate 32 0)))
    have B0 : Hid (Below w.heap.size w (w.alloc Z32)) := (Below.refl _ _).alloc (Nat.le_refl _) _
    have hsz : Hid ((w.alloc Z32).heap.size = w.heap.size + 1) := by show _ = _; simp
    have HB1 := hide (HB.out.kept B0.out)
    generalize (w.alloc Z32) = w1 at *
    go_wp2_with (at_builtin; refine wpList_append_bytes rfl (.tmp 12) (.tmp 13) rfl (w.heap.size + 1) _ [] rfl 0 rfl (World.ownsRow_made w1 #[] 0 (by have := hsz.out; omega) (Nat.zero_le _) rfl) p n c bs HN.out rfl (HB1.out.kept ((Below.refl _ _).alloc (Nat.le_refl _) _)) HP.out (by omega) (by have := hsz.out; simp; omega) ?_)
    intro v2 w2 hown hgrow
    have HRS : Hid (RS w w2 v2 bs) := by
      have hs := hsz.out
      refine ⟨by rw [HN.out]; simpa using hown, ?_, ?_, ?_⟩
      · refine (hgrow.block w.heap.size (by simp; omega) (by simp [Value.ownBlock]; omega)).trans ?_
        exact A0.out.alloc _
      · have := hgrow.size; simp at this; omega
      · exact (B0.out.alloc (by omega) _).grown hgrow (by simp; omega) (by intro k hk; simp [Value.ownBlock] at hk; omega)
    clear hown hgrow
    go_wp2_with fail
    go_meet
    case rel => exact ⟨v2, rfl, HRS.out⟩
  case rest =>
    obtain ⟨v3, rfl, hR⟩ := hcut
    have HR := hide hR
    clear hR HB
    go_wp2_with (at_builtin; refine wpList_append_bytes rfl (.tmp 15) (.tmp 16) rfl (w.heap.size + 1) v3 bs rfl n HN.out (by have := HR.out.1.alloc (Obj.cells #[.int .u8 (128 : Int)] 5); rw [HN.out] at this; exact this) (some ⟨wc.heap.size, 0, none⟩) 1 1 [128] rfl rfl (bi_one wc 128) (fun e => by cases e) (by omega) (by have := HR.out.2.2.1; simp; omega) ?_)
    intro v4 w4 hown hgrow
    have HR4 : Hid (RS w w4 v4 (bs ++ [128])) := by
      refine RS.append (HR.out.kept ((Below.refl _ _).alloc (Nat.le_refl _) _)) ?_ hgrow
      rw [List.length_append, HN.out]; exact hown
    clear hown hgrow HR
    have hz : padZ n < 64 := Nat.mod_lt _ (by omega)
    have HZ : Hid (padZ n = (119 - n % 64) % 64) := rfl
    have HPF : Hid (padF bs = bs ++ [128] ++ List.replicate (padZ n) 0 ++ be8 (n * 8) 8) := by show _ = _; rw [← HN.out]; rfl
    generalize padZ n = z at *
    go_wp2
    go_loopg [3] (z + 1) (fun f s3 wr => ∃ (k : Nat) (v : Value), v = s3 ∧ k ≤ z ∧ z - k < f ∧ RS w wr v (bs ++ [128] ++ List.replicate k 0))
    case atStart => exact ⟨0, v4, rfl, by omega, by omega, by simpa using HR4.out⟩
    case round =>
      clear HR4
      obtain ⟨k, v, rfl, hk, hf, hR⟩ := hrel
      have HR := hide hR
      have hll : (bs ++ [128] ++ List.replicate k 0).length = n + 1 + k := by simp [HN.out]; omega
      obtain ⟨gv, cv, rfl, hgv, hgs, hcv, hcm⟩ := own_shape hR.1 (by rw [hll]; omega)
      rw [hll] at HR hcv ⊢
      have HLL := hide hll
      clear hR hll
      generalize hL : bs ++ [128] ++ List.replicate k 0 = L at *
      have HLX := hide hL
      clear hL
      unfold maxLen at hcm
      by_cases hkz : k < z
      · have hne : ¬ (n + 1 + k) % 64 = 56 := by have := HZ.out; omega
        have hne' : ¬ (((n : Int) + 1 + k) % 64 = 56) := by omega
        go_wp2_with (at_builtin; refine wpList_append_bytes rfl (.tmp 22) (.tmp 23) rfl (w.heap.size + 1) _ L rfl (n + 1 + k) HLL.out (by have := HR.out.1.alloc (Obj.cells #[.int .u8 (0 : Int)] 5); rw [HLL.out] at this; exact this) (some ⟨wr.heap.size, 0, none⟩) 1 1 [0] rfl rfl (bi_one wr 0) (fun e => by cases e) (by omega) (by have := HR.out.2.2.1; simp; omega) ?_)
        intro v5 w5 hown hgrow
        have HR5 : Hid (RS w w5 v5 (bs ++ [128] ++ List.replicate (k + 1) 0)) := by
          have e : bs ++ [128] ++ List.replicate (k + 1) 0 = L ++ [0] := by rw [List.replicate_succ', ← List.append_assoc, HLX.out]
          show RS _ _ _ _
          rw [e]
          refine RS.append (HR.out.kept ((Below.refl _ _).alloc (Nat.le_refl _) _)) ?_ hgrow
          rw [List.length_append, HLL.out]; exact hown
        clear hown hgrow HR
        go_wp2
        go_roundg (z - k)
        case measure => omega
        case rel => exact ⟨k + 1, v5, rfl, by omega, by omega, HR5.out⟩
      · have e : k = z := by omega
        subst e
        have heq : (n + 1 + k) % 64 = 56 := by have := HZ.out; omega
        have heq' : ((n : Int) + 1 + k) % 64 = 56 := by omega
        have HM : Hid (∀ i, be8 (n * 8) (i + 1) = be8 (n * 8) i ++ [n * 8 / 2 ^ (8 * (7 - i)) % 256]) := fun i => rfl
        have HPX : Hid (padF bs = L ++ be8 (n * 8) 8) := by show _ = _; rw [HPF.out, HLX.out]
        have HE8 : Hid (∀ i, (be8 (n * 8) i).length = i) := fun i => be8_length _ i
        have HE0 : Hid (be8 (n * 8) 0 = []) := rfl
        generalize be8 (n * 8) = eb at *
        go_wp2
        clear HPF heq heq' HZ
        go_loopg [3, 5] 9 (fun f s3 s5 wr => ∃ (j : Nat) (v : Value), v = s3 ∧ s5 = .int .i64 (7 - (j : Int)) ∧ j ≤ 8 ∧ 8 - j < f ∧ RS w wr v (L ++ eb j))
        case atStart => exact ⟨0, _, rfl, rfl, by omega, by omega, by rw [HE0.out, List.append_nil]; exact HR.out⟩
        case round =>
          clear HR
          obtain ⟨j, v, rfl, rfl, hj, hf, hR⟩ := hrel
          have HR := hide hR
          have hll : (L ++ eb j).length = n + 1 + k + j := by rw [List.length_append, HLL.out, HE8.out]
          obtain ⟨gx, cx, rfl, hgx, hgsx, hcx, hcmx⟩ := own_shape hR.1 (by rw [hll]; omega)
          rw [hll] at HR hcx ⊢
          have HLJ := hide hll
          clear hR hll
          unfold maxLen at hcmx
          by_cases hj8 : j < 8
          · obtain ⟨q, hq⟩ : ∃ q, q = 7 - j := ⟨_, rfl⟩
            have hqi : (7 : Int) - (j : Int) = (q : Int) := by omega
            have hq7 : q ≤ 7 := by omega
            have hbyte : ((n : Int) * 8 / 2 ^ (8 * q)) % 256 = ((n * 8 / 2 ^ (8 * q) % 256 : Nat) : Int) := by simp
            have HEJ : Hid (eb (j + 1) = eb j ++ [n * 8 / 2 ^ (8 * q) % 256]) := by show _ = _; rw [HM.out, hq]
            clear hq
            have hdb : n * 8 / 2 ^ (8 * q) % 256 < 256 := Nat.mod_lt _ (by omega)
            generalize n * 8 / 2 ^ (8 * q) % 256 = dg at *
            generalize hLJ : L ++ eb j = LJ at *
            have HLJX := hide hLJ
            clear hLJ
            rw [hqi]
            go_wp2_with (at_builtin; refine wpList_append_bytes rfl (.tmp 33) (.tmp 40) rfl (w.heap.size + 1) _ LJ rfl (n + 1 + k + j) HLJ.out (by have := HR.out.1.alloc (Obj.cells #[.int .u8 ((dg : Nat) : Int)] 5); rw [HLJ.out] at this; exact this) (some ⟨wr.heap.size, 0, none⟩) 1 1 [dg] rfl rfl (bi_one wr dg) (fun e => by cases e) (by omega) (by have := HR.out.2.2.1; simp; omega) ?_)
            intro v6 w6 hown hgrow
            have HR6 : Hid (RS w w6 v6 (L ++ eb (j + 1))) := by
              show RS _ _ _ _
              rw [HEJ.out, ← List.append_assoc, HLJX.out]
              refine RS.append (HR.out.kept ((Below.refl _ _).alloc (Nat.le_refl _) _)) ?_ hgrow
              rw [List.length_append, HLJ.out]; exact hown
            clear hown hgrow HR
            go_wp2
            go_roundg (8 - j)
            case measure => omega
            case rel => exact ⟨j + 1, v6, rfl, by first | (congr 1; omega) | go_num, by omega, by omega, HR6.out⟩
          · have e : j = 8 := by omega
            subst e
            have hwhole := padF_whole bs
            have hpb := padF_bytes HBY.out
            have hpx := HPX.out
            have HSM : Hid (sumF bs = digestF (hashTo (padF bs) ((padF bs).length / 64))) := rfl
            rw [hpx] at hwhole hpb HSM
            rw [HLJ.out] at hwhole HSM
            have HPB := hide hpb
            clear hpx hpb HPX HE8 HE0 HM HLL HLX HBY
            generalize L ++ eb 8 = PF at *
            obtain ⟨N, hN⟩ : ∃ N, N = n + 1 + k + 8 := ⟨_, rfl⟩
            rw [← hN] at HR hcx HLJ hwhole HSM ⊢
            have hNb : N ≤ 101000 := by omega
            have hN9 : 9 ≤ N := by omega
            clear hN
            rw [show (7 : Int) - ((8 : Nat) : Int) = -1 from rfl]
            go_wp2
            generalize hH : wr.heap.size = H at *
            have HH := hide hH
            clear hH
            have hgH : gx < H := hgsx
            have HG1 : Hid (w.heap.size + 1 ≤ H) := by have := HR.out.2.2.1; rw [HH.out] at this; exact this
            go_loopg [7] 9 (fun f s7 wx => ∃ (i : Nat), s7 = .int .i64 i ∧ i ≤ 8 ∧ 8 - i < f ∧ RS w wx (.slice (some ⟨gx, 0, none⟩) N cx) PF ∧ Arr wx H 51 (u32s (part startT 8 i)))
            case atStart =>
              refine ⟨0, rfl, by omega, by omega, HR.out.kept ((Below.refl _ _).alloc (Nat.le_refl _) _), ?_⟩
              exact Arr.newAt wr 51 (u32s (List.replicate 8 0)) H HH.out
            case round =>
              clear HR HH
              obtain ⟨i, rfl, hi, hf, hR, hA⟩ := hrel
              have HR := hide hR
              have HA := hide hA
              clear hR hA
              by_cases hi8 : i < 8
              · go_wp2_with fail
                refine (refStart_in i hi8 _).mono ?_
                rintro e w7 ⟨rfl, hb7⟩
                have hA7 := HA.out.kept hb7
                have HR7 := hide (HR.out.kept hb7)
                have c7 : ∃ x, w7.cell? ⟨H, i, none⟩ = some (.int .u32 x) := ⟨_, (hA7.cell i).trans (u32s_at (by rw [part_length _ _ _ startT_length (by omega)]; omega))⟩
                obtain ⟨x7, c7⟩ := c7
                have f7 := hA7.frozen i
                have HA7 := hide hA7
                clear hA7 hb7 HR HA
                have hi8' : (i : Int) < 8 := by omega
                go_wp2
                go_roundg (8 - i)
                case measure => omega
                case rel =>
                  refine ⟨i + 1, by go_num, by omega, by omega, HR7.out.other (grown_set w7 H i _) (by simp [Value.ownBlock]; omega) (by have := HG1.out; omega), ?_⟩
                  have := HA7.out.set i (.int .u32 ((startT.getD i 0 : Nat) : Int))
                  rw [u32s_set, part_set _ _ _ startT_length hi8] at this
                  exact this
              · have e : i = 8 := by omega
                subst e
                have hA := HA.out
                rw [part_full _ _ startT_length] at hA
                have HA8 := hide hA
                clear hA HA
                go_wp2_with fail
                refine (turns_any _).mono ?_
                rintro e w8 ⟨rfl, hb8⟩
                have HA9 := hide (HA8.out.kept hb8)
                have HR9 := hide (HR.out.kept hb8)
                have HHK : Hid (H < w8.heap.size) := HA9.out.lt
                clear hb8 HR HA8
                go_upto_region 16 with (refine wpList_store_row rfl 58 _ _ rfl w8.heap.size _ rfl rfl 58 _ (heap_alloc_new w8 _) info31 rfl (one_u32s _) ?_)
                have D1 := hide ((HA9.out.alloc (Obj.cells (u32s (List.replicate 64 0)).toArray 58)).rowOther w8.heap.size (u32s turnT).toArray (Nat.ne_of_lt HHK.out))
                have D2 := hide ((Arr.new w8 58 (u32s (List.replicate 64 0))).row (u32s turnT).toArray)
                have D3 := hide ((HR9.out.kept ((Below.refl _ _).alloc (Nat.le_refl _) (Obj.cells (u32s (List.replicate 64 0)).toArray 58))).other (grown_row _ w8.heap.size (u32s turnT).toArray) (by have := HHK.out; simp [Value.ownBlock]; omega) (by have h1 := HHK.out; have h2 := HG1.out; omega))
                clear HA9 HR9
                generalize w8.heap.size = Kb at *
                go_wp2
                go_loopg [9] (N + 1) (fun f s9 wx => ∃ (j q : Nat), s9 = .int .i64 q ∧ q = 64 * j ∧ q ≤ N ∧ N - q < f ∧ RS w wx (.slice (some ⟨gx, 0, none⟩) N cx) PF ∧ Arr wx H 51 (u32s (hashTo PF j)) ∧ Arr wx Kb 58 (u32s turnT))
                case atStart => exact ⟨0, 0, rfl, rfl, by omega, by omega, D3.out, D1.out, D2.out⟩
                case round =>
                  clear D1 D2 D3
                  obtain ⟨j, q, rfl, hqj, hqN, hf, hR, hA, hK⟩ := hrel
                  have HR := hide hR
                  have HA := hide hA
                  have HK := hide hK
                  have HQJ := hide hqj
                  have hR1 := hR.1
                  rw [HLJ.out] at hR1
                  have hbt : Bts wr gx 0 PF := fun i hi => by rw [Nat.zero_add]; exact (hR1.cellAt i (by rw [HLJ.out] at hi; omega)).trans (u8s_at hi)
                  have hjl := hashTo_length PF j
                  have hjw := hashTo_words PF j
                  by_cases hq64 : q + 64 ≤ N
                  · have hnx : hashTo PF (j + 1) = blockF (hashTo PF j) ((PF.drop q).take 64) := by rw [hqj]; rfl
                    have HNX := hide hnx
                    have hdl : ((PF.drop q).take 64).length = 64 := by simp [HLJ.out]; omega
                    have hbd : Bts wr gx q ((PF.drop q).take 64) := fun i hi => by
                      rw [hdl] at hi
                      have := hbt (q + i) (by rw [HLJ.out]; omega)
                      rw [Nat.zero_add] at this
                      rw [this]
                      congr 3
                      simp [List.getD, hi]
                    have hdb : ∀ x ∈ (PF.drop q).take 64, x < 256 := fun x hx => HPB.out x (List.mem_of_mem_drop (List.mem_of_mem_take hx))
                    have HCB := hide (fun (v : World) (hv : Bts v gx q ((PF.drop q).take 64)) => refblock_any (hashTo PF j) ((PF.drop q).take 64) gx q (cx - q) v hjl hjw hdl hdb (by omega) hv)
                    have HBD := hide hbd
                    have hnl : (blockF (hashTo PF j) ((PF.drop q).take 64)).length = 8 := blockF_length _ _
                    clear hnx hdl hbd hdb hbt hqj hR hA hK hR1
                    generalize (PF.drop q).take 64 = blk at *
                    generalize hashTo PF j = hj at *
                    have HI8 : Hid ((Tryd.prog.info? 51).map (·.size) = some (u32s hj).toArray.size) := by show _ = _; rw [info26]; simp [u32s, hjl]
                    have HI9 : Hid ((Tryd.prog.info? 51).map (·.size) = some (u32s (blockF hj blk)).toArray.size) := by show _ = _; rw [info26]; simp [u32s, hnl]
                    have HO9 : Hid ((u32s hj).toArray.size = (u32s (blockF hj blk)).toArray.size) := by show _ = _; simp [u32s, hnl, hjl]
                    generalize blockF hj blk = hb at *
                    have hsl : ∀ v : World, (Instr.slice 22 (.slice (some ⟨gx, 0, none⟩) N cx) (some (.int .i64 (q : Int))) (some (.int .i64 ((q : Int) + 64))) none).run Tryd.prog v = .ok (.slice (some ⟨gx, q, none⟩) 64 (cx - q)) v := fun v => run_blk v gx N cx q (by omega)
                    have hqw : IntKind.i64.wrap ((q : Int) + 64) = (q : Int) + 64 := by simp [IntKind.wrap, IntKind.bits, IntKind.signed]; omega
                    clear hjl hjw hnl
                    go_upto_region 19 with fail
                    refine wp_region_any (by kernel_rfl) ?_
                    try (change wpAny _ _ _ _ _ _ _ (World.drew _))
                    refine take_dst (i := 1) (d := 59) (v := ?_) rfl rfl (by kernel_rfl) (by kernel_rfl) (by kernel_rfl) (fun _ _ _ h => h) (by rfl) ?_ ?_
                    rotate_left
                    · intro wZ; go_simp; first | (with_reducible rfl) | (rw [if_pos (by omega)]; with_reducible rfl) | skip
                    try simp only [Act.put, List.setIfInBounds_toArray, List.set_cons_zero, List.set_cons_succ]
                    refine take_dst (i := 2) (d := 60) (v := ?_) rfl rfl (by kernel_rfl) (by kernel_rfl) (by kernel_rfl) (fun _ _ _ h => h) (by rfl) ?_ ?_
                    rotate_left
                    · intro wZ; go_simp; first | (with_reducible rfl) | (rw [if_pos (by omega)]; with_reducible rfl) | skip
                    try simp only [Act.put, List.setIfInBounds_toArray, List.set_cons_zero, List.set_cons_succ]
                    refine take_dst (i := 3) (d := 61) (v := ?_) rfl rfl (by kernel_rfl) (by kernel_rfl) (by kernel_rfl) (fun _ _ _ h => h) (by rfl) ?_ ?_
                    rotate_left
                    · intro wZ; go_simp; first | (with_reducible rfl) | (rw [if_pos (by omega)]; with_reducible rfl) | skip
                    try simp only [Act.put, List.setIfInBounds_toArray, List.set_cons_zero, List.set_cons_succ]
                    refine take_dst (i := 4) (d := 62) (v := ?_) rfl rfl (by kernel_rfl) (by kernel_rfl) (by kernel_rfl) (fun _ _ _ h => h) (by rfl) ?_ ?_
                    rotate_left
                    · intro wZ; go_simp; first | (with_reducible rfl) | (rw [if_pos (by omega)]; with_reducible rfl) | skip
                    try simp only [Act.put, List.setIfInBounds_toArray, List.set_cons_zero, List.set_cons_succ]
                    refine take_dst (i := 5) (d := 63) (v := ?_) rfl rfl (by kernel_rfl) (by kernel_rfl) (by kernel_rfl) (fun _ _ _ h => h) (by rfl) ?_ ?_
                    rotate_left
                    · intro wZ; go_simp; first | (with_reducible rfl) | (rw [if_pos (by omega)]; with_reducible rfl) | skip
                    try simp only [Act.put, List.setIfInBounds_toArray, List.set_cons_zero, List.set_cons_succ]
                    refine wpAny_ready (rs := [0, 6]) (by kernel_rfl) (by simp) ?_
                    refine (AllReady.cons rfl (fun K hK => ?_) (AllReady.cons rfl (fun K hK => ?_) AllReady.nil))
                    focus
                      refine wp_load_dst (d := 58) rfl 51 (.tmp 6) rfl H rfl 51 _ (0, 0) _ HA.out Tryd.underlying51 rfl HI8.out ?_
                      first | (refine hK _ _ ?_; clear hK K) | (clear hK K) | skip
                      try simp only [Act.put, List.setIfInBounds_toArray, List.set_cons_zero, List.set_cons_succ]
                      refine wpAny_ready (rs := [6]) (by kernel_rfl) (by simp) ?_
                      refine (AllReady.cons rfl (fun K hK => ?_) AllReady.nil)
                      refine wp_load_dst (d := 64) rfl 58 (.tmp 8) rfl Kb rfl 58 _ (0, 0) _ HK.out Tryd.underlying58 rfl info31 ?_
                      first | (refine hK _ _ ?_; clear hK K) | (clear hK K) | skip
                      try simp only [Act.put, List.setIfInBounds_toArray, List.set_cons_zero, List.set_cons_succ]
                      refine wpAny_ready (rs := [7]) (by kernel_rfl) (by simp) ?_
                      refine (AllReady.cons rfl (fun K hK => ?_) AllReady.nil)
                      go_simp
                      go_wp2_with ((go_at_call 29; refine (HCB.out _ (show Bts wr.drew gx q blk from HBD.out)).mono ?_; rintro e w9 ⟨rfl, hb9⟩; have HR9 := hide (HR.out.drew.kept hb9); have HA9 := hide ((show Arr wr.drew H 51 (u32s hj) from HA.out).kept hb9); have HK9 := hide ((show Arr wr.drew Kb 58 (u32s turnT) from HK.out).kept hb9); clear hb9))
                      first | (refine hK _ _ ?_; clear hK K) | (clear hK K) | skip
                      try simp only [Act.put, List.setIfInBounds_toArray, List.set_cons_zero, List.set_cons_succ]
                      refine wpAny_ready (rs := [8]) (by kernel_rfl) (by simp) ?_
                      refine (AllReady.cons rfl (fun K hK => ?_) AllReady.nil)
                      refine wp_store_dst rfl 51 (.tmp 6) (.tmp 65) rfl H _ rfl rfl 51 _ HA9.out HI9.out HO9.out (one_u32s _) ?_
                      first | (refine hK _ _ ?_; clear hK K) | (clear hK K) | skip
                      refine wpAny_done (by kernel_rfl) ?_ _
                    rotate_left 1
                    focus
                      refine wp_load_dst (d := 64) rfl 58 (.tmp 8) rfl Kb rfl 58 _ (0, 0) _ HK.out Tryd.underlying58 rfl info31 ?_
                      first | (refine hK _ _ ?_; clear hK K) | (clear hK K) | skip
                      try simp only [Act.put, List.setIfInBounds_toArray, List.set_cons_zero, List.set_cons_succ]
                      refine wpAny_ready (rs := [0]) (by kernel_rfl) (by simp) ?_
                      refine (AllReady.cons rfl (fun K hK => ?_) AllReady.nil)
                      refine wp_load_dst (d := 58) rfl 51 (.tmp 6) rfl H rfl 51 _ (0, 0) _ HA.out Tryd.underlying51 rfl HI8.out ?_
                      first | (refine hK _ _ ?_; clear hK K) | (clear hK K) | skip
                      try simp only [Act.put, List.setIfInBounds_toArray, List.set_cons_zero, List.set_cons_succ]
                      refine wpAny_ready (rs := [7]) (by kernel_rfl) (by simp) ?_
                      refine (AllReady.cons rfl (fun K hK => ?_) AllReady.nil)
                      go_simp
                      go_wp2_with ((go_at_call 29; refine (HCB.out _ (show Bts wr.drew gx q blk from HBD.out)).mono ?_; rintro e w9 ⟨rfl, hb9⟩; have HR9 := hide (HR.out.drew.kept hb9); have HA9 := hide ((show Arr wr.drew H 51 (u32s hj) from HA.out).kept hb9); have HK9 := hide ((show Arr wr.drew Kb 58 (u32s turnT) from HK.out).kept hb9); clear hb9))
                      first | (refine hK _ _ ?_; clear hK K) | (clear hK K) | skip
                      try simp only [Act.put, List.setIfInBounds_toArray, List.set_cons_zero, List.set_cons_succ]
                      refine wpAny_ready (rs := [8]) (by kernel_rfl) (by simp) ?_
                      refine (AllReady.cons rfl (fun K hK => ?_) AllReady.nil)
                      refine wp_store_dst rfl 51 (.tmp 6) (.tmp 65) rfl H _ rfl rfl 51 _ HA9.out HI9.out HO9.out (one_u32s _) ?_
                      first | (refine hK _ _ ?_; clear hK K) | (clear hK K) | skip
                      refine wpAny_done (by kernel_rfl) ?_ _
                    all_goals
                      go_wp2
                      go_roundg (N - q)
                      case measure => omega
                      case rel =>
                        refine ⟨j + 1, q + 64, by go_num, by have := HQJ.out; omega, by omega, by omega, ?_, ?_, ?_⟩
                        · exact HR9.out.other (grown_row _ H _) (by simp [Value.ownBlock]; omega) (by have := HG1.out; omega)
                        · rw [HNX.out]; exact HA9.out.row _
                        · exact HK9.out.rowOther _ _ (by have := HHK.out; omega)
                  · have hqe : q = N := by have := HQJ.out; omega
                    have hje : N / 64 = j := by have := HQJ.out; omega
                    rw [hje] at HSM
                    have hDl : (sumF bs).length = 32 := by rw [HSM.out]; exact digestF_length _
                    have hDa : ∀ i, i < 32 → (sumF bs).getD i 0 = (hashTo PF j).getD (i / 4) 0 / 2 ^ (24 - 8 * (i % 4)) % 256 := fun i hi => by rw [HSM.out]; exact digestF_at _ i hi
                    have DL := hide hDl
                    have DA := hide hDa
                    have JL := hide hjl
                    have JW := hide hjw
                    clear hDl hDa hjl hjw HSM hbt hR1 hR hA hK HK HQJ hqj HPB
                    generalize hashTo PF j = hF at *
                    generalize hD : sumF bs = D at *
                    have HD := hide hD
                    clear hD
                    have hqn : ¬ (q : Int) + 64 ≤ (N : Int) := by omega
                    clear hqe hje
                    go_wp2
                    generalize hO : wr.heap.size = O at *
                    have HO := hide hO
                    have HHO : Hid (H < O) := by show _ < _; rw [← hO]; exact HA.out.lt
                    have HZ0 := hide (Arr.newAt wr 25 (u8s (List.replicate 32 0)) O hO)
                    clear hO
                    go_loopg [11] 33 (fun f s11 wx => ∃ (i : Nat), s11 = .int .i64 i ∧ i ≤ 32 ∧ 32 - i < f ∧ RS w wx (.slice (some ⟨gx, 0, none⟩) N cx) PF ∧ Arr wx H 51 (u32s hF) ∧ Arr wx O 25 (u8s (part D 32 i)))
                    case atStart => exact ⟨0, rfl, by omega, by omega, HR.out.kept ((Below.refl _ _).alloc (Nat.le_refl _) _), HA.out.alloc _, HZ0.out⟩
                    case round =>
                      clear HR HA HZ0 HO
                      obtain ⟨i, rfl, hi, hf, hR, hA, hZ⟩ := hrel
                      have HR := hide hR
                      have HA := hide hA
                      have HZ := hide hZ
                      by_cases hi32 : i < 32
                      · obtain ⟨ia, hia⟩ : ∃ a, a = i / 4 := ⟨_, rfl⟩
                        obtain ⟨sf, hsf⟩ : ∃ a, a = 24 - 8 * (i % 4) := ⟨_, rfl⟩
                        have hdi := DA.out i hi32
                        rw [← hia, ← hsf] at hdi
                        have cy := (hA.cell ia).trans (u32s_at (l := hF) (by rw [JL.out]; omega))
                        have ly := JW.out.getD ia
                        have ez : ∃ x, wr.cell? ⟨O, i, none⟩ = some (.int .u8 x) := ⟨_, (hZ.cell i).trans (u8s_at (by rw [part_length _ _ _ DL.out (by omega)]; omega))⟩
                        obtain ⟨xz, cz⟩ := ez
                        have fz := hZ.frozen i
                        have e1 : (i : Int) / 4 = (ia : Int) := by omega
                        have e2 : 24 - 8 * ((i : Int) % 4) = (sf : Int) := by omega
                        have pa : (ia : Int) < 8 := by omega
                        have pi32 : (i : Int) < 32 := by omega
                        have hs24 : sf ≤ 24 := by omega
                        have HST := hide (HZ.out.set i (.int .u8 ((D.getD i 0 : Nat) : Int)))
                        rw [u8s_set, part_set _ _ _ DL.out hi32] at HST
                        clear hR hA hZ hia hsf
                        generalize hF.getD ia 0 = y at *
                        have e3 : ((y : Int) / 2 ^ sf) % 256 = ((D.getD i 0 : Nat) : Int) := by rw [hdi]; simp
                        clear hdi
                        generalize D.getD i 0 = dv at *
                        go_wp2
                        go_roundg (32 - i)
                        case measure => omega
                        case rel =>
                          refine ⟨i + 1, by go_num, by omega, by omega, ?_, ?_, HST.out⟩
                          · exact HR.out.other (grown_set wr O i _) (by have := HHO.out; simp [Value.ownBlock]; omega) (by have h1 := HHO.out; have h2 := HG1.out; omega)
                          · exact HA.out.other _ _ (Nat.ne_of_lt HHO.out)
                      · have e : i = 32 := by omega
                        subst e
                        rw [part_full _ _ DL.out] at hZ
                        have HZ2 := hide hZ
                        have HG0 := hide hR.2.1
                        have HI32 : Hid ((Tryd.prog.info? 25).map (·.size) = some (u8s D).toArray.size) := by show _ = _; rw [info35]; simp [u8s, DL.out]
                        have HO32 : Hid ((u8s (List.replicate 32 0)).toArray.size = (u8s D).toArray.size) := by show _ = _; simp [u8s, DL.out]
                        clear hR hA hZ HZ
                        go_wp2_with (first
                          | (refine wpList_load_row rfl 25 _ rfl O rfl 25 _ (0, 0) _ HZ2.out Tryd.underlying25 rfl HI32.out ?_)
                          | (refine wpList_store_row rfl 25 _ _ rfl w.heap.size _ rfl rfl 25 _ HG0.out HI32.out HO32.out (all_u8s _) ?_))
                        exact bodyPost_ret (v := .agg (u8s D).toArray) (results_cell_row Tryd.results18 _ _ w.heap.size 25 _ (0, 0) _ rfl (HG0.out.row _) Tryd.underlying25 rfl HI32.out) rfl ⟨by rw [HD.out], below_setRow HR.out.2.2.2 (Nat.le_refl _) HG0.out.lt _⟩

end Go.Proofs.YtfopjobcjafgaabDoor
