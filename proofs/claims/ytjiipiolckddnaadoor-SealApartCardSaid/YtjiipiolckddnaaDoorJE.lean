/-
  Several texts, joined: SO, SQ, SR, HM, HA.
-/
import Derived.Test.YtjiipiolckddnaaDoorJA
import Derived.Test.YtjiipiolckddnaaDoorJD
import Derived.Test.YtjiipiolckddnaaDoorJC
import Derived.DeepKeys

/- A walk: the reference's Sum: the document's digest of any bytes. -/
namespace Go.Proofs.YtjiipiolckddnaaDoor
open Go.RowKit

theorem info35 : (Tryd.prog.info? 32).map (·.size) = some 32 := by kernel_rfl
abbrev Z32 : Obj := Obj.cells (u8s (List.replicate 32 0)).toArray 32

theorem Arr.keptRow {w w' : World} {g B : Nat} {t : TypeId} {vs : List Value} {v : Value} {n : Nat} {xs : List Value} {e : TypeId} (h : Arr w g t vs) (ho : w.ownsRow B e 1 v n xs) (hB : g < B) (hg : w.grownBy w' v.ownBlock) : Arr w' g t vs :=
  (hg.block g h.lt (fun e => by have := (ho.lt g e.symm).1; omega)).trans h

theorem Arr.grown' {w w' : World} {g X : Nat} {t : TypeId} {vs : List Value} (h : Arr w g t vs) (hg : w.grownBy w' (some X)) (hne : g ≠ X) : Arr w' g t vs := (hg.block g h.lt (fun e => hne (by cases e; rfl))).trans h
theorem s_grown_setO (w : World) (X j : Nat) (v : Value) : w.grownBy (w.setCell ⟨X, j, none⟩ v) (some X) :=
  ⟨rfl, rfl, rfl, by simp, fun k _ hk => heap_setCell_other w ⟨X, j, none⟩ k _ (fun e => hk (by simp [e]))⟩
theorem grown_row (w : World) (X : Nat) (us : Array Value) : w.grownBy (w.setRow X us) (some X) :=
  ⟨rfl, rfl, rfl, by simp, fun k _ hk => setRow_other w X k us (fun e => hk (by rw [e]))⟩

theorem all_u8s (l : List Nat) : (u8s l).toArray.all (·.oneCell') = true := all_oneCell_toArray (one_mem l)

theorem run_blk (w : World) (g n cap q : Nat) (h : q + 64 ≤ cap) :
    (Instr.slice 35 (.slice (some ⟨g, 0, none⟩) n cap) (some (.int .i64 (q : Int))) (some (.int .i64 ((q : Int) + 64))) none).run Tryd.prog w = .ok (.slice (some ⟨g, q, none⟩) 64 (cap - q)) w := by
  have ht' : Tryd.prog.underlying 35 = some (.slice (Tryd.prog.elem 35)) := by simp [Program.elem, Tryd.underlying35]
  have he : Tryd.prog.elem 35 = 5 := by simp [Program.elem, Tryd.underlying35]
  rw [run_slice_lh w 35 _ _ _ ht' .i64 .i64 _ _ (by omega) (by omega) (by omega), he, size5]
  have e : ((q : Int) + 64).toNat = q + 64 := by omega
  simp [Result.andThen, sliced, e, show cap ≠ q by omega, Addr.add_mid]

/-- what lies in memory while the reference makes a digest: the row of all bytes, the digest's place -/
def RS (w wr : World) (v : Value) (l : List Nat) : Prop :=
  wr.ownsRow (w.heap.size + 1) 5 1 v l.length (u8s l) ∧ Arr wr w.heap.size 32 (u8s (List.replicate 32 0)) ∧ w.heap.size + 1 ≤ wr.heap.size ∧ Below w.heap.size w wr

theorem RS.append {w wr w' : World} {v v' : Value} {l l' : List Nat} (r : RS w wr v l) (ho : w'.ownsRow (w.heap.size + 1) 5 1 v' l'.length (u8s l')) (hg : wr.grownBy w' v.ownBlock) : RS w w' v' l' :=
  ⟨ho, r.2.1.keptRow r.1 (by omega) hg, Nat.le_trans r.2.2.1 hg.size, r.2.2.2.grown hg (by have := r.2.2.1; omega) (fun k hk => by have := (r.1.lt k hk).1; omega)⟩

theorem RS.kept {w wr w' : World} {v : Value} {l : List Nat} (r : RS w wr v l) (hb : Below wr.heap.size wr w') : RS w w' v l :=
  ⟨own_below r.1 hb, r.2.1.kept hb, Nat.le_trans r.2.2.1 hb.size, r.2.2.2.trans (hb.mono r.2.2.2.size)⟩

theorem RS.other {w wr wx : World} {v : Value} {l : List Nat} {X : Nat} (r : RS w wr v l) (hg : wr.grownBy wx (some X)) (hv : v.ownBlock ≠ some X) (hX : w.heap.size < X) : RS w wx v l :=
  ⟨r.1.kept hg (Or.inr hv), r.2.1.grown' hg (by omega), Nat.le_trans r.2.2.1 hg.size, r.2.2.2.grown hg (by have := r.2.2.1; omega) (by intro k hk; cases hk; omega)⟩

theorem RS.drew {w wr : World} {v : Value} {l : List Nat} (r : RS w wr v l) : RS w wr.drew v l := ⟨r.1, r.2.1, r.2.2.1, r.2.2.2.drew⟩

theorem s_bi_one (w : World) (x : Nat) : BI (w.alloc (Obj.cells #[.int .u8 ((x : Nat) : Int)] 5)) (some ⟨w.heap.size, 0, none⟩) [x] := by
  refine Or.inr ⟨w.heap.size, 0, rfl, ?_⟩
  intro i hi
  have : i = 0 := by simp at hi; omega
  subst this
  simp

theorem u8s_zeros : (u8s (List.replicate 32 0)).toArray = #[Value.int .u8 0, Value.int .u8 0, Value.int .u8 0, Value.int .u8 0, Value.int .u8 0, Value.int .u8 0, Value.int .u8 0, Value.int .u8 0, Value.int .u8 0, Value.int .u8 0, Value.int .u8 0, Value.int .u8 0, Value.int .u8 0, Value.int .u8 0, Value.int .u8 0, Value.int .u8 0, Value.int .u8 0, Value.int .u8 0, Value.int .u8 0, Value.int .u8 0, Value.int .u8 0, Value.int .u8 0, Value.int .u8 0, Value.int .u8 0, Value.int .u8 0, Value.int .u8 0, Value.int .u8 0, Value.int .u8 0, Value.int .u8 0, Value.int .u8 0, Value.int .u8 0, Value.int .u8 0] := rfl

set_option maxHeartbeats 8000000 in
set_option maxRecDepth 100000 in
theorem refsum_of (p : Option Addr) (c : Nat) (bs : List Nat) (w : World) (hb : BI w p bs) (hp : p = none → c = 0) (hn : bs.length ≤ 100000) (hby : BytesN bs) :
    Calls Tryd.prog 39 #[.slice p bs.length c] w fun e w' => e = .returned (.agg (u8s (sumF bs)).toArray) ∧ Below w.heap.size w w' := by
  have HB := hide hb
  have HBY := hide hby
  clear hb hby
  generalize hln : bs.length = n at *
  have HN := hide hln
  have HP := hide hp
  clear hln hp
  go_enter Tryd.func39, Tryd.ntmps39
  go_upto_region 1 with fail
  go_cut [3] (fun s3 wc => ∃ v, v = s3 ∧ RS w wc v bs)
  case first =>
    rw [← u8s_zeros]
    have A0 := hide (Arr.new w 32 (u8s (List.replicate 32 0)))
    have B0 : Hid (Below w.heap.size w (w.alloc Z32)) := (Below.refl _ _).alloc (Nat.le_refl _) _
    have hsz : Hid ((w.alloc Z32).heap.size = w.heap.size + 1) := by show _ = _; simp
    have HB1 := hide (HB.out.kept B0.out)
    generalize (w.alloc Z32) = w1 at *
    go_wp2_with (at_builtin; refine wpList_append_bytes rfl (.tmp 12) (.tmp 13) rfl (w.heap.size + 1) _ [] rfl 0 rfl (World.ownsRow_made w1 #[] 0 (by have := hsz.out; omega) (Nat.zero_le _) rfl) p n c bs HN.out rfl (HB1.out.kept ((Below.refl _ _).alloc (Nat.le_refl _) _)) HP.out (by omega) (by have := hsz.out; simp; omega) ?_)
    intro v2 w2 hown hgrow
    have HRS : Hid (RS w w2 v2 bs) := by
      have hs := hsz.out
      refine ⟨by rw [HN.out]; simpa using hown, ?_, ?_, ?_⟩
      · refine (hgrow.block w.heap.size (by simp; omega) (by simp [Value.ownBlock]; omega)).trans ?_
        exact A0.out.alloc _
      · have := hgrow.size; simp at this; omega
      · exact (B0.out.alloc (by omega) _).grown hgrow (by simp; omega) (by intro k hk; simp [Value.ownBlock] at hk; omega)
    clear hown hgrow
    go_wp2_with fail
    go_meet
    case rel => exact ⟨v2, rfl, HRS.out⟩
  case rest =>
    obtain ⟨v3, rfl, hR⟩ := hcut
    have HR := hide hR
    clear hR HB
    go_wp2_with (at_builtin; refine wpList_append_bytes rfl (.tmp 15) (.tmp 16) rfl (w.heap.size + 1) v3 bs rfl n HN.out (by have := HR.out.1.alloc (Obj.cells #[.int .u8 (128 : Int)] 5); rw [HN.out] at this; exact this) (some ⟨wc.heap.size, 0, none⟩) 1 1 [128] rfl rfl (s_bi_one wc 128) (fun e => by cases e) (by omega) (by have := HR.out.2.2.1; simp; omega) ?_)
    intro v4 w4 hown hgrow
    have HR4 : Hid (RS w w4 v4 (bs ++ [128])) := by
      refine RS.append (HR.out.kept ((Below.refl _ _).alloc (Nat.le_refl _) _)) ?_ hgrow
      rw [List.length_append, HN.out]; exact hown
    clear hown hgrow HR
    have hz : padZ n < 64 := Nat.mod_lt _ (by omega)
    have HZ : Hid (padZ n = (119 - n % 64) % 64) := rfl
    have HPF : Hid (padF bs = bs ++ [128] ++ List.replicate (padZ n) 0 ++ be8 (n * 8) 8) := by show _ = _; rw [← HN.out]; rfl
    generalize padZ n = z at *
    go_wp2
    go_loopg [3] (z + 1) (fun f s3 wr => ∃ (k : Nat) (v : Value), v = s3 ∧ k ≤ z ∧ z - k < f ∧ RS w wr v (bs ++ [128] ++ List.replicate k 0))
    case atStart => exact ⟨0, v4, rfl, by omega, by omega, by simpa using HR4.out⟩
    case round =>
      clear HR4
      obtain ⟨k, v, rfl, hk, hf, hR⟩ := hrel
      have HR := hide hR
      have hll : (bs ++ [128] ++ List.replicate k 0).length = n + 1 + k := by simp [HN.out]; omega
      obtain ⟨gv, cv, rfl, hgv, hgs, hcv, hcm⟩ := own_shape hR.1 (by rw [hll]; omega)
      rw [hll] at HR hcv ⊢
      have HLL := hide hll
      clear hR hll
      generalize hL : bs ++ [128] ++ List.replicate k 0 = L at *
      have HLX := hide hL
      clear hL
      unfold maxLen at hcm
      by_cases hkz : k < z
      · have hne : ¬ (n + 1 + k) % 64 = 56 := by have := HZ.out; omega
        have hne' : ¬ (((n : Int) + 1 + k) % 64 = 56) := by omega
        go_wp2_with (at_builtin; refine wpList_append_bytes rfl (.tmp 22) (.tmp 23) rfl (w.heap.size + 1) _ L rfl (n + 1 + k) HLL.out (by have := HR.out.1.alloc (Obj.cells #[.int .u8 (0 : Int)] 5); rw [HLL.out] at this; exact this) (some ⟨wr.heap.size, 0, none⟩) 1 1 [0] rfl rfl (s_bi_one wr 0) (fun e => by cases e) (by omega) (by have := HR.out.2.2.1; simp; omega) ?_)
        intro v5 w5 hown hgrow
        have HR5 : Hid (RS w w5 v5 (bs ++ [128] ++ List.replicate (k + 1) 0)) := by
          have e : bs ++ [128] ++ List.replicate (k + 1) 0 = L ++ [0] := by rw [List.replicate_succ', ← List.append_assoc, HLX.out]
          show RS _ _ _ _
          rw [e]
          refine RS.append (HR.out.kept ((Below.refl _ _).alloc (Nat.le_refl _) _)) ?_ hgrow
          rw [List.length_append, HLL.out]; exact hown
        clear hown hgrow HR
        go_wp2
        go_roundg (z - k)
        case measure => omega
        case rel => exact ⟨k + 1, v5, rfl, by omega, by omega, HR5.out⟩
      · have e : k = z := by omega
        subst e
        have heq : (n + 1 + k) % 64 = 56 := by have := HZ.out; omega
        have heq' : ((n : Int) + 1 + k) % 64 = 56 := by omega
        have HM : Hid (∀ i, be8 (n * 8) (i + 1) = be8 (n * 8) i ++ [n * 8 / 2 ^ (8 * (7 - i)) % 256]) := fun i => rfl
        have HPX : Hid (padF bs = L ++ be8 (n * 8) 8) := by show _ = _; rw [HPF.out, HLX.out]
        have HE8 : Hid (∀ i, (be8 (n * 8) i).length = i) := fun i => be8_length _ i
        have HE0 : Hid (be8 (n * 8) 0 = []) := rfl
        generalize be8 (n * 8) = eb at *
        go_wp2
        clear HPF heq heq' HZ
        go_loopg [3, 5] 9 (fun f s3 s5 wr => ∃ (j : Nat) (v : Value), v = s3 ∧ s5 = .int .i64 (7 - (j : Int)) ∧ j ≤ 8 ∧ 8 - j < f ∧ RS w wr v (L ++ eb j))
        case atStart => exact ⟨0, _, rfl, rfl, by omega, by omega, by rw [HE0.out, List.append_nil]; exact HR.out⟩
        case round =>
          clear HR
          obtain ⟨j, v, rfl, rfl, hj, hf, hR⟩ := hrel
          have HR := hide hR
          have hll : (L ++ eb j).length = n + 1 + k + j := by rw [List.length_append, HLL.out, HE8.out]
          obtain ⟨gx, cx, rfl, hgx, hgsx, hcx, hcmx⟩ := own_shape hR.1 (by rw [hll]; omega)
          rw [hll] at HR hcx ⊢
          have HLJ := hide hll
          clear hR hll
          unfold maxLen at hcmx
          by_cases hj8 : j < 8
          · obtain ⟨q, hq⟩ : ∃ q, q = 7 - j := ⟨_, rfl⟩
            have hqi : (7 : Int) - (j : Int) = (q : Int) := by omega
            have hq7 : q ≤ 7 := by omega
            have hbyte : ((n : Int) * 8 / 2 ^ (8 * q)) % 256 = ((n * 8 / 2 ^ (8 * q) % 256 : Nat) : Int) := by simp
            have HEJ : Hid (eb (j + 1) = eb j ++ [n * 8 / 2 ^ (8 * q) % 256]) := by show _ = _; rw [HM.out, hq]
            clear hq
            have hdb : n * 8 / 2 ^ (8 * q) % 256 < 256 := Nat.mod_lt _ (by omega)
            generalize n * 8 / 2 ^ (8 * q) % 256 = dg at *
            generalize hLJ : L ++ eb j = LJ at *
            have HLJX := hide hLJ
            clear hLJ
            rw [hqi]
            go_wp2_with (at_builtin; refine wpList_append_bytes rfl (.tmp 33) (.tmp 40) rfl (w.heap.size + 1) _ LJ rfl (n + 1 + k + j) HLJ.out (by have := HR.out.1.alloc (Obj.cells #[.int .u8 ((dg : Nat) : Int)] 5); rw [HLJ.out] at this; exact this) (some ⟨wr.heap.size, 0, none⟩) 1 1 [dg] rfl rfl (s_bi_one wr dg) (fun e => by cases e) (by omega) (by have := HR.out.2.2.1; simp; omega) ?_)
            intro v6 w6 hown hgrow
            have HR6 : Hid (RS w w6 v6 (L ++ eb (j + 1))) := by
              show RS _ _ _ _
              rw [HEJ.out, ← List.append_assoc, HLJX.out]
              refine RS.append (HR.out.kept ((Below.refl _ _).alloc (Nat.le_refl _) _)) ?_ hgrow
              rw [List.length_append, HLJ.out]; exact hown
            clear hown hgrow HR
            go_wp2
            go_roundg (8 - j)
            case measure => omega
            case rel => exact ⟨j + 1, v6, rfl, by first | (congr 1; omega) | go_num, by omega, by omega, HR6.out⟩
          · have e : j = 8 := by omega
            subst e
            have hwhole := padF_whole bs
            have hpb := padF_bytes HBY.out
            have hpx := HPX.out
            have HSM : Hid (sumF bs = digestF (hashTo (padF bs) ((padF bs).length / 64))) := rfl
            rw [hpx] at hwhole hpb HSM
            rw [HLJ.out] at hwhole HSM
            have HPB := hide hpb
            clear hpx hpb HPX HE8 HE0 HM HLL HLX HBY
            generalize L ++ eb 8 = PF at *
            obtain ⟨N, hN⟩ : ∃ N, N = n + 1 + k + 8 := ⟨_, rfl⟩
            rw [← hN] at HR hcx HLJ hwhole HSM ⊢
            have hNb : N ≤ 101000 := by omega
            have hN9 : 9 ≤ N := by omega
            clear hN
            rw [show (7 : Int) - ((8 : Nat) : Int) = -1 from rfl]
            go_wp2
            generalize hH : wr.heap.size = H at *
            have HH := hide hH
            clear hH
            have hgH : gx < H := hgsx
            have HG1 : Hid (w.heap.size + 1 ≤ H) := by have := HR.out.2.2.1; rw [HH.out] at this; exact this
            go_loopg [7] 9 (fun f s7 wx => ∃ (i : Nat), s7 = .int .i64 i ∧ i ≤ 8 ∧ 8 - i < f ∧ RS w wx (.slice (some ⟨gx, 0, none⟩) N cx) PF ∧ Arr wx H 96 (u32s (part startT 8 i)))
            case atStart =>
              refine ⟨0, rfl, by omega, by omega, HR.out.kept ((Below.refl _ _).alloc (Nat.le_refl _) _), ?_⟩
              exact Arr.newAt wr 96 (u32s (List.replicate 8 0)) H HH.out
            case round =>
              clear HR HH
              obtain ⟨i, rfl, hi, hf, hR, hA⟩ := hrel
              have HR := hide hR
              have HA := hide hA
              clear hR hA
              by_cases hi8 : i < 8
              · go_wp2_with fail
                refine (refStart_in i hi8 _).mono ?_
                rintro e w7 ⟨rfl, hb7⟩
                have hA7 := HA.out.kept hb7
                have HR7 := hide (HR.out.kept hb7)
                have c7 : ∃ x, w7.cell? ⟨H, i, none⟩ = some (.int .u32 x) := ⟨_, (hA7.cell i).trans (u32s_at (by rw [part_length _ _ _ startT_length (by omega)]; omega))⟩
                obtain ⟨x7, c7⟩ := c7
                have f7 := hA7.frozen i
                have HA7 := hide hA7
                clear hA7 hb7 HR HA
                have hi8' : (i : Int) < 8 := by omega
                go_wp2
                go_roundg (8 - i)
                case measure => omega
                case rel =>
                  refine ⟨i + 1, by go_num, by omega, by omega, HR7.out.other (s_grown_setO w7 H i _) (by simp [Value.ownBlock]; omega) (by have := HG1.out; omega), ?_⟩
                  have := HA7.out.set i (.int .u32 ((startT.getD i 0 : Nat) : Int))
                  rw [u32s_set, part_set _ _ _ startT_length hi8] at this
                  exact this
              · have e : i = 8 := by omega
                subst e
                have hA := HA.out
                rw [part_full _ _ startT_length] at hA
                have HA8 := hide hA
                clear hA HA
                go_wp2_with fail
                refine (turns_any _).mono ?_
                rintro e w8 ⟨rfl, hb8⟩
                have HA9 := hide (HA8.out.kept hb8)
                have HR9 := hide (HR.out.kept hb8)
                have HHK : Hid (H < w8.heap.size) := HA9.out.lt
                clear hb8 HR HA8
                go_upto_region 16 with (refine wpList_store_row rfl 98 _ _ rfl w8.heap.size _ rfl rfl 98 _ (heap_alloc_new w8 _) info31 rfl (one_u32s _) ?_)
                have D1 := hide ((HA9.out.alloc (Obj.cells (u32s (List.replicate 64 0)).toArray 98)).rowOther w8.heap.size (u32s turnT).toArray (Nat.ne_of_lt HHK.out))
                have D2 := hide ((Arr.new w8 98 (u32s (List.replicate 64 0))).row (u32s turnT).toArray)
                have D3 := hide ((HR9.out.kept ((Below.refl _ _).alloc (Nat.le_refl _) (Obj.cells (u32s (List.replicate 64 0)).toArray 98))).other (grown_row _ w8.heap.size (u32s turnT).toArray) (by have := HHK.out; simp [Value.ownBlock]; omega) (by have h1 := HHK.out; have h2 := HG1.out; omega))
                clear HA9 HR9
                generalize w8.heap.size = Kb at *
                go_wp2
                go_loopg [9] (N + 1) (fun f s9 wx => ∃ (j q : Nat), s9 = .int .i64 q ∧ q = 64 * j ∧ q ≤ N ∧ N - q < f ∧ RS w wx (.slice (some ⟨gx, 0, none⟩) N cx) PF ∧ Arr wx H 96 (u32s (hashTo PF j)) ∧ Arr wx Kb 98 (u32s turnT))
                case atStart => exact ⟨0, 0, rfl, rfl, by omega, by omega, D3.out, D1.out, D2.out⟩
                case round =>
                  clear D1 D2 D3
                  obtain ⟨j, q, rfl, hqj, hqN, hf, hR, hA, hK⟩ := hrel
                  have HR := hide hR
                  have HA := hide hA
                  have HK := hide hK
                  have HQJ := hide hqj
                  have hR1 := hR.1
                  rw [HLJ.out] at hR1
                  have hbt : Bts wr gx 0 PF := fun i hi => by rw [Nat.zero_add]; exact (hR1.cellAt i (by rw [HLJ.out] at hi; omega)).trans (u8s_at hi)
                  have hjl := hashTo_length PF j
                  have hjw := hashTo_words PF j
                  by_cases hq64 : q + 64 ≤ N
                  · have hnx : hashTo PF (j + 1) = blockF (hashTo PF j) ((PF.drop q).take 64) := by rw [hqj]; rfl
                    have HNX := hide hnx
                    have hdl : ((PF.drop q).take 64).length = 64 := by simp [HLJ.out]; omega
                    have hbd : Bts wr gx q ((PF.drop q).take 64) := fun i hi => by
                      rw [hdl] at hi
                      have := hbt (q + i) (by rw [HLJ.out]; omega)
                      rw [Nat.zero_add] at this
                      rw [this]
                      congr 3
                      simp [List.getD, hi]
                    have hdb : ∀ x ∈ (PF.drop q).take 64, x < 256 := fun x hx => HPB.out x (List.mem_of_mem_drop (List.mem_of_mem_take hx))
                    have HCB := hide (fun (v : World) (hv : Bts v gx q ((PF.drop q).take 64)) => refblock_any (hashTo PF j) ((PF.drop q).take 64) gx q (cx - q) v hjl hjw hdl hdb (by omega) hv)
                    have HBD := hide hbd
                    have hnl : (blockF (hashTo PF j) ((PF.drop q).take 64)).length = 8 := blockF_length _ _
                    clear hnx hdl hbd hdb hbt hqj hR hA hK hR1
                    generalize (PF.drop q).take 64 = blk at *
                    generalize hashTo PF j = hj at *
                    have HI8 : Hid ((Tryd.prog.info? 96).map (·.size) = some (u32s hj).toArray.size) := by show _ = _; rw [info26]; simp [u32s, hjl]
                    have HI9 : Hid ((Tryd.prog.info? 96).map (·.size) = some (u32s (blockF hj blk)).toArray.size) := by show _ = _; rw [info26]; simp [u32s, hnl]
                    have HO9 : Hid ((u32s hj).toArray.size = (u32s (blockF hj blk)).toArray.size) := by show _ = _; simp [u32s, hnl, hjl]
                    generalize blockF hj blk = hb at *
                    have hsl : ∀ v : World, (Instr.slice 35 (.slice (some ⟨gx, 0, none⟩) N cx) (some (.int .i64 (q : Int))) (some (.int .i64 ((q : Int) + 64))) none).run Tryd.prog v = .ok (.slice (some ⟨gx, q, none⟩) 64 (cx - q)) v := fun v => run_blk v gx N cx q (by omega)
                    have hqw : IntKind.i64.wrap ((q : Int) + 64) = (q : Int) + 64 := by simp [IntKind.wrap, IntKind.bits, IntKind.signed]; omega
                    clear hjl hjw hnl
                    go_upto_region 19 with fail
                    refine wp_region_any (by kernel_rfl) ?_
                    try (change wpAny _ _ _ _ _ _ _ (World.drew _))
                    refine take_dst (i := 1) (d := 59) (v := ?_) rfl rfl (by kernel_rfl) (by kernel_rfl) (by kernel_rfl) (fun _ _ _ h => h) (by rfl) ?_ ?_
                    rotate_left
                    · intro wZ; go_simp; first | (with_reducible rfl) | (rw [if_pos (by omega)]; with_reducible rfl) | skip
                    try simp only [Act.put, List.setIfInBounds_toArray, List.set_cons_zero, List.set_cons_succ]
                    refine take_dst (i := 2) (d := 60) (v := ?_) rfl rfl (by kernel_rfl) (by kernel_rfl) (by kernel_rfl) (fun _ _ _ h => h) (by rfl) ?_ ?_
                    rotate_left
                    · intro wZ; go_simp; first | (with_reducible rfl) | (rw [if_pos (by omega)]; with_reducible rfl) | skip
                    try simp only [Act.put, List.setIfInBounds_toArray, List.set_cons_zero, List.set_cons_succ]
                    refine take_dst (i := 3) (d := 61) (v := ?_) rfl rfl (by kernel_rfl) (by kernel_rfl) (by kernel_rfl) (fun _ _ _ h => h) (by rfl) ?_ ?_
                    rotate_left
                    · intro wZ; go_simp; first | (with_reducible rfl) | (rw [if_pos (by omega)]; with_reducible rfl) | skip
                    try simp only [Act.put, List.setIfInBounds_toArray, List.set_cons_zero, List.set_cons_succ]
                    refine take_dst (i := 4) (d := 62) (v := ?_) rfl rfl (by kernel_rfl) (by kernel_rfl) (by kernel_rfl) (fun _ _ _ h => h) (by rfl) ?_ ?_
                    rotate_left
                    · intro wZ; go_simp; first | (with_reducible rfl) | (rw [if_pos (by omega)]; with_reducible rfl) | skip
                    try simp only [Act.put, List.setIfInBounds_toArray, List.set_cons_zero, List.set_cons_succ]
                    refine take_dst (i := 5) (d := 63) (v := ?_) rfl rfl (by kernel_rfl) (by kernel_rfl) (by kernel_rfl) (fun _ _ _ h => h) (by rfl) ?_ ?_
                    rotate_left
                    · intro wZ; go_simp; first | (with_reducible rfl) | (rw [if_pos (by omega)]; with_reducible rfl) | skip
                    try simp only [Act.put, List.setIfInBounds_toArray, List.set_cons_zero, List.set_cons_succ]
                    refine wpAny_ready (rs := [0, 6]) (by kernel_rfl) (by simp) ?_
                    refine (AllReady.cons rfl (fun K hK => ?_) (AllReady.cons rfl (fun K hK => ?_) AllReady.nil))
                    focus
                      refine wp_load_dst (d := 58) rfl 96 (.tmp 6) rfl H rfl 96 _ (0, 0) _ HA.out Tryd.underlying96 rfl HI8.out ?_
                      first | (refine hK _ _ ?_; clear hK K) | (clear hK K) | skip
                      try simp only [Act.put, List.setIfInBounds_toArray, List.set_cons_zero, List.set_cons_succ]
                      refine wpAny_ready (rs := [6]) (by kernel_rfl) (by simp) ?_
                      refine (AllReady.cons rfl (fun K hK => ?_) AllReady.nil)
                      refine wp_load_dst (d := 64) rfl 98 (.tmp 8) rfl Kb rfl 98 _ (0, 0) _ HK.out Tryd.underlying98 rfl info31 ?_
                      first | (refine hK _ _ ?_; clear hK K) | (clear hK K) | skip
                      try simp only [Act.put, List.setIfInBounds_toArray, List.set_cons_zero, List.set_cons_succ]
                      refine wpAny_ready (rs := [7]) (by kernel_rfl) (by simp) ?_
                      refine (AllReady.cons rfl (fun K hK => ?_) AllReady.nil)
                      go_simp
                      go_wp2_with ((go_at_call 56; refine (HCB.out _ (show Bts wr.drew gx q blk from HBD.out)).mono ?_; rintro e w9 ⟨rfl, hb9⟩; have HR9 := hide (HR.out.drew.kept hb9); have HA9 := hide ((show Arr wr.drew H 96 (u32s hj) from HA.out).kept hb9); have HK9 := hide ((show Arr wr.drew Kb 98 (u32s turnT) from HK.out).kept hb9); clear hb9))
                      first | (refine hK _ _ ?_; clear hK K) | (clear hK K) | skip
                      try simp only [Act.put, List.setIfInBounds_toArray, List.set_cons_zero, List.set_cons_succ]
                      refine wpAny_ready (rs := [8]) (by kernel_rfl) (by simp) ?_
                      refine (AllReady.cons rfl (fun K hK => ?_) AllReady.nil)
                      refine wp_store_dst rfl 96 (.tmp 6) (.tmp 65) rfl H _ rfl rfl 96 _ HA9.out HI9.out HO9.out (one_u32s _) ?_
                      first | (refine hK _ _ ?_; clear hK K) | (clear hK K) | skip
                      refine wpAny_done (by kernel_rfl) ?_ _
                    rotate_left 1
                    focus
                      refine wp_load_dst (d := 64) rfl 98 (.tmp 8) rfl Kb rfl 98 _ (0, 0) _ HK.out Tryd.underlying98 rfl info31 ?_
                      first | (refine hK _ _ ?_; clear hK K) | (clear hK K) | skip
                      try simp only [Act.put, List.setIfInBounds_toArray, List.set_cons_zero, List.set_cons_succ]
                      refine wpAny_ready (rs := [0]) (by kernel_rfl) (by simp) ?_
                      refine (AllReady.cons rfl (fun K hK => ?_) AllReady.nil)
                      refine wp_load_dst (d := 58) rfl 96 (.tmp 6) rfl H rfl 96 _ (0, 0) _ HA.out Tryd.underlying96 rfl HI8.out ?_
                      first | (refine hK _ _ ?_; clear hK K) | (clear hK K) | skip
                      try simp only [Act.put, List.setIfInBounds_toArray, List.set_cons_zero, List.set_cons_succ]
                      refine wpAny_ready (rs := [7]) (by kernel_rfl) (by simp) ?_
                      refine (AllReady.cons rfl (fun K hK => ?_) AllReady.nil)
                      go_simp
                      go_wp2_with ((go_at_call 56; refine (HCB.out _ (show Bts wr.drew gx q blk from HBD.out)).mono ?_; rintro e w9 ⟨rfl, hb9⟩; have HR9 := hide (HR.out.drew.kept hb9); have HA9 := hide ((show Arr wr.drew H 96 (u32s hj) from HA.out).kept hb9); have HK9 := hide ((show Arr wr.drew Kb 98 (u32s turnT) from HK.out).kept hb9); clear hb9))
                      first | (refine hK _ _ ?_; clear hK K) | (clear hK K) | skip
                      try simp only [Act.put, List.setIfInBounds_toArray, List.set_cons_zero, List.set_cons_succ]
                      refine wpAny_ready (rs := [8]) (by kernel_rfl) (by simp) ?_
                      refine (AllReady.cons rfl (fun K hK => ?_) AllReady.nil)
                      refine wp_store_dst rfl 96 (.tmp 6) (.tmp 65) rfl H _ rfl rfl 96 _ HA9.out HI9.out HO9.out (one_u32s _) ?_
                      first | (refine hK _ _ ?_; clear hK K) | (clear hK K) | skip
                      refine wpAny_done (by kernel_rfl) ?_ _
                    all_goals
                      go_wp2
                      go_roundg (N - q)
                      case measure => omega
                      case rel =>
                        refine ⟨j + 1, q + 64, by go_num, by have := HQJ.out; omega, by omega, by omega, ?_, ?_, ?_⟩
                        · exact HR9.out.other (grown_row _ H _) (by simp [Value.ownBlock]; omega) (by have := HG1.out; omega)
                        · rw [HNX.out]; exact HA9.out.row _
                        · exact HK9.out.rowOther _ _ (by have := HHK.out; omega)
                  · have hqe : q = N := by have := HQJ.out; omega
                    have hje : N / 64 = j := by have := HQJ.out; omega
                    rw [hje] at HSM
                    have hDl : (sumF bs).length = 32 := by rw [HSM.out]; exact digestF_length _
                    have hDa : ∀ i, i < 32 → (sumF bs).getD i 0 = (hashTo PF j).getD (i / 4) 0 / 2 ^ (24 - 8 * (i % 4)) % 256 := fun i hi => by rw [HSM.out]; exact digestF_at _ i hi
                    have DL := hide hDl
                    have DA := hide hDa
                    have JL := hide hjl
                    have JW := hide hjw
                    clear hDl hDa hjl hjw HSM hbt hR1 hR hA hK HK HQJ hqj HPB
                    generalize hashTo PF j = hF at *
                    generalize hD : sumF bs = D at *
                    have HD := hide hD
                    clear hD
                    have hqn : ¬ (q : Int) + 64 ≤ (N : Int) := by omega
                    clear hqe hje
                    go_wp2
                    generalize hO : wr.heap.size = O at *
                    have HO := hide hO
                    have HHO : Hid (H < O) := by show _ < _; rw [← hO]; exact HA.out.lt
                    have HZ0 := hide (Arr.newAt wr 32 (u8s (List.replicate 32 0)) O hO)
                    clear hO
                    go_loopg [11] 33 (fun f s11 wx => ∃ (i : Nat), s11 = .int .i64 i ∧ i ≤ 32 ∧ 32 - i < f ∧ RS w wx (.slice (some ⟨gx, 0, none⟩) N cx) PF ∧ Arr wx H 96 (u32s hF) ∧ Arr wx O 32 (u8s (part D 32 i)))
                    case atStart => exact ⟨0, rfl, by omega, by omega, HR.out.kept ((Below.refl _ _).alloc (Nat.le_refl _) _), HA.out.alloc _, HZ0.out⟩
                    case round =>
                      clear HR HA HZ0 HO
                      obtain ⟨i, rfl, hi, hf, hR, hA, hZ⟩ := hrel
                      have HR := hide hR
                      have HA := hide hA
                      have HZ := hide hZ
                      by_cases hi32 : i < 32
                      · obtain ⟨ia, hia⟩ : ∃ a, a = i / 4 := ⟨_, rfl⟩
                        obtain ⟨sf, hsf⟩ : ∃ a, a = 24 - 8 * (i % 4) := ⟨_, rfl⟩
                        have hdi := DA.out i hi32
                        rw [← hia, ← hsf] at hdi
                        have cy := (hA.cell ia).trans (u32s_at (l := hF) (by rw [JL.out]; omega))
                        have ly := JW.out.getD ia
                        have ez : ∃ x, wr.cell? ⟨O, i, none⟩ = some (.int .u8 x) := ⟨_, (hZ.cell i).trans (u8s_at (by rw [part_length _ _ _ DL.out (by omega)]; omega))⟩
                        obtain ⟨xz, cz⟩ := ez
                        have fz := hZ.frozen i
                        have e1 : (i : Int) / 4 = (ia : Int) := by omega
                        have e2 : 24 - 8 * ((i : Int) % 4) = (sf : Int) := by omega
                        have pa : (ia : Int) < 8 := by omega
                        have pi32 : (i : Int) < 32 := by omega
                        have hs24 : sf ≤ 24 := by omega
                        have HST := hide (HZ.out.set i (.int .u8 ((D.getD i 0 : Nat) : Int)))
                        rw [u8s_set, part_set _ _ _ DL.out hi32] at HST
                        clear hR hA hZ hia hsf
                        generalize hF.getD ia 0 = y at *
                        have e3 : ((y : Int) / 2 ^ sf) % 256 = ((D.getD i 0 : Nat) : Int) := by rw [hdi]; simp
                        clear hdi
                        generalize D.getD i 0 = dv at *
                        go_wp2
                        go_roundg (32 - i)
                        case measure => omega
                        case rel =>
                          refine ⟨i + 1, by go_num, by omega, by omega, ?_, ?_, HST.out⟩
                          · exact HR.out.other (s_grown_setO wr O i _) (by have := HHO.out; simp [Value.ownBlock]; omega) (by have h1 := HHO.out; have h2 := HG1.out; omega)
                          · exact HA.out.other _ _ (Nat.ne_of_lt HHO.out)
                      · have e : i = 32 := by omega
                        subst e
                        rw [part_full _ _ DL.out] at hZ
                        have HZ2 := hide hZ
                        have HG0 := hide hR.2.1
                        have HI32 : Hid ((Tryd.prog.info? 32).map (·.size) = some (u8s D).toArray.size) := by show _ = _; rw [info35]; simp [u8s, DL.out]
                        have HO32 : Hid ((u8s (List.replicate 32 0)).toArray.size = (u8s D).toArray.size) := by show _ = _; simp [u8s, DL.out]
                        clear hR hA hZ HZ
                        go_wp2_with (first
                          | (refine wpList_load_row rfl 32 _ rfl O rfl 32 _ (0, 0) _ HZ2.out Tryd.underlying32 rfl HI32.out ?_)
                          | (refine wpList_store_row rfl 32 _ _ rfl w.heap.size _ rfl rfl 32 _ HG0.out HI32.out HO32.out (all_u8s _) ?_))
                        exact bodyPost_ret (v := .agg (u8s D).toArray) (results_cell_row Tryd.results39 _ _ w.heap.size 32 _ (0, 0) _ rfl (HG0.out.row _) Tryd.underlying32 rfl HI32.out) rfl ⟨by rw [HD.out], below_setRow HR.out.2.2.2 (Nat.le_refl _) HG0.out.lt _⟩

end Go.Proofs.YtjiipiolckddnaaDoor

/- A walk: the program's ending: what stands behind so many bytes. -/
namespace Go.Proofs.YtjiipiolckddnaaDoor
open Go.RowKit

/-- what stands behind so many bytes -/
def endF (n : Nat) : List Nat := [128] ++ List.replicate (padZ n) 0 ++ be8 (n * 8) 8

theorem padF_end (bs : List Nat) : padF bs = bs ++ endF bs.length := by simp [padF, endF]

/-- .. so many of its last bytes laid down -/
def endTo (z : Nat) (l : List Nat) (k : Nat) : List Nat := [128] ++ List.replicate z 0 ++ (List.replicate (8 - k) 0 ++ l.drop (8 - k))

theorem tail_set {l : List Nat} (h : l.length = 8) (k : Nat) (hk : k < 8) : (List.replicate (8 - k) 0 ++ l.drop (8 - k)).set (7 - k) (l.getD (7 - k) 0) = List.replicate (8 - (k + 1)) 0 ++ l.drop (8 - (k + 1)) := by
  obtain ⟨a, b, c, d, e, f, g, i, rfl⟩ := eight h
  match k, hk with
  | 0, _ => rfl
  | 1, _ => rfl
  | 2, _ => rfl
  | 3, _ => rfl
  | 4, _ => rfl
  | 5, _ => rfl
  | 6, _ => rfl
  | 7, _ => rfl

theorem endTo_length (z : Nat) {l : List Nat} (h : l.length = 8) (k : Nat) (_hk : k ≤ 8) : (endTo z l k).length = 9 + z := by
  simp [endTo, h]; omega

theorem endTo_set (z : Nat) {l : List Nat} (h : l.length = 8) (k : Nat) (hk : k < 8) : (endTo z l k).set (8 + z - k) (l.getD (7 - k) 0) = endTo z l (k + 1) := by
  unfold endTo
  rw [List.set_append, if_neg (by simp; omega)]
  congr 1
  have e : 8 + z - k - ([128] ++ List.replicate z 0).length = 7 - k := by simp; omega
  rw [e]
  exact tail_set h k hk

theorem be8_at (n i : Nat) (hi : i < 8) : (be8 n 8).getD i 0 = n / 2 ^ (8 * (7 - i)) % 256 := by
  match i, hi with
  | 0, _ => rfl
  | 1, _ => rfl
  | 2, _ => rfl
  | 3, _ => rfl
  | 4, _ => rfl
  | 5, _ => rfl
  | 6, _ => rfl
  | 7, _ => rfl

set_option maxHeartbeats 2000000 in
set_option maxRecDepth 100000 in
theorem ending_any (n : Nat) (w : World) (hn : n ≤ 1000000) :
    Calls Tryd.prog 69 #[.int .i64 n] w fun e w' => ∃ v, e = .returned v ∧ w'.ownsRow w.heap.size 5 1 v (endF n).length (u8s (endF n)) ∧ Below w.heap.size w w' := by
  obtain ⟨i0, hi, hz0, hz1, hz2⟩ := info_parts infoU8
  have hzn : padZ n = (64 - (n + 9) % 64) % 64 := by unfold padZ; omega
  have hz64 : padZ n < 64 := Nat.mod_lt _ (by omega)
  have ezn : (64 - ((n : Int) + 9) % 64) % 64 = ((padZ n : Nat) : Int) := by omega
  have HE : Hid (endF n = endTo (padZ n) (be8 (n * 8) 8) 8) := by show _ = _; simp [endF, endTo]
  have LB := hide (be8_length (n * 8) 8)
  have HAT : Hid (∀ k, k < 8 → (be8 (n * 8) 8).getD (7 - k) 0 = n * 8 / 2 ^ (8 * k) % 256) := fun k hk => by rw [be8_at _ _ (by omega)]; congr 4; omega
  clear hzn
  generalize padZ n = z at *
  generalize be8 (n * 8) 8 = l at *
  go_enter Tryd.func69, Tryd.ntmps69
  go_wp2_with (at_make; refine wpList_make_full _ rfl _ _ 35 rfl w.heap.size 5 i0 (.int .u8 0) 1 Tryd.underlying35 hi hz0 hz1 .i64 .i64 _ _ (9 + z) rfl rfl (by simp) (by simp) ?m1 ?m2 ?m3 ?_)
  case m1 => rw [hz2]; omega
  case m2 => unfold maxLen; omega
  case m3 => exact Nat.le_refl _
  intro w2 hown hgrow
  rw [made_u8] at hown
  have ec : ∃ x, w2.cell? ⟨w.heap.size, 0, none⟩ = some (.int .u8 x) := ⟨_, (hown.cellAt 0 (by omega)).trans (u8s_at (by rw [List.length_replicate]; omega))⟩
  obtain ⟨x0, c0⟩ := ec
  have f0 := hown.frozenAt 0
  have HO := hide hown
  have HG := hide hgrow
  clear hown hgrow
  have HO1 : Hid ((w2.setCell ⟨w.heap.size, 0, none⟩ (.int .u8 (128 : Int))).ownsRow w.heap.size 5 1 (.slice (some ⟨w.heap.size, 0, none⟩) (9 + z) (9 + z)) (9 + z) (u8s (endTo z l 0))) := by
    have h := (HO.out.stored 0 (.int .u8 ((128 : Nat) : Int))).1
    rw [u8s_set] at h
    have e : (List.replicate (9 + z) 0).set 0 128 = endTo z l 0 := by
      rw [show 9 + z = (z + 8) + 1 by omega, List.replicate_succ, List.set_cons_zero]
      have : l.drop 8 = [] := List.drop_eq_nil_of_le (by rw [LB.out]; omega)
      have e2 : List.replicate (z + 8) 0 = List.replicate z 0 ++ List.replicate 8 0 := by rw [List.replicate_append_replicate]
      unfold endTo
      rw [this, e2, List.append_nil]
      rfl
    rw [e] at h
    exact h
  have HB1 : Hid (Below w.heap.size w (w2.setCell ⟨w.heap.size, 0, none⟩ (.int .u8 (128 : Int)))) := (grown_below HG.out (Nat.le_refl _) (by intro k hk; cases hk)).setCell (Nat.le_refl _) _
  go_wp2
  go_loopg [23] 9 (fun f s23 wr => ∃ (k : Nat), s23 = .int .i64 k ∧ k ≤ 8 ∧ 8 - k < f ∧ wr.ownsRow w.heap.size 5 1 (.slice (some ⟨w.heap.size, 0, none⟩) (9 + z) (9 + z)) (9 + z) (u8s (endTo z l k)) ∧ Below w.heap.size w wr)
  case atStart => exact ⟨0, rfl, by omega, by omega, HO1.out, HB1.out⟩
  case round =>
    clear HO HG HO1 HB1 c0 f0
    obtain ⟨k, rfl, hk, hf, ho, hb⟩ := hrel
    by_cases hk8 : k < 8
    · have hv := HAT.out k hk8
      obtain ⟨ix, hix⟩ : ∃ x, x = 8 + z - k := ⟨_, rfl⟩
      have ex : ∃ x, wr.cell? ⟨w.heap.size, ix, none⟩ = some (.int .u8 x) := ⟨_, (ho.cellAt ix (by omega)).trans (u8s_at (by rw [endTo_length z LB.out k (by omega)]; omega))⟩
      obtain ⟨xo, co⟩ := ex
      have fo := ho.frozenAt ix
      have h2 := ho.stored ix (.int .u8 ((l.getD (7 - k) 0 : Nat) : Int))
      rw [u8s_set, hix, endTo_set z LB.out k hk8, ← hix] at h2
      have H2 := hide h2
      have hixe : (9 : Int) + (z : Int) - 1 - (k : Int) = (ix : Int) := by omega
      have hdv : ((n : Int) * 8 / 2 ^ (8 * k)) % 256 = ((l.getD (7 - k) 0 : Nat) : Int) := by rw [hv]; simp
      have hixl : ix < 9 + z := by omega
      clear ho h2 hix hv
      generalize l.getD (7 - k) 0 = dv at *
      have hk8' : (k : Int) < 8 := by omega
      go_wp2
      go_roundg (8 - k)
      case measure => omega
      case rel => exact ⟨k + 1, by go_num, by omega, by omega, H2.out.1, hb.grown H2.out.2 hb.size (by intro q hq; cases hq; exact Nat.le_refl _)⟩
    · have e : k = 8 := by omega
      subst e
      go_wp2
      go_ret
      refine ⟨_, rfl, ?_, hb⟩
      rw [HE.out, endTo_length z LB.out 8 (by omega)]
      exact ho

end Go.Proofs.YtjiipiolckddnaaDoor

/- A law: two arrays of integers are held against each other: the answer is whether they are the same, number by number. -/
namespace Go.Proofs.YtjiipiolckddnaaDoor
open Go.RowKit

theorem s_cells8 : Tryd.prog.cellsOf 5 = 1 := by kernel_rfl
theorem cells32 : Tryd.prog.cellsOf 32 = 32 := by kernel_rfl
theorem cellsW : Tryd.prog.cellsOf 95 = 1 := by kernel_rfl
theorem cellsW8 : Tryd.prog.cellsOf 96 = 8 := by kernel_rfl

theorem s_wf_u8 {x : Nat} (h : x < 256) : (Lit.int .u8 (Int.ofNat x)).wf = true := by
  have h1 : IntKind.u8.min = 0 := rfl
  have h2 : IntKind.u8.max = 255 := rfl
  have h3 : (Int.ofNat x) = (x : Int) := rfl
  rw [Lit.wf, h1, h2, h3, decide_eq_true (by omega), decide_eq_true (by omega)]
  rfl
theorem wf_u32 {x : Nat} (h : x < 4294967296) : (Lit.int .u32 (Int.ofNat x)).wf = true := by
  have h1 : IntKind.u32.min = 0 := rfl
  have h2 : IntKind.u32.max = 4294967295 := rfl
  have h3 : (Int.ofNat x) = (x : Int) := rfl
  rw [Lit.wf, h1, h2, h3, decide_eq_true (by omega), decide_eq_true (by omega)]
  rfl

theorem s_ofNat_inj (a b : List Nat) : a.map Int.ofNat = b.map Int.ofNat ↔ a = b := by
  constructor
  · intro h
    exact List.map_inj_right (fun x y hxy => by cases hxy; rfl) |>.1 h
  · intro h; rw [h]

/-- two digests -/
theorem run_eq_digest (a b : List Nat) (ha : a.length = 32) (hb : b.length = 32) (wa : ∀ x ∈ a, x < 256) (wb : ∀ x ∈ b, x < 256) (w : World) :
    (Op.equalIn 10000 32 (.agg (u8s a).toArray) (.agg (u8s b).toArray)).run Tryd.prog w = .ok (decide (a = b)) w := by
  have h := run_eq_ints Tryd.underlying32 Tryd.underlying5 s_cells8 cells32 (a.map Int.ofNat) (b.map Int.ofNat) (by simpa using ha) (by simpa using hb)
    (fun z hz => by obtain ⟨x, hx, rfl⟩ := List.mem_map.1 hz; exact s_wf_u8 (wa x hx)) (fun z hz => by obtain ⟨x, hx, rfl⟩ := List.mem_map.1 hz; exact s_wf_u8 (wb x hx)) w
  rw [List.map_map, List.map_map] at h
  rw [decide_eq_decide.2 (s_ofNat_inj a b).symm]
  exact h

/-- eight words -/
theorem run_eq_words (a b : List Nat) (ha : a.length = 8) (hb : b.length = 8) (wa : ∀ x ∈ a, x < 4294967296) (wb : ∀ x ∈ b, x < 4294967296) (w : World) :
    (Op.equalIn 10000 96 (.agg (u32s a).toArray) (.agg (u32s b).toArray)).run Tryd.prog w = .ok (decide (a = b)) w := by
  have h := run_eq_ints Tryd.underlying96 Tryd.underlying95 cellsW cellsW8 (a.map Int.ofNat) (b.map Int.ofNat) (by simpa using ha) (by simpa using hb)
    (fun z hz => by obtain ⟨x, hx, rfl⟩ := List.mem_map.1 hz; exact wf_u32 (wa x hx)) (fun z hz => by obtain ⟨x, hx, rfl⟩ := List.mem_map.1 hz; exact wf_u32 (wb x hx)) w
  rw [List.map_map, List.map_map] at h
  rw [decide_eq_decide.2 (s_ofNat_inj a b).symm]
  exact h

end Go.Proofs.YtjiipiolckddnaaDoor

/- Plain facts: a hash that has so many bytes: its words are those behind all whole blocks, what is left stands in the rest; what a piece does to it. -/
namespace Go.Proofs.YtjiipiolckddnaaDoor
open Go.RowKit

theorem hashTo_append (l b : List Nat) : ∀ j, 64 * j ≤ l.length → hashTo (l ++ b) j = hashTo l j := by
  intro j
  induction j with
  | zero => intro _; rfl
  | succ j ih =>
    intro h
    rw [hashTo, hashTo, ih (by omega), List.drop_append_of_le_length (by omega), List.take_append_of_le_length (by simp; omega)]

/-- words and rest of a hash that has these bytes -/
def RepH (l ws rest : List Nat) : Prop :=
  ws = hashTo l (l.length / 64) ∧ rest.length = 64 ∧ BytesN rest ∧ rest.take (l.length % 64) = l.drop (64 * (l.length / 64))

theorem RepH.none : RepH [] startT (List.replicate 64 0) := by
  refine ⟨rfl, by simp, ?_, rfl⟩
  intro x hx
  rw [List.eq_of_mem_replicate hx]; omega

/-- the rest behind a piece's first bytes -/
def restTo (rest b : List Nat) (r m : Nat) : List Nat := rest.take r ++ b.take m ++ rest.drop (r + m)

theorem restTo_length {rest b : List Nat} {r m : Nat} (h : rest.length = 64) (hm : m ≤ b.length) (hr : r + m ≤ 64) : (restTo rest b r m).length = 64 := by
  simp [restTo, h]; omega

theorem restTo_bytes {rest b : List Nat} {r m : Nat} (h : BytesN rest) (hb : BytesN b) : BytesN (restTo rest b r m) := by
  intro x hx
  simp only [restTo, List.mem_append] at hx
  rcases hx with (hx | hx) | hx
  · exact h x (List.mem_of_mem_take hx)
  · exact hb x (List.mem_of_mem_take hx)
  · exact h x (List.mem_of_mem_drop hx)

theorem RepH.part {l ws rest b : List Nat} (h : RepH l ws rest) (hb : BytesN b) {m : Nat} (hm : m ≤ b.length) (hr : l.length % 64 + m < 64) : RepH (l ++ b.take m) ws (restTo rest b (l.length % 64) m) := by
  obtain ⟨hw, hl, hby, ht⟩ := h
  have hlen : (l ++ b.take m).length = l.length + m := by simp; omega
  have h1 : (l.length + m) / 64 = l.length / 64 := by omega
  have h2 : (l.length + m) % 64 = l.length % 64 + m := by omega
  refine ⟨?_, restTo_length hl hm (by omega), restTo_bytes hby hb, ?_⟩
  · rw [hlen, h1, hw, hashTo_append _ _ _ (by omega)]
  · rw [hlen, h1, h2, List.drop_append_of_le_length (by omega), ← ht, restTo]
    rw [List.take_append_of_le_length (by simp [hl]; omega), List.take_of_length_le (by simp [hl]; omega)]

theorem RepH.whole {l ws rest b : List Nat} (h : RepH l ws rest) (hb : BytesN b) {m : Nat} (hm : m ≤ b.length) (hr : l.length % 64 + m = 64) : RepH (l ++ b.take m) (blockF ws (restTo rest b (l.length % 64) m)) (restTo rest b (l.length % 64) m) := by
  obtain ⟨hw, hl, hby, ht⟩ := h
  have hlen : (l ++ b.take m).length = l.length + m := by simp; omega
  have h1 : (l.length + m) / 64 = l.length / 64 + 1 := by omega
  have h2 : (l.length + m) % 64 = 0 := by omega
  refine ⟨?_, restTo_length hl hm (by omega), restTo_bytes hby hb, ?_⟩
  · rw [hlen, h1, hashTo, hashTo_append _ _ _ (by omega), ← hw]
    congr 1
    have e : restTo rest b (l.length % 64) m = l.drop (64 * (l.length / 64)) ++ b.take m := by
      rw [restTo, List.drop_eq_nil_of_le (by omega), List.append_nil, ht]
    rw [List.drop_append_of_le_length (by omega), e]
    exact (List.take_of_length_le (by simp; omega)).symm
  · rw [hlen, h1, h2, List.take_zero, List.drop_eq_nil_of_le (by rw [hlen]; omega)]

end Go.Proofs.YtjiipiolckddnaaDoor

/- Walks: a hash: New, made, Copy, Len; what a hash is, of whatever make. -/
namespace Go.Proofs.YtjiipiolckddnaaDoor
open Go.RowKit

/-- the cells of a hash -/
def hCells (ws rest : List Nat) (n : Nat) : List Value := u32s ws ++ u8s rest ++ [.int .i64 (n : Int)]

theorem built49 : Tryd.prog.built 110 [(0, .agg (u32s startT).toArray)] = some (hCells startT (List.replicate 64 0) 0).toArray := by kernel_rfl
theorem info49 : (Tryd.prog.info? 110).map (·.size) = some 73 := by kernel_rfl
theorem hCells_length (ws rest : List Nat) (n : Nat) (h1 : ws.length = 8) (h2 : rest.length = 64) : (hCells ws rest n).length = 73 := by simp [hCells, u32s, u8s, h1, h2]
theorem one_hCells (ws rest : List Nat) (n : Nat) : (hCells ws rest n).toArray.all (·.oneCell') = true := by
  apply all_oneCell_toArray
  intro v hv
  simp only [hCells, List.mem_append] at hv
  rcases hv with (hv | hv) | hv
  · obtain ⟨x, _, rfl⟩ := List.mem_map.1 hv; rfl
  · obtain ⟨x, _, rfl⟩ := List.mem_map.1 hv; rfl
  · simp at hv; subst hv; rfl

set_option maxHeartbeats 1000000 in
set_option maxRecDepth 100000 in
theorem s_new_any (w : World) (hL : Laid w) :
    Calls Tryd.prog 65 #[] w fun e w' => e = .returned (.pointer (some ⟨w.heap.size, 0, none⟩)) ∧ w' = w.alloc (.cells (hCells startT (List.replicate 64 0) 0).toArray 110) := by
  have HL := hide hL
  have HB := hide built49
  clear hL
  generalize (hCells startT (List.replicate 64 0) 0).toArray = C at *
  go_enter Tryd.func65, Tryd.ntmps65
  go_upto_region 1 with fail
  refine wp_region_list ?_
  refine wpList_load_mid rfl 96 _ rfl 0 0 rfl (u32s startT) _ HL.out.1 Tryd.underlying96 rfl info26 ?_
  have hf : Tryd.prog.built 110 ((#[(0, Operand.tmp 1)] : Array (Nat × Operand)).map fun (i, x) => (i, (({ tmps := #[Value.pointer none, undef, undef, undef], defers := [] } : Act).put (some 1) (Value.agg (u32s startT).toArray)).eval x)).toList = some C := by
    simpa [Act.put, Act.eval] using HB.out
  refine wpList_build rfl 110 #[(0, .tmp 1)] rfl (by rw [show Tryd.prog.built 110 _ = some C from hf]; rfl) ?_
  rw [show Tryd.prog.built 110 _ = some C from hf]
  go_wp2
  go_ret
  exact ⟨rfl, rfl⟩

theorem hash_range {w : World} {g : Nat} {ws rest : List Nat} {n : Nat} (hA : Arr w g 110 (hCells ws rest n)) : w.rangeAt g 0 (u32s ws) := fun j v hv => by
  have := hA.cell j
  rw [Nat.zero_add, this, hCells, List.append_assoc, List.getElem?_append_left (List.getElem?_eq_some_iff.1 hv).1]
  exact hv

theorem hash_rest {w : World} {g : Nat} {ws rest : List Nat} {n : Nat} (h8 : ws.length = 8) (hA : Arr w g 110 (hCells ws rest n)) : w.rangeAt g 8 (u8s rest) := fun j v hv => by
  have := hA.cell (8 + j)
  have hj := (List.getElem?_eq_some_iff.1 hv).1
  rw [this, hCells, List.append_assoc, List.getElem?_append_right (by simp [u32s, h8]), List.getElem?_append_left (by simp [u32s, h8]; simpa using hj)]
  simpa [u32s, h8] using hv

theorem hash_size {w : World} {g : Nat} {ws rest : List Nat} {n : Nat} (h8 : ws.length = 8) (h64 : rest.length = 64) (hA : Arr w g 110 (hCells ws rest n)) : w.cell? ⟨g, 72, none⟩ = some (.int .i64 (n : Int)) := by
  rw [hA.cell 72, hCells, List.getElem?_append_right (by simp [u32s, u8s, h8, h64])]
  simp [u32s, u8s, h8, h64]

/-- a whole array read: what the operation yields -/
theorem exec_load_row {P : Program} {o : Oper} {a : Act} {w : World} (ty : TypeId) (x : Operand) (ho : o.op = .load ty x)
    (g : Nat) (hx : a.eval x = .pointer (some ⟨g, 0, none⟩)) (t : TypeId) (cs : Array Value) (fr : Nat × Nat) (e : TypeDesc) (hg : w.heap[g]? = some (.cells cs t fr))
    (hu : P.underlying ty = some e) (hd : (match e with | .struct _ | .array _ _ => true | _ => false) = true) (hi : (P.info? ty).map (·.size) = some cs.size) :
    (execOp a.eval o).run P w = .ok (.value (.agg cs)) w := by
  unfold execOp
  simp only [ho, hx, Instr.loadAt, Instr.sureAddr, Sem.run_bind, Sem.run_pure, Result.andThen_ok, run_loadVar_row w g t ty cs fr e hg hu hd hi]

/-- .. out of the middle of a block -/
theorem s_exec_load_mid {P : Program} {op : Oper} {a : Act} {w : World} (ty : TypeId) (x : Operand) (ho : op.op = .load ty x)
    (b o : Nat) (hx : a.eval x = .pointer (some ⟨b, o, none⟩)) (cs : List Value) (d : TypeDesc) (hc : w.rangeAt b o cs)
    (hu : P.underlying ty = some d) (hd : d.isRow = true) (hi : (P.info? ty).map (·.size) = some cs.length) :
    (execOp a.eval op).run P w = .ok (.value (.agg cs.toArray)) w := by
  unfold execOp
  simp only [ho, hx, Instr.loadAt, Instr.sureAddr, Sem.run_bind, Sem.run_pure, Result.andThen_ok, run_loadVar_mid w b o ty cs d hc hu hd hi]

/-- two arrays held against each other: what the operation yields -/
theorem s_exec_eql_agg {P : Program} {o : Oper} {a : Act} {w : World} (t tt : TypeId) (x y : Operand) (ho : o.op = .binOp .eql t x y tt) (xs ys : Array Value) (hx : a.eval x = .agg xs) (hy : a.eval y = .agg ys) (r : Bool)
    (hgd : (eqGuard .eql t x y (.agg xs) (.agg ys)).run P w = .ok () w) (he : (Op.equalIn 10000 t (.agg xs) (.agg ys)).run P w = .ok r w) : (execOp a.eval o).run P w = .ok (.value (.bool r)) w := by
  unfold execOp
  simp only [ho, hx, hy, Sem.run_bind, hgd, run_eql_struct, he, Result.andThen_ok, Sem.run_pure]

theorem guard26 (x y : Operand) (u v : Array Value) (w : World) : (eqGuard .eql 96 x y (.agg u) (.agg v)).run Tryd.prog w = .ok () w := by kernel_rfl

/-- a hash that has bytes is one of New's -/
theorem made_size (g : Nat) (ws rest : List Nat) (n : Nat) (w : World) (h8 : ws.length = 8) (h64 : rest.length = 64) (hn : 0 < n) (hA : Arr w g 110 (hCells ws rest n)) :
    Calls Tryd.prog 66 #[.pointer (some ⟨g, 0, none⟩)] w fun e w' => e = .returned (.bool true) ∧ w' = w.drew := by
  have KS : Hid (∀ v : World, Hid (Below w.heap.size w v) → v.cell? ⟨g, 72, none⟩ = some (.int .i64 (n : Int))) := fun v hv => hash_size h8 h64 (hA.kept hv.out)
  have hnd : decide (0 < n) = true := decide_eq_true hn
  clear hA h8 h64
  go_enter Tryd.func66, Tryd.ntmps66
  go_upto_region 1 with fail
  refine wp_region_held_drew (S := fun v => Hid (Below w.heap.size w v)) (by kernel_rfl) (hide (Below.refl w.heap.size w).drew) (fun hHeld => ?_)
  refine take_dstH (i := 0) (d := 3) (v := ?_) rfl rfl (by kernel_rfl) (by kernel_rfl) (by kernel_rfl) (fun _ _ _ h => h) (by rfl) hHeld ?_ ?_
  rotate_left
  · intro wZ hSw; clear hSw; go_simp; first | (with_reducible rfl) | (rw [if_pos (by omega)]; with_reducible rfl) | skip
  try simp only [Act.put, List.setIfInBounds_toArray, List.set_cons_zero, List.set_cons_succ]
  refine take_dstH (i := 1) (d := 4) (v := ?_) rfl rfl (by kernel_rfl) (by kernel_rfl) (by kernel_rfl) (fun _ _ _ h => h) (by rfl) hHeld ?_ ?_
  rotate_left
  · intro wZ hSw; clear hSw; go_simp; first | (with_reducible rfl) | (rw [if_pos (by omega)]; with_reducible rfl) | skip
  try simp only [Act.put, List.setIfInBounds_toArray, List.set_cons_zero, List.set_cons_succ]
  refine take_dstH (i := 2) (d := 5) (v := ?_) rfl rfl (by kernel_rfl) (by kernel_rfl) (by kernel_rfl) (fun _ _ _ h => h) (by rfl) hHeld ?_ ?_
  rotate_left
  · intro wZ hSw; clear hSw; go_simp; first | (with_reducible rfl) | (rw [if_pos (by omega)]; with_reducible rfl) | skip
  try simp only [Act.put, List.setIfInBounds_toArray, List.set_cons_zero, List.set_cons_succ]
  refine take_dstH (i := 3) (d := 6) (v := ?_) rfl rfl (by kernel_rfl) (by kernel_rfl) (by kernel_rfl) (fun _ _ _ h => h) (by rfl) hHeld ?_ ?_
  rotate_left
  · intro wZ hSw; clear hSw; go_simp; first | (with_reducible rfl) | (rw [if_pos (by omega)]; with_reducible rfl) | skip
  try simp only [Act.put, List.setIfInBounds_toArray, List.set_cons_zero, List.set_cons_succ]
  refine take_dstH (i := 4) (d := 7) (v := ?_) rfl rfl (by kernel_rfl) (by kernel_rfl) (by kernel_rfl) (fun _ _ _ h => h) (by rfl) hHeld ?_ ?_
  rotate_left
  · intro wZ hSw; clear hSw; go_simp; first | (with_reducible rfl) | (rw [if_pos (by omega)]; with_reducible rfl) | skip
  try simp only [Act.put, List.setIfInBounds_toArray, List.set_cons_zero, List.set_cons_succ]
  refine take_dstH (i := 5) (d := 8) (v := ?_) rfl rfl (by kernel_rfl) (by kernel_rfl) (by kernel_rfl) (fun _ _ _ h => h) (by rfl) hHeld ?_ ?_
  rotate_left
  · intro wZ hSw; clear hSw; go_simp; first | (with_reducible rfl) | (rw [if_pos (by omega)]; with_reducible rfl) | skip
  try simp only [Act.put, List.setIfInBounds_toArray, List.set_cons_zero, List.set_cons_succ]
  refine take_dstH (i := 6) (d := 9) (v := ?_) rfl rfl (by kernel_rfl) (by kernel_rfl) (by kernel_rfl) (fun _ _ _ h => h) (by rfl) hHeld ?_ ?_
  rotate_left
  · intro wZ hSw; have hfS := KS.out wZ hSw; clear hSw; go_simp; first | (with_reducible rfl) | (rw [if_pos (by omega)]; with_reducible rfl) | skip
  try simp only [Act.put, List.setIfInBounds_toArray, List.set_cons_zero, List.set_cons_succ]
  refine take_dstH (i := 7) (d := 10) (v := ?_) rfl rfl (by kernel_rfl) (by kernel_rfl) (by kernel_rfl) (fun _ _ _ h => h) (by rfl) hHeld ?_ ?_
  rotate_left
  · intro wZ hSw; clear hSw; go_simp; first | (with_reducible rfl) | (rw [if_pos (by omega)]; with_reducible rfl) | skip
  try simp only [Act.put, List.setIfInBounds_toArray, List.set_cons_zero, List.set_cons_succ]
  refine take_dstH (i := 8) (d := 11) (v := ?_) rfl rfl (by kernel_rfl) (by kernel_rfl) (by kernel_rfl) (fun _ _ _ h => h) (by rfl) hHeld ?_ ?_
  rotate_left
  · intro wZ hSw; clear hSw; go_simp; first | (with_reducible rfl) | (rw [if_pos (by omega)]; with_reducible rfl) | skip
  try simp only [Act.put, List.setIfInBounds_toArray, List.set_cons_zero, List.set_cons_succ]
  refine skip_dstH (i := 9) (d := 12) rfl rfl (by kernel_rfl) (by kernel_rfl) (by kernel_rfl) (fun _ _ _ h => h) (by rfl) hHeld ?_
  try simp only [Act.put, List.setIfInBounds_toArray, List.set_cons_zero, List.set_cons_succ]
  refine skip_dstH (i := 10) (d := 13) rfl rfl (by kernel_rfl) (by kernel_rfl) (by kernel_rfl) (fun _ _ _ h => h) (by rfl) hHeld ?_
  try simp only [Act.put, List.setIfInBounds_toArray, List.set_cons_zero, List.set_cons_succ]
  refine skip_dstH (i := 11) (d := 14) rfl rfl (by kernel_rfl) (by kernel_rfl) (by kernel_rfl) (fun _ _ _ h => h) (by rfl) hHeld ?_
  try simp only [Act.put, List.setIfInBounds_toArray, List.set_cons_zero, List.set_cons_succ]
  refine skip_dstH (i := 12) (d := 15) rfl rfl (by kernel_rfl) (by kernel_rfl) (by kernel_rfl) (fun _ _ _ h => h) (by rfl) hHeld ?_
  try simp only [Act.put, List.setIfInBounds_toArray, List.set_cons_zero, List.set_cons_succ]
  refine skip_dstH (i := 13) (d := 16) rfl rfl (by kernel_rfl) (by kernel_rfl) (by kernel_rfl) (fun _ _ _ h => h) (by rfl) hHeld ?_
  try simp only [Act.put, List.setIfInBounds_toArray, List.set_cons_zero, List.set_cons_succ]
  refine skip_dstH (i := 14) (d := 17) rfl rfl (by kernel_rfl) (by kernel_rfl) (by kernel_rfl) (fun _ _ _ h => h) (by rfl) hHeld ?_
  try simp only [Act.put, List.setIfInBounds_toArray, List.set_cons_zero, List.set_cons_succ]
  refine take_dstH (i := 15) (d := 18) (v := ?_) rfl rfl (by kernel_rfl) (by kernel_rfl) (by kernel_rfl) (fun _ _ _ h => h) (by rfl) hHeld ?_ ?_
  rotate_left
  · intro wZ hSw; clear hSw; go_simp; first | (with_reducible rfl) | (rw [if_pos (by omega)]; with_reducible rfl) | skip
  try simp only [Act.put, List.setIfInBounds_toArray, List.set_cons_zero, List.set_cons_succ]
  refine take_dstH (i := 16) (d := 19) (v := ?_) rfl rfl (by kernel_rfl) (by kernel_rfl) (by kernel_rfl) (fun _ _ _ h => h) (by rfl) hHeld ?_ ?_
  rotate_left
  · intro wZ hSw; clear hSw; go_simp; first | (with_reducible rfl) | (rw [if_pos (by omega)]; with_reducible rfl) | skip
  try simp only [Act.put, List.setIfInBounds_toArray, List.set_cons_zero, List.set_cons_succ]
  refine take_dstH (i := 17) (d := 2) (v := ?_) rfl rfl (by kernel_rfl) (by kernel_rfl) (by kernel_rfl) (fun _ _ _ h => h) (by rfl) hHeld ?_ ?_
  rotate_left
  · intro wZ hSw; clear hSw; go_simp; first | (with_reducible rfl) | (rw [if_pos (by omega)]; with_reducible rfl) | skip
  try simp only [Act.put, List.setIfInBounds_toArray, List.set_cons_zero, List.set_cons_succ]
  refine wpAnyH_done (by kernel_rfl) ?_ _
  go_wp2
  go_ret
  exact ⟨rfl, rfl⟩

/-- one that has none is told by its words -/
theorem made_words (g : Nat) (ws rest : List Nat) (b : Bool) (w : World) (h8 : ws.length = 8) (hw : Words ws) (h64 : rest.length = 64) (hb : decide (ws = startT) = b) (hA : Arr w g 110 (hCells ws rest 0)) (hL : Laid w) :
    Calls Tryd.prog 66 #[.pointer (some ⟨g, 0, none⟩)] w fun e w' => e = .returned (.bool b) ∧ w' = w.drew := by
  have KS : Hid (∀ v : World, Hid (Below w.heap.size w v) → v.cell? ⟨g, 72, none⟩ = some (.int .i64 0)) := fun v hv => hash_size (n := 0) h8 h64 (hA.kept hv.out)
  have KR : Hid (∀ v : World, Hid (Below w.heap.size w v) → v.rangeAt g 0 (u32s ws)) := fun v hv => hash_range (hA.kept hv.out)
  have KG : Hid (∀ v : World, Hid (Below w.heap.size w v) → v.rangeAt 0 0 (u32s startT)) := fun v hv => (hL.kept hv.out).1
  have heq := run_eq_words ws startT h8 rfl hw startT_words
  rw [hb] at heq
  have HEQ := hide heq
  have I26 : Hid ((Tryd.prog.info? 96).map (·.size) = some (u32s ws).length) := by show _ = _; rw [info26]; simp [u32s, h8]
  have J26 : Hid ((Tryd.prog.info? 96).map (·.size) = some (u32s startT).length) := by show _ = _; rw [info26]; simp [u32s, startT_length]
  clear hA h8 h64 hw hb hL heq
  generalize u32s startT = ss at *
  go_enter Tryd.func66, Tryd.ntmps66
  go_upto_region 1 with fail
  refine wp_region_held_drew (S := fun v => Hid (Below w.heap.size w v)) (by kernel_rfl) (hide (Below.refl w.heap.size w).drew) (fun hHeld => ?_)
  refine take_dstH (i := 0) (d := 3) (v := ?_) rfl rfl (by kernel_rfl) (by kernel_rfl) (by kernel_rfl) (fun _ _ _ h => h) (by rfl) hHeld ?_ ?_
  rotate_left
  · intro wZ hSw; clear hSw; go_simp; first | (with_reducible rfl) | (rw [if_pos (by omega)]; with_reducible rfl) | skip
  try simp only [Act.put, List.setIfInBounds_toArray, List.set_cons_zero, List.set_cons_succ]
  refine take_dstH (i := 1) (d := 4) (v := ?_) rfl rfl (by kernel_rfl) (by kernel_rfl) (by kernel_rfl) (fun _ _ _ h => h) (by rfl) hHeld ?_ ?_
  rotate_left
  · intro wZ hSw; clear hSw; go_simp; first | (with_reducible rfl) | (rw [if_pos (by omega)]; with_reducible rfl) | skip
  try simp only [Act.put, List.setIfInBounds_toArray, List.set_cons_zero, List.set_cons_succ]
  refine take_dstH (i := 2) (d := 5) (v := ?_) rfl rfl (by kernel_rfl) (by kernel_rfl) (by kernel_rfl) (fun _ _ _ h => h) (by rfl) hHeld ?_ ?_
  rotate_left
  · intro wZ hSw; clear hSw; go_simp; first | (with_reducible rfl) | (rw [if_pos (by omega)]; with_reducible rfl) | skip
  try simp only [Act.put, List.setIfInBounds_toArray, List.set_cons_zero, List.set_cons_succ]
  refine take_dstH (i := 3) (d := 6) (v := ?_) rfl rfl (by kernel_rfl) (by kernel_rfl) (by kernel_rfl) (fun _ _ _ h => h) (by rfl) hHeld ?_ ?_
  rotate_left
  · intro wZ hSw; clear hSw; go_simp; first | (with_reducible rfl) | (rw [if_pos (by omega)]; with_reducible rfl) | skip
  try simp only [Act.put, List.setIfInBounds_toArray, List.set_cons_zero, List.set_cons_succ]
  refine take_dstH (i := 4) (d := 7) (v := ?_) rfl rfl (by kernel_rfl) (by kernel_rfl) (by kernel_rfl) (fun _ _ _ h => h) (by rfl) hHeld ?_ ?_
  rotate_left
  · intro wZ hSw; clear hSw; go_simp; first | (with_reducible rfl) | (rw [if_pos (by omega)]; with_reducible rfl) | skip
  try simp only [Act.put, List.setIfInBounds_toArray, List.set_cons_zero, List.set_cons_succ]
  refine take_dstH (i := 5) (d := 8) (v := ?_) rfl rfl (by kernel_rfl) (by kernel_rfl) (by kernel_rfl) (fun _ _ _ h => h) (by rfl) hHeld ?_ ?_
  rotate_left
  · intro wZ hSw; clear hSw; go_simp; first | (with_reducible rfl) | (rw [if_pos (by omega)]; with_reducible rfl) | skip
  try simp only [Act.put, List.setIfInBounds_toArray, List.set_cons_zero, List.set_cons_succ]
  refine take_dstH (i := 6) (d := 9) (v := ?_) rfl rfl (by kernel_rfl) (by kernel_rfl) (by kernel_rfl) (fun _ _ _ h => h) (by rfl) hHeld ?_ ?_
  rotate_left
  · intro wZ hSw; have hfS := KS.out wZ hSw; clear hSw; go_simp; first | (with_reducible rfl) | (rw [if_pos (by omega)]; with_reducible rfl) | skip
  try simp only [Act.put, List.setIfInBounds_toArray, List.set_cons_zero, List.set_cons_succ]
  refine take_dstH (i := 7) (d := 10) (v := ?_) rfl rfl (by kernel_rfl) (by kernel_rfl) (by kernel_rfl) (fun _ _ _ h => h) (by rfl) hHeld ?_ ?_
  rotate_left
  · intro wZ hSw; clear hSw; go_simp; first | (with_reducible rfl) | (rw [if_pos (by omega)]; with_reducible rfl) | skip
  try simp only [Act.put, List.setIfInBounds_toArray, List.set_cons_zero, List.set_cons_succ]
  refine take_dstH (i := 8) (d := 11) (v := ?_) rfl rfl (by kernel_rfl) (by kernel_rfl) (by kernel_rfl) (fun _ _ _ h => h) (by rfl) hHeld ?_ ?_
  rotate_left
  · intro wZ hSw; clear hSw; go_simp; first | (with_reducible rfl) | (rw [if_pos (by omega)]; with_reducible rfl) | skip
  try simp only [Act.put, List.setIfInBounds_toArray, List.set_cons_zero, List.set_cons_succ]
  refine take_dstH (i := 9) (d := 12) (v := ?_) rfl rfl (by kernel_rfl) (by kernel_rfl) (by kernel_rfl) (fun _ _ _ h => h) (by rfl) hHeld ?_ ?_
  rotate_left
  · intro wZ hSw; clear hSw; go_simp; first | (with_reducible rfl) | (rw [if_pos (by omega)]; with_reducible rfl) | skip
  try simp only [Act.put, List.setIfInBounds_toArray, List.set_cons_zero, List.set_cons_succ]
  refine take_dstH (i := 10) (d := 13) (v := ?_) rfl rfl (by kernel_rfl) (by kernel_rfl) (by kernel_rfl) (fun _ _ _ h => h) (by rfl) hHeld ?_ ?_
  rotate_left
  · intro wZ hSw; clear hSw; go_simp; first | (with_reducible rfl) | (rw [if_pos (by omega)]; with_reducible rfl) | skip
  try simp only [Act.put, List.setIfInBounds_toArray, List.set_cons_zero, List.set_cons_succ]
  refine take_dstH (i := 11) (d := 14) (v := ?_) rfl rfl (by kernel_rfl) (by kernel_rfl) (by kernel_rfl) (fun _ _ _ h => h) (by rfl) hHeld ?_ ?_
  rotate_left
  · intro wZ hSw; clear hSw; go_simp; first | (with_reducible rfl) | (rw [if_pos (by omega)]; with_reducible rfl) | skip
  try simp only [Act.put, List.setIfInBounds_toArray, List.set_cons_zero, List.set_cons_succ]
  refine take_dstH (i := 12) (d := 15) (v := ?_) rfl rfl (by kernel_rfl) (by kernel_rfl) (by kernel_rfl) (fun _ _ _ h => h) (by rfl) hHeld ?_ ?_
  rotate_left
  · intro wZ hSw; refine s_exec_load_mid 96 (.tmp 14) ?_ g 0 ?_ (u32s ws) _ (KR.out wZ hSw) Tryd.underlying96 rfl I26.out <;> rfl
  try simp only [Act.put, List.setIfInBounds_toArray, List.set_cons_zero, List.set_cons_succ]
  refine take_dstH (i := 13) (d := 16) (v := ?_) rfl rfl (by kernel_rfl) (by kernel_rfl) (by kernel_rfl) (fun _ _ _ h => h) (by rfl) hHeld ?_ ?_
  rotate_left
  · intro wZ hSw; refine s_exec_load_mid 96 (.global 0) ?_ 0 0 ?_ ss _ (KG.out wZ hSw) Tryd.underlying96 rfl J26.out <;> rfl
  try simp only [Act.put, List.setIfInBounds_toArray, List.set_cons_zero, List.set_cons_succ]
  refine take_dstH (i := 14) (d := 17) (v := ?_) rfl rfl (by kernel_rfl) (by kernel_rfl) (by kernel_rfl) (fun _ _ _ h => h) (by rfl) hHeld ?_ ?_
  rotate_left
  · intro wZ hSw; refine s_exec_eql_agg 96 96 (.tmp 15) (.tmp 16) ?_ (u32s ws).toArray ss.toArray ?_ ?_ b (guard26 _ _ _ _ _) (HEQ.out wZ) <;> rfl
  try simp only [Act.put, List.setIfInBounds_toArray, List.set_cons_zero, List.set_cons_succ]
  refine take_dstH (i := 15) (d := 18) (v := ?_) rfl rfl (by kernel_rfl) (by kernel_rfl) (by kernel_rfl) (fun _ _ _ h => h) (by rfl) hHeld ?_ ?_
  rotate_left
  · intro wZ hSw; clear hSw; go_simp; first | (with_reducible rfl) | (rw [if_pos (by omega)]; with_reducible rfl) | skip
  try simp only [Act.put, List.setIfInBounds_toArray, List.set_cons_zero, List.set_cons_succ]
  refine take_dstH (i := 16) (d := 19) (v := ?_) rfl rfl (by kernel_rfl) (by kernel_rfl) (by kernel_rfl) (fun _ _ _ h => h) (by rfl) hHeld ?_ ?_
  rotate_left
  · intro wZ hSw; clear hSw; go_simp; first | (with_reducible rfl) | (rw [if_pos (by omega)]; with_reducible rfl) | skip
  try simp only [Act.put, List.setIfInBounds_toArray, List.set_cons_zero, List.set_cons_succ]
  refine take_dstH (i := 17) (d := 2) (v := ?_) rfl rfl (by kernel_rfl) (by kernel_rfl) (by kernel_rfl) (fun _ _ _ h => h) (by rfl) hHeld ?_ ?_
  rotate_left
  · intro wZ hSw; clear hSw; go_simp; first | (with_reducible rfl) | (rw [if_pos (by omega)]; with_reducible rfl) | skip
  try simp only [Act.put, List.setIfInBounds_toArray, List.set_cons_zero, List.set_cons_succ]
  refine wpAnyH_done (by kernel_rfl) ?_ _
  go_wp2
  go_ret
  exact ⟨rfl, rfl⟩

/-- one that is not there is none -/
theorem made_nil (w : World) :
    Calls Tryd.prog 66 #[.pointer none] w fun e w' => e = .returned (.bool false) ∧ w' = w.drew := by
  go_enter Tryd.func66, Tryd.ntmps66
  go_upto_region 1 with fail
  refine wp_region_held_drew (S := fun v => Hid (Below w.heap.size w v)) (by kernel_rfl) (hide (Below.refl w.heap.size w).drew) (fun hHeld => ?_)
  refine take_dstH (i := 0) (d := 3) (v := ?_) rfl rfl (by kernel_rfl) (by kernel_rfl) (by kernel_rfl) (fun _ _ _ h => h) (by rfl) hHeld ?_ ?_
  rotate_left
  · intro wZ hSw; clear hSw; go_simp; first | (with_reducible rfl) | (rw [if_pos (by omega)]; with_reducible rfl) | skip
  try simp only [Act.put, List.setIfInBounds_toArray, List.set_cons_zero, List.set_cons_succ]
  refine take_dstH (i := 1) (d := 4) (v := ?_) rfl rfl (by kernel_rfl) (by kernel_rfl) (by kernel_rfl) (fun _ _ _ h => h) (by rfl) hHeld ?_ ?_
  rotate_left
  · intro wZ hSw; clear hSw; go_simp; first | (with_reducible rfl) | (rw [if_pos (by omega)]; with_reducible rfl) | skip
  try simp only [Act.put, List.setIfInBounds_toArray, List.set_cons_zero, List.set_cons_succ]
  refine take_dstH (i := 2) (d := 5) (v := ?_) rfl rfl (by kernel_rfl) (by kernel_rfl) (by kernel_rfl) (fun _ _ _ h => h) (by rfl) hHeld ?_ ?_
  rotate_left
  · intro wZ hSw; clear hSw; go_simp; first | (with_reducible rfl) | (rw [if_pos (by omega)]; with_reducible rfl) | skip
  try simp only [Act.put, List.setIfInBounds_toArray, List.set_cons_zero, List.set_cons_succ]
  refine skip_dstH (i := 3) (d := 6) rfl rfl (by kernel_rfl) (by kernel_rfl) (by kernel_rfl) (fun _ _ _ h => h) (by rfl) hHeld ?_
  try simp only [Act.put, List.setIfInBounds_toArray, List.set_cons_zero, List.set_cons_succ]
  refine skip_dstH (i := 4) (d := 7) rfl rfl (by kernel_rfl) (by kernel_rfl) (by kernel_rfl) (fun _ _ _ h => h) (by rfl) hHeld ?_
  try simp only [Act.put, List.setIfInBounds_toArray, List.set_cons_zero, List.set_cons_succ]
  refine skip_dstH (i := 5) (d := 8) rfl rfl (by kernel_rfl) (by kernel_rfl) (by kernel_rfl) (fun _ _ _ h => h) (by rfl) hHeld ?_
  try simp only [Act.put, List.setIfInBounds_toArray, List.set_cons_zero, List.set_cons_succ]
  refine skip_dstH (i := 6) (d := 9) rfl rfl (by kernel_rfl) (by kernel_rfl) (by kernel_rfl) (fun _ _ _ h => h) (by rfl) hHeld ?_
  try simp only [Act.put, List.setIfInBounds_toArray, List.set_cons_zero, List.set_cons_succ]
  refine skip_dstH (i := 7) (d := 10) rfl rfl (by kernel_rfl) (by kernel_rfl) (by kernel_rfl) (fun _ _ _ h => h) (by rfl) hHeld ?_
  try simp only [Act.put, List.setIfInBounds_toArray, List.set_cons_zero, List.set_cons_succ]
  refine skip_dstH (i := 8) (d := 11) rfl rfl (by kernel_rfl) (by kernel_rfl) (by kernel_rfl) (fun _ _ _ h => h) (by rfl) hHeld ?_
  try simp only [Act.put, List.setIfInBounds_toArray, List.set_cons_zero, List.set_cons_succ]
  refine skip_dstH (i := 9) (d := 12) rfl rfl (by kernel_rfl) (by kernel_rfl) (by kernel_rfl) (fun _ _ _ h => h) (by rfl) hHeld ?_
  try simp only [Act.put, List.setIfInBounds_toArray, List.set_cons_zero, List.set_cons_succ]
  refine skip_dstH (i := 10) (d := 13) rfl rfl (by kernel_rfl) (by kernel_rfl) (by kernel_rfl) (fun _ _ _ h => h) (by rfl) hHeld ?_
  try simp only [Act.put, List.setIfInBounds_toArray, List.set_cons_zero, List.set_cons_succ]
  refine skip_dstH (i := 11) (d := 14) rfl rfl (by kernel_rfl) (by kernel_rfl) (by kernel_rfl) (fun _ _ _ h => h) (by rfl) hHeld ?_
  try simp only [Act.put, List.setIfInBounds_toArray, List.set_cons_zero, List.set_cons_succ]
  refine skip_dstH (i := 12) (d := 15) rfl rfl (by kernel_rfl) (by kernel_rfl) (by kernel_rfl) (fun _ _ _ h => h) (by rfl) hHeld ?_
  try simp only [Act.put, List.setIfInBounds_toArray, List.set_cons_zero, List.set_cons_succ]
  refine skip_dstH (i := 13) (d := 16) rfl rfl (by kernel_rfl) (by kernel_rfl) (by kernel_rfl) (fun _ _ _ h => h) (by rfl) hHeld ?_
  try simp only [Act.put, List.setIfInBounds_toArray, List.set_cons_zero, List.set_cons_succ]
  refine skip_dstH (i := 14) (d := 17) rfl rfl (by kernel_rfl) (by kernel_rfl) (by kernel_rfl) (fun _ _ _ h => h) (by rfl) hHeld ?_
  try simp only [Act.put, List.setIfInBounds_toArray, List.set_cons_zero, List.set_cons_succ]
  refine skip_dstH (i := 15) (d := 18) rfl rfl (by kernel_rfl) (by kernel_rfl) (by kernel_rfl) (fun _ _ _ h => h) (by rfl) hHeld ?_
  try simp only [Act.put, List.setIfInBounds_toArray, List.set_cons_zero, List.set_cons_succ]
  refine take_dstH (i := 16) (d := 19) (v := ?_) rfl rfl (by kernel_rfl) (by kernel_rfl) (by kernel_rfl) (fun _ _ _ h => h) (by rfl) hHeld ?_ ?_
  rotate_left
  · intro wZ hSw; clear hSw; go_simp; first | (with_reducible rfl) | (rw [if_pos (by omega)]; with_reducible rfl) | skip
  try simp only [Act.put, List.setIfInBounds_toArray, List.set_cons_zero, List.set_cons_succ]
  refine take_dstH (i := 17) (d := 2) (v := ?_) rfl rfl (by kernel_rfl) (by kernel_rfl) (by kernel_rfl) (fun _ _ _ h => h) (by rfl) hHeld ?_ ?_
  rotate_left
  · intro wZ hSw; clear hSw; go_simp; first | (with_reducible rfl) | (rw [if_pos (by omega)]; with_reducible rfl) | skip
  try simp only [Act.put, List.setIfInBounds_toArray, List.set_cons_zero, List.set_cons_succ]
  refine wpAnyH_done (by kernel_rfl) ?_ _
  go_wp2
  go_ret
  exact ⟨rfl, rfl⟩

/-- a hash that has these bytes, as New and Write make it -/
def MadeH (w : World) (g : Nat) (l : List Nat) : Prop := ∃ ws rest, Arr w g 110 (hCells ws rest l.length) ∧ RepH l ws rest

theorem RepH.h8 {l ws rest : List Nat} (h : RepH l ws rest) : ws.length = 8 := by rw [h.1]; exact hashTo_length _ _
theorem RepH.words {l ws rest : List Nat} (h : RepH l ws rest) : Words ws := by rw [h.1]; exact hashTo_words _ _

theorem made_any (g : Nat) (ws rest l : List Nat) (w : World) (hA : Arr w g 110 (hCells ws rest l.length)) (hR : RepH l ws rest) (hL : Laid w) :
    Calls Tryd.prog 66 #[.pointer (some ⟨g, 0, none⟩)] w fun e w' => e = .returned (.bool true) ∧ w' = w.drew := by
  by_cases hn : 0 < l.length
  · exact made_size g ws rest l.length w hR.h8 hR.2.1 hn hA
  · have h0 : l = [] := List.eq_nil_of_length_eq_zero (by omega)
    subst h0
    exact made_words g ws rest true w hR.h8 hR.words hR.2.1 (decide_eq_true hR.1) hA hL

/-- the zero value -/
def zeroH : List Value := hCells (List.replicate 8 0) (List.replicate 64 0) 0

theorem zero49 : ∀ w : World, (zeroValue 110).run Tryd.prog w = .ok (.agg zeroH.toArray) w := (zero_of_info (n := 73) (by kernel_rfl)).1
theorem made_zero (g : Nat) (w : World) (hA : Arr w g 110 zeroH) (hL : Laid w) :
    Calls Tryd.prog 66 #[.pointer (some ⟨g, 0, none⟩)] w fun e w' => e = .returned (.bool false) ∧ w' = w.drew :=
  made_words g (List.replicate 8 0) (List.replicate 64 0) false w (by simp) (by intro x hx; rw [List.eq_of_mem_replicate hx]; omega) (by simp) (by decide) hA hL

/-- a hash, of whatever make: one that has these bytes; or one that is not there, or is the zero value: as one without bytes -/
def IsH (w : World) (v : Value) (l : List Nat) : Prop :=
  (∃ g, v = .pointer (some ⟨g, 0, none⟩) ∧ MadeH w g l) ∨ l = [] ∧ (v = .pointer none ∨ ∃ g, v = .pointer (some ⟨g, 0, none⟩) ∧ Arr w g 110 zeroH)

theorem MadeH.kept {w w' : World} {g : Nat} {l : List Nat} (h : MadeH w g l) (hb : Below w.heap.size w w') : MadeH w' g l := by
  obtain ⟨ws, rest, hA, hR⟩ := h
  exact ⟨ws, rest, hA.kept hb, hR⟩
theorem MadeH.lt {w : World} {g : Nat} {l : List Nat} (h : MadeH w g l) : g < w.heap.size := by
  obtain ⟨ws, rest, hA, _⟩ := h
  exact hA.lt
theorem IsH.kept {w w' : World} {v : Value} {l : List Nat} (h : IsH w v l) (hb : Below w.heap.size w w') : IsH w' v l := by
  rcases h with ⟨g, hv, h⟩ | ⟨hl, h⟩
  · exact Or.inl ⟨g, hv, h.kept hb⟩
  · rcases h with h | ⟨g, hv, h⟩
    · exact Or.inr ⟨hl, Or.inl h⟩
    · exact Or.inr ⟨hl, Or.inr ⟨g, hv, h.kept hb⟩⟩

set_option maxHeartbeats 1000000 in
set_option maxRecDepth 100000 in
theorem copy_made (g : Nat) (l : List Nat) (w : World) (hM : MadeH w g l) (hL : Laid w) :
    Calls Tryd.prog 68 #[.pointer (some ⟨g, 0, none⟩)] w fun e w' => e = .returned (.pointer (some ⟨w.heap.size, 0, none⟩)) ∧ MadeH w' w.heap.size l ∧ Below w.heap.size w w' := by
  obtain ⟨ws, rest, hA, hR⟩ := hM
  have HM := hide (made_any g ws rest l w hA hR hL)
  have HA := hide hA
  have HR := hide hR
  have hl := hR.h8
  have hrl := hR.2.1
  have HI : Hid ((Tryd.prog.info? 110).map (·.size) = some (hCells ws rest l.length).toArray.size) := by show _ = _; rw [info49]; simp [hCells, u32s, u8s, hl, hrl]
  have HO : Hid (zeroH.toArray.size = (hCells ws rest l.length).toArray.size) := by show _ = _; simp [zeroH, hCells, u32s, u8s, hl, hrl]
  clear hA hR hL hl hrl
  go_enter Tryd.func68, Tryd.ntmps68
  go_wp2_with fail
  refine HM.out.mono ?_
  rintro e w1 ⟨rfl, hw1⟩
  have HA1 := hide (show Arr w1 g 110 (hCells ws rest l.length) from by rw [hw1]; exact HA.out)
  have hs1 : Hid (w1.heap.size = w.heap.size) := by show _ = _; rw [hw1]; rfl
  have B1 := hide (show Below w.heap.size w w1 from by rw [hw1]; exact (Below.refl _ _).drew)
  clear hw1 HM HA
  have hzv := zero49
  generalize hC0 : zeroH.toArray = C0 at *
  have HC0 := hide hC0
  clear hC0
  go_wp2_with (first
    | (refine wpList_load_row rfl 110 _ rfl g rfl 110 _ (0, 0) _ HA1.out Tryd.underlying110 rfl HI.out ?_)
    | (refine wpList_store_row rfl 110 _ _ rfl w1.heap.size _ rfl rfl 110 _ (heap_alloc_new w1 _) HI.out HO.out (one_hCells _ _ _) ?_))
  go_ret
  refine ⟨by rw [hs1.out]; rfl, ?_, ?_⟩
  · rw [← hs1.out]
    exact ⟨ws, rest, (Arr.new w1 110 C0.toList).row _, HR.out⟩
  · exact below_setRow (B1.out.alloc B1.out.size _) (by rw [hs1.out]; exact Nat.le_refl _) (by simp) _

theorem made_new {w : World} : MadeH (w.alloc (.cells (hCells startT (List.replicate 64 0) 0).toArray 110)) w.heap.size [] :=
  ⟨startT, List.replicate 64 0, Arr.new w _ _, RepH.none⟩

set_option maxHeartbeats 1000000 in
set_option maxRecDepth 100000 in
theorem copy_new (v : Value) (w : World) (HM : Hid (Calls Tryd.prog 66 #[v] w fun e w' => e = .returned (.bool false) ∧ w' = w.drew)) (hL : Laid w) :
    Calls Tryd.prog 68 #[v] w fun e w' => e = .returned (.pointer (some ⟨w.heap.size, 0, none⟩)) ∧ MadeH w' w.heap.size [] ∧ Below w.heap.size w w' := by
  have HL := hide hL
  clear hL
  go_enter Tryd.func68, Tryd.ntmps68
  go_wp2_with fail
  refine HM.out.mono ?_
  rintro e w1 ⟨rfl, hw1⟩
  have hs1 : Hid (w1.heap.size = w.heap.size) := by show _ = _; rw [hw1]; rfl
  have B1 := hide (show Below w.heap.size w w1 from by rw [hw1]; exact (Below.refl _ _).drew)
  have HL1 := hide (HL.out.kept B1.out)
  clear hw1 HM
  go_wp2_with fail
  refine (s_new_any w1 HL1.out).mono ?_
  rintro e w2 ⟨rfl, hw2⟩
  have M2 := hide (show MadeH w2 w1.heap.size [] from by rw [hw2]; exact made_new)
  have B2 := hide (show Below w.heap.size w w2 from by rw [hw2]; exact B1.out.alloc B1.out.size _)
  clear hw2
  go_wp2
  go_ret
  rw [hs1.out] at M2
  exact ⟨by rw [hs1.out]; rfl, M2.out, B2.out⟩

theorem copy_is (v : Value) (l : List Nat) (w : World) (hI : IsH w v l) (hL : Laid w) :
    Calls Tryd.prog 68 #[v] w fun e w' => e = .returned (.pointer (some ⟨w.heap.size, 0, none⟩)) ∧ MadeH w' w.heap.size l ∧ Below w.heap.size w w' := by
  rcases hI with ⟨g, rfl, hM⟩ | ⟨rfl, rfl | ⟨g, rfl, hA⟩⟩
  · exact copy_made g l w hM hL
  · exact copy_new _ w (hide (made_nil w)) hL
  · exact copy_new _ w (hide (made_zero g w hA hL)) hL

end Go.Proofs.YtjiipiolckddnaaDoor
