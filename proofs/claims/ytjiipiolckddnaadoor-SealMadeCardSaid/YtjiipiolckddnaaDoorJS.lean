/-
  Several texts, joined: LI, LG.
-/
import Derived.Test.YtjiipiolckddnaaDoorJQ
import Derived.Test.YtjiipiolckddnaaDoorJH
import Derived.Test.YtjiipiolckddnaaDoorJN
import Derived.Test.YtjiipiolckddnaaDoorJR

/- Walks: a tag and a packet, by the reference. -/
namespace Go.Proofs.YtjiipiolckddnaaDoor
open Go.RowKit

set_option maxHeartbeats 4000000 in
set_option maxRecDepth 100000 in
theorem rtag_any (code mark : List Nat) (p : Option Addr) (c n : Nat) (b : List Nat) (w : World) (hk : IsKey code mark) (hP : Piece w p c b) (hn : b.length = n) (hn2 : n ≤ 90000) :
    Calls Tryd.prog 20 #[keyV code mark, .slice p n c] w fun e w' => ∃ v, e = .returned v ∧ w'.ownsRow w.heap.size 5 1 v 16 (u8s (tgF mark b)) ∧ Below w.heap.size w w' := by
  have hml := hk.ml
  have A1 : Hid (Arr (w.alloc (Obj.cells (kCells code mark).toArray 34)) w.heap.size 34 (kCells code mark) ∧ Below w.heap.size w (w.alloc (Obj.cells (kCells code mark).toArray 34))) := ⟨Arr.new w _ _, (Below.refl _ _).alloc (Nat.le_refl _) _⟩
  have HO := hide (fun (v : World) (hb : Below w.heap.size w v) (h1 : Piece v (some ⟨w.heap.size, 16, none⟩) 32 mark) =>
    refof_any (some ⟨w.heap.size, 16, none⟩) p 32 c mark b (macF mark b) v h1 (hP.kept hb) (by rw [hml]; omega) (by omega) rfl)
  rw [hml, hn] at HO
  have HC : Hid (Calls Tryd.prog 29 #[.slice (some ⟨w.heap.size, 16, none⟩) 32 32, .slice p n c] (w.alloc (Obj.cells (kCells code mark).toArray 34)) fun e w' => e = .returned (.agg (u8s (macF mark b)).toArray) ∧ Below (w.alloc (Obj.cells (kCells code mark).toArray 34)).heap.size (w.alloc (Obj.cells (kCells code mark).toArray 34)) w') :=
    HO.out _ A1.out.2 (key_mark hk A1.out.1)
  have hT := hide (fun (v : World) (g : Nat) (h : Arr v g 32 (u8s (macF mark b))) => arr_take h (macF_bytes mark b) 16 32 (by rw [macF_length]; omega) (by omega) (by unfold maxLen; omega))
  have HDL := hide (macF_length mark b)
  have HTL : Hid (((macF mark b).take 16).length = 16) := tgF_length mark b
  have e16 : tgF mark b = (macF mark b).take 16 := rfl
  rw [e16]
  clear e16 hP hn hml hk HO
  generalize macF mark b = D at *
  have ID : Hid ((Tryd.prog.info? 32).map (·.size) = some (u8s D).toArray.size) := by show _ = _; rw [info35]; simp [u8s, HDL.out]
  have OD : Hid ((u8s (List.replicate 32 0)).toArray.size = (u8s D).toArray.size) := by show _ = _; simp [u8s, HDL.out]
  have hsl := fun v => run_all32o v w.heap.size 16
  have hs2 := run_d16
  go_enter Tryd.func20, Tryd.ntmps20
  go_upto_region 1 with fail
  generalize hG : w.heap.size = G at *
  generalize w.alloc (Obj.cells (kCells code mark).toArray 34) = w1 at *
  go_cut [5] (fun s5 wx => ∃ g, s5 = .pointer (some ⟨g, 0, none⟩) ∧ Hid (Arr wx g 32 (u8s D)) ∧ Hid (Below G w wx))
  case first =>
    go_wp2_with fail
    refine HC.out.mono ?_
    rintro e w2 ⟨rfl, hb2⟩
    have B3 : Hid (Below G w w2) := A1.out.2.trans (hb2.mono (by have := A1.out.2.size; omega))
    clear hb2 A1 HC
    go_wp2_with (refine wpList_store_row rfl 32 _ _ rfl w2.heap.size (u8s D).toArray rfl rfl 32 (u8s (List.replicate 32 0)).toArray (heap_at w2 _ _ rfl) ID.out OD.out (all_u8s _) ?_)
    go_meet
    case rel =>
      exact ⟨w2.heap.size, rfl, (Arr.new w2 32 (u8s (List.replicate 32 0))).row _, below_setRow (B3.out.alloc (by have := B3.out.size; omega) _) (by have := B3.out.size; omega) (by simp) _⟩
  case rest =>
    clear A1 HC hsl ID OD
    obtain ⟨g, rfl, A4, B4⟩ := hcut
    go_wp2_with (at_builtin; refine wpList_append_bytes rfl (.tmp 10) (.tmp 11) rfl G _ [] rfl 0 rfl (World.ownsRow_made wc #[] 0 (by have := B4.out.size; omega) (Nat.zero_le _) rfl) (some ⟨g, 0, none⟩) 16 32 (D.take 16) HTL.out rfl ((hT.out _ _ A4.out).1.kept ((Below.refl _ _).alloc (Nat.le_refl _) _)) (fun e => by cases e) (by omega) (by have := B4.out.size; simp; omega) ?_)
    intro v2 w2 hown hgrow
    have O5 : Hid (w2.ownsRow G 5 1 v2 16 (u8s (D.take 16))) := by
      show World.ownsRow _ _ _ _ _ _ _
      simpa using hown
    have B5 : Hid (Below G w w2) := (B4.out.alloc (by have := B4.out.size; omega) _).grown hgrow (by have := B4.out.size; simp; omega) (by intro k hk; simp [Value.ownBlock] at hk; have := B4.out.size; omega)
    clear hown hgrow A4 B4
    go_wp2
    go_ret
    exact ⟨v2, rfl, by rw [hG]; exact O5.out, by rw [hG]; exact B5.out⟩

theorem reffix8 (x : Nat) (hx : x < 18446744073709551616) (w : World) : Calls Tryd.prog 24 #[.int .u64 (x : Int), .int .i64 8] w fun e w' => ∃ v, e = .returned v ∧ w'.ownsRow w.heap.size 5 1 v 8 (u8s (fx8 x)) ∧ Below w.heap.size w w' := by
  have h := reffix_in x 8 hx (by omega) (by omega) w
  rw [fixF8, ofNat_map] at h
  exact h

set_option maxHeartbeats 4000000 in
set_option maxRecDepth 100000 in
theorem rseal_arg (code mark : List Nat) (d : Bool) (m : Nat) (p : Option Addr) (c n : Nat) (w : World)  (hm2 : ¬ m < 9223372036854775808) :
    Calls Tryd.prog 15 #[keyV code mark, noV d m, .slice p n c] w fun e w' => e = .returned (.tuple #[.slice none 0 0, .int .i64 2]) ∧ Below w.heap.size w w' := by
  have HW := hide (fun v : World => (rword_no d m  v))
  simp only [if_neg hm2] at HW
  have A1 := hide (boxes w (kCells code mark) (noC d m) 34 24)
  clear hm2
  go_enter Tryd.func15, Tryd.ntmps15
  go_upto_region 1 with fail
  generalize (w.alloc (Obj.cells (kCells code mark).toArray 34)).alloc (Obj.cells #[Value.bool d, Value.int IntKind.u64 ↑m] 24) = w1 at *
  go_wp2_with (refine wpList_load_row rfl 24 _ rfl (w.heap.size + 1) rfl 24 _ (0, 0) _ A1.out.2.1 Tryd.underlying24 rfl infoN ?_)
  refine (HW.out w1).mono ?_
  rintro e w2 ⟨rfl, hb2⟩
  have B2 : Hid (Below w.heap.size w w2) := A1.out.2.2.trans (hb2.mono A1.out.2.2.size)
  clear hb2 A1 HW
  go_wp2
  go_ret2
  exact ⟨rfl, B2.out⟩

set_option maxHeartbeats 4000000 in
set_option maxRecDepth 100000 in
theorem rseal_long (code mark : List Nat) (d : Bool) (m : Nat) (p : Option Addr) (c n : Nat) (w : World) (hm : m < 9223372036854775808) (hn : 1200 < n) :
    Calls Tryd.prog 15 #[keyV code mark, noV d m, .slice p n c] w fun e w' => e = .returned (.tuple #[.slice none 0 0, .int .i64 3]) ∧ Below w.heap.size w w' := by
  have HW := hide (fun v : World => (rword_no d m  v))
  simp only [if_pos hm] at HW
  have A1 := hide (boxes w (kCells code mark) (noC d m) 34 24)
  have hn' : (1200 : Int) < (n : Int) := by omega
  clear hm hn
  generalize wdF d m = X at *
  go_enter Tryd.func15, Tryd.ntmps15
  go_upto_region 1 with fail
  generalize (w.alloc (Obj.cells (kCells code mark).toArray 34)).alloc (Obj.cells #[Value.bool d, Value.int IntKind.u64 ↑m] 24) = w1 at *
  go_wp2_with (refine wpList_load_row rfl 24 _ rfl (w.heap.size + 1) rfl 24 _ (0, 0) _ A1.out.2.1 Tryd.underlying24 rfl infoN ?_)
  refine (HW.out w1).mono ?_
  rintro e w2 ⟨rfl, hb2⟩
  have B2 : Hid (Below w.heap.size w w2) := A1.out.2.2.trans (hb2.mono A1.out.2.2.size)
  clear hb2 A1 HW
  go_wp2
  go_ret2
  exact ⟨rfl, B2.out⟩

set_option maxHeartbeats 4000000 in
set_option maxRecDepth 100000 in
theorem rseal_of (code mark : List Nat) (d : Bool) (m X : Nat) (p : Option Addr) (c n : Nat) (text H A G : List Nat) (w : World) (hk : IsKey code mark) (hP : Piece w p c text) (hn : text.length = n) (hn2 : n ≤ 1200) (hX : X < 18446744073709551616)
    (hHl : H.length = n) (hA : A = fx8 X ++ H) (hAb : BytesN A) (hG : G.length = 16) (hGb : BytesN G)
    (hW : ∀ v : World, Calls Tryd.prog 10 #[noV d m] v fun e w' => e = .returned (.tuple #[.int .u64 (X : Int), .int .i64 0]) ∧ Below v.heap.size v w')
    (hT : ∀ (v : World), Piece v p c text → Calls Tryd.prog 25 #[.agg (u8s code).toArray, .int .u64 (X : Int), .int .i64 0, .slice p n c] v fun r w' => ∃ u, r = .returned u ∧ w'.ownsRow v.heap.size 5 1 u n (u8s H) ∧ Below v.heap.size v w')
    (hTag : ∀ (v : World) (q : Option Addr) (cq : Nat), Below w.heap.size w v → Piece v q cq A → Calls Tryd.prog 20 #[keyV code mark, .slice q (n + 8) cq] v fun e w' => ∃ g cg, e = .returned (.slice g 16 cg) ∧ Piece w' g cg G ∧ Below v.heap.size v w') :
    Calls Tryd.prog 15 #[keyV code mark, noV d m, .slice p n c] w fun e w' => ∃ v, e = .returned (.tuple #[v, .int .i64 0]) ∧ w'.ownsRow w.heap.size 5 1 v (n + 24) (u8s (A ++ G)) ∧ Below w.heap.size w w' := by
  have HW := hide hW
  have HT := hide hT
  have HTG := hide hTag
  have HFX := hide (fun v : World => reffix8 X hX v)
  have HP := hide hP
  have HK := hide hk
  have IK := hide hk.info
  have IC := hide (szb hk.c)
  have HHL := hide hHl
  have HA := hide hA
  have HAB := hide hAb
  have HGL := hide hG
  have HGB := hide hGb
  have F8 := hide (fx8_length X)
  have HAL : Hid (A.length = n + 8) := by show _ = _; rw [hA, List.length_append, fx8_length, hHl]; omega
  have A1 := hide (boxes w (kCells code mark) (noC d m) 34 24)
  have hn' : ¬ (1200 : Int) < (n : Int) := by omega
  clear hW hT hTag hP hk hHl hA hAb hG hGb hn hX
  generalize fx8 X = F at *
  go_enter Tryd.func15, Tryd.ntmps15
  go_upto_region 1 with fail
  generalize (w.alloc (Obj.cells (kCells code mark).toArray 34)).alloc (Obj.cells #[Value.bool d, Value.int IntKind.u64 ↑m] 24) = w1 at *
  go_upto_region 6 with (first
    | (refine wpList_load_row rfl 24 _ rfl (w.heap.size + 1) rfl 24 _ (0, 0) _ A1.out.2.1 Tryd.underlying24 rfl infoN ?_)
    | (refine (HW.out w1).mono ?_; rintro e w2 ⟨rfl, hb2⟩; have H2 : Hid (Arr w2 w.heap.size 34 (kCells code mark) ∧ Piece w2 p c text ∧ Below w.heap.size w w2) := ⟨A1.out.1.kept hb2, (HP.out.kept A1.out.2.2).kept hb2, A1.out.2.2.trans (hb2.mono A1.out.2.2.size)⟩; clear hb2))
  clear A1 HW
  have HHB : Hid (BytesN H) := fun x hx => HAB.out x (by rw [HA.out]; exact List.mem_append_right _ hx)
  have HCD : Hid (∀ v, Hid (Below w2.heap.size w2 v) → v.rangeAt w.heap.size 0 (u8s code)) := fun v hb => key_code HK.out (H2.out.1.kept hb.out)
  have HPV : Hid (∀ v, Hid (Below w2.heap.size w2 v) → Piece v p c text) := fun v hb => H2.out.2.1.kept hb.out
  refine wp_region_held_drew (S := fun v => Hid (Below w2.heap.size w2 v)) (by kernel_rfl) (hide (Below.refl _ _).drew) (fun hHeld => ?_)
  refine take_dstH (i := 0) (d := 22) (v := ?_) rfl rfl (by kernel_rfl) (by kernel_rfl) (by kernel_rfl) (fun _ _ _ h => h) (by rfl) hHeld ?_ ?_
  rotate_left
  · intro wZ hSw; clear hSw; go_simp; first | (with_reducible rfl) | (rw [if_pos (by omega)]; with_reducible rfl) | skip
  try simp only [Act.put, List.setIfInBounds_toArray, List.set_cons_zero, List.set_cons_succ]
  refine take_dstH (i := 2) (d := 24) (v := ?_) rfl rfl (by kernel_rfl) (by kernel_rfl) (by kernel_rfl) (fun _ _ _ h => h) (by rfl) hHeld ?_ ?_
  rotate_left
  · intro wZ hSw; clear hSw; go_simp; first | (with_reducible rfl) | (rw [if_pos (by omega)]; with_reducible rfl) | skip
  try simp only [Act.put, List.setIfInBounds_toArray, List.set_cons_zero, List.set_cons_succ]
  refine take_dstH (i := 3) (d := 25) (v := ?_) rfl rfl (by kernel_rfl) (by kernel_rfl) (by kernel_rfl) (fun _ _ _ h => h) (by rfl) hHeld ?_ ?_
  rotate_left
  · intro wZ hSw; refine exec_load_mid 31 (.tmp 24) ?_ w.heap.size 0 ?_ (u8s code) _ (HCD.out wZ hSw) Tryd.underlying31 rfl IC.out <;> rfl
  try simp only [Act.put, List.setIfInBounds_toArray, List.set_cons_zero, List.set_cons_succ]
  refine take_dstH (i := 4) (d := 26) (v := ?_) rfl rfl (by kernel_rfl) (by kernel_rfl) (by kernel_rfl) (fun _ _ _ h => h) (by rfl) hHeld ?_ ?_
  rotate_left
  · intro wZ hSw; clear hSw; go_simp; first | (with_reducible rfl) | (rw [if_pos (by omega)]; with_reducible rfl) | skip
  try simp only [Act.put, List.setIfInBounds_toArray, List.set_cons_zero, List.set_cons_succ]
  refine take_dstH (i := 5) (d := 27) (v := ?_) rfl rfl (by kernel_rfl) (by kernel_rfl) (by kernel_rfl) (fun _ _ _ h => h) (by rfl) hHeld ?_ ?_
  rotate_left
  · intro wZ hSw; clear hSw; go_simp; first | (with_reducible rfl) | (rw [if_pos (by omega)]; with_reducible rfl) | skip
  try simp only [Act.put, List.setIfInBounds_toArray, List.set_cons_zero, List.set_cons_succ]
  refine wpAnyH_ready (rs := [1]) (by kernel_rfl) (by simp) ?_
  refine (AllReadyH.cons rfl (fun K hK => ?_) AllReadyH.nil)
  go_simp
  refine (HFX.out _).mono ?_; rintro e wa ⟨va, rfl, hoa, hba⟩; have OA : Hid (wa.ownsRow w2.heap.size 5 1 va 8 (u8s F)) := own_base hoa (Hid.out hHeld).size; have HBa : Hid (Below w2.heap.size w2 wa) := (Hid.out hHeld).trans (hba.mono (Hid.out hHeld).size); (try (replace OB := hide (own_below OB.out hba))); clear hoa hba
  go_wp2_with fail
  refine hK.out _ _ ?_ (fun hHeld => ?_)
  · exact HBa
  clear hK K
  try simp only [Act.put, List.setIfInBounds_toArray, List.set_cons_zero, List.set_cons_succ]
  refine wpAnyH_ready (rs := [6]) (by kernel_rfl) (by simp) ?_
  refine (AllReadyH.cons rfl (fun K hK => ?_) AllReadyH.nil)
  go_simp
  refine (HT.out _ (HPV.out _ hHeld)).mono ?_; rintro e wb ⟨vb, rfl, hob, hbb⟩; have OB : Hid (wb.ownsRow w2.heap.size 5 1 vb n (u8s H)) := own_base hob (Hid.out hHeld).size; have HBb : Hid (Below w2.heap.size w2 wb) := (Hid.out hHeld).trans (hbb.mono (Hid.out hHeld).size); (try (replace OA := hide (own_below OA.out hbb))); clear hob hbb
  go_wp2_with fail
  refine hK.out _ _ ?_ (fun hHeld => ?_)
  · exact HBb
  clear hK K
  try simp only [Act.put, List.setIfInBounds_toArray, List.set_cons_zero, List.set_cons_succ]
  refine wpAnyH_ready (rs := [7]) (by kernel_rfl) (by simp) ?_
  refine (AllReadyH.cons rfl (fun K hK => ?_) AllReadyH.nil)
  obtain ⟨pb, cb, rfl, hpb, _⟩ := own_piece_n OB.out HHL.out HHB.out; have PB := hide hpb; clear hpb; refine wp_append_bytes_dst (dd := 29) rfl (.tmp 23) (.tmp 28) rfl w2.heap.size va F rfl 8 F8.out OA.out pb n cb H HHL.out rfl PB.out.1 PB.out.2.1 (by omega) (Hid.out hHeld).size (fun v7 w7 hown hgrow => ?_); have HB7 : Hid (Below w2.heap.size w2 w7) := (Hid.out hHeld).grown hgrow (Hid.out hHeld).size (fun k hk => (OA.out.lt k hk).1); have O7 := hide hown; clear hown hgrow
  refine hK.out _ _ ?_ (fun hHeld => ?_)
  · exact HB7
  clear hK K
  try simp only [Act.put, List.setIfInBounds_toArray, List.set_cons_zero, List.set_cons_succ]
  refine take_dstH (i := 8) (d := 10) (v := ?_) rfl rfl (by kernel_rfl) (by kernel_rfl) (by kernel_rfl) (fun _ _ _ h => h) (by rfl) hHeld ?_ ?_
  rotate_left
  · intro wZ hSw; clear hSw; go_simp; first | (with_reducible rfl) | (rw [if_pos (by omega)]; with_reducible rfl) | skip
  try simp only [Act.put, List.setIfInBounds_toArray, List.set_cons_zero, List.set_cons_succ]
  refine wpAnyH_done (by kernel_rfl) ?_ _
  all_goals
    have HAE : Hid (A = F ++ H) := HA.out
    have O8 : Hid (w7.ownsRow w2.heap.size 5 1 v7 (n + 8) (u8s A)) := by show World.ownsRow _ _ _ _ _ _ _; rw [HAE.out, Nat.add_comm]; exact O7.out
    obtain ⟨q, cq, rfl, hq, _⟩ := own_piece_n O8.out HAL.out HAB.out
    have PQ := hide hq
    have B7 : Hid (Below w.heap.size w w7) := H2.out.2.2.trans (HB7.out.mono H2.out.2.2.size)
    have AK := hide (H2.out.1.kept HB7.out)
    have HC := hide (HTG.out w7 q cq B7.out PQ.out)
    have HWS := hide H2.out.2.2.size
    clear hq O7 HA HAE HTG hHeld HFX HT HPV HCD H2 HAB HP HK
    generalize w2.heap.size = G2 at *
    go_wp2_with (first
      | (refine wpList_load_row rfl 34 _ rfl w.heap.size rfl 34 _ (0, 0) _ AK.out Tryd.underlying34 rfl IK.out ?_)
      | (refine HC.out.mono ?_; rintro e w8 ⟨g, cg, rfl, hpg, hb8⟩; have PG := hide hpg; have O9 := hide (own_below O8.out hb8); have B9 : Hid (Below w.heap.size w w8) := B7.out.trans (hb8.mono B7.out.size); clear hpg hb8 AK HC O8 B7 PQ)
      | (at_builtin; refine wpList_append_bytes rfl (.tmp 30) (.tmp 33) rfl w.heap.size _ A rfl (n + 8) HAL.out (own_base O9.out HWS.out) g 16 cg G HGL.out rfl PG.out.1 PG.out.2.1 (by omega) B9.out.size ?_; intro v10 w10 hown hgrow; have O10 := hide hown; have B10 : Hid (Below w.heap.size w w10) := B9.out.grown hgrow B9.out.size (fun k hk => ((own_base O9.out HWS.out).lt k hk).1); clear hown hgrow))
    go_ret2
    exact ⟨v10, rfl, O10.out, B10.out⟩

theorem rseal_ok (code mark : List Nat) (d : Bool) (m : Nat) (p : Option Addr) (c n : Nat) (text : List Nat) (w : World) (hk : IsKey code mark) (hm : m < 9223372036854775808) (hP : Piece w p c text) (hn : text.length = n) (hn2 : n ≤ 1200) :
    Calls Tryd.prog 15 #[keyV code mark, noV d m, .slice p n c] w fun e w' => ∃ v, e = .returned (.tuple #[v, .int .i64 0]) ∧ w'.ownsRow w.heap.size 5 1 v (n + 24) (u8s (paF code mark (wdF d m) text)) ∧ Below w.heap.size w w' := by
  have hX := wdF_lt (d := d) hm
  have hA := ahF_bytes hk.c (wdF d m) hP.2.2.1
  refine rseal_of code mark d m (wdF d m) p c n text (hiF code (wdF d m) text) (ahF code (wdF d m) text) (tgF mark (ahF code (wdF d m) text)) w hk hP hn hn2 hX (by rw [hiF_length, hn]) rfl hA (tgF_length _ _) (tgF_bytes _ _)
    (fun v => by have h := rword_no d m  v; simp only [if_pos hm] at h; exact h) (fun v hv => rturn_any code (wdF d m) 0 n p c text v hk.c hv hn (by omega) (by omega)) (fun v q cq hb hq => ?_)
  refine (rtag_any code mark q cq (n + 8) _ v hk hq (by rw [ahF_length, hn]) (by omega)).mono ?_
  rintro e w' ⟨u, he, ho, hb'⟩
  obtain ⟨g, cg, rfl, hp, _⟩ := own_piece_n ho (tgF_length _ _) (tgF_bytes _ _)
  exact ⟨g, cg, he, hp, hb'⟩

end Go.Proofs.YtjiipiolckddnaaDoor

/- Walks: Open and Peek of the reference. -/
namespace Go.Proofs.YtjiipiolckddnaaDoor
open Go.RowKit

/-- a reader of the reference's over bytes that are handed in -/
theorem rd_over {w : World} {p : Option Addr} {c : Nat} {b : List Nat} (h : Piece w p c b) (hn : 0 < b.length) (t : TypeId) (hbig : b.length ≤ 100000) :
    Rd (fun _ => True) (w.alloc (Obj.cells #[.slice p b.length c, .int .i64 0] t)) w.heap.size (b.map Int.ofNat) 0 := by
  have e : b.length = (b.map Int.ofNat).length := by simp
  rw [e]
  refine rd_new (by rw [← e]; exact h.2.2.2.1) h.2.2.2.2 (by rw [← e]; omega) (bytesIn_of h) (fun a ha => piece_lt h a ha (fun e => by rw [e] at hn; simp at hn)) (fun _ _ => trivial)

theorem rfix8 (g : Nat) (b : List Nat) (w : World) (hn : 8 ≤ b.length) (hr : Rd (fun _ => True) w g (b.map Int.ofNat) 0) :
    Calls Tryd.prog 28 #[.pointer (some ⟨g, 0, none⟩), .int .i64 8] w fun e w' => e = .returned (.int .u64 ((rd8 b : Nat) : Int)) ∧ w.grownBy w' (some g) := by
  refine (rrfix_any g 8 (b.map Int.ofNat) 0 w hr).mono ?_
  rintro e w' ⟨h1, _, h3⟩
  refine ⟨?_, h3⟩
  rw [h1, sFix, if_pos rfl, if_pos (by simp; omega)]
  rw [rd8, show (8 : Int).toNat = 8 from rfl, List.map_take]

set_option maxHeartbeats 4000000 in
set_option maxRecDepth 100000 in
theorem rpeek_bad (p : Option Addr) (c n : Nat) (w : World) (h : n < 24 ∨ 1224 < n) (hn : n < 4611686018427387904) :
    Calls Tryd.prog 19 #[.slice p n c] w fun e w' => e = .returned (.tuple #[noV false 0, .int .i64 4]) ∧ Below w.heap.size w w' := by
  have A1 := hide (nonce_box w)
  have three : ((n : Int) < 24) ∨ (decide ((n : Int) < 24) = false ∧ (1200 : Int) < (n : Int) - 24) := by
    by_cases h1 : (n : Int) < 24
    · exact Or.inl h1
    · exact Or.inr ⟨by simpa using h1, by omega⟩
  clear h
  rcases three with h1 | ⟨h1, h2⟩
  all_goals
    go_enter Tryd.func19, Tryd.ntmps19
    go_upto_region 1 with fail
    generalize w.alloc (Obj.cells #[Value.bool false, Value.int .u64 0] 24) = w1 at *
    go_wp2_with (refine wpList_store_row rfl 24 _ _ rfl w.heap.size (noC false 0).toArray rfl rfl 24 (noC false 0).toArray A1.out.1 infoN rfl (one_noC _ _) ?_)
    exact bodyPost_ret (results_ct Tryd.results19 _ _ w.heap.size (noC false 0) rfl (A1.out.1.row _) Tryd.underlying24 rfl infoN) rfl ⟨rfl, below_setRow A1.out.2 (Nat.le_refl _) A1.out.1.lt _⟩

set_option maxHeartbeats 4000000 in
set_option maxRecDepth 100000 in
theorem rpeek_ok (p : Option Addr) (c n : Nat) (b : List Nat) (w : World) (hP : Piece w p c b) (hn : b.length = n) (hn1 : 24 ≤ n) (hn2 : n ≤ 1224) :
    Calls Tryd.prog 19 #[.slice p n c] w fun e w' => e = .returned (.tuple #[noV (wD (rd8 b)) (wN (rd8 b)), .int .i64 0]) ∧ Below w.heap.size w w' := by
  have HR := hide (fun (v : World) (hb : Below w.heap.size w v) => rd_over (hP.kept hb) (by omega) 58 (by omega))
  have HF := hide (fun (v : World) (g : Nat) => rfix8 g b v (by omega))
  have HO := hide (fun v : World => rof_no (rd8 b) (rd8_lt hP.2.2.1) v)
  simp only [hn] at HR
  have d1 : decide ((n : Int) < 24) = false := by simp; omega
  have d2 : ¬ (1200 : Int) < (n : Int) - 24 := by omega
  have A1 := hide (nonce_box w)
  clear hP hn
  generalize rd8 b = X at *
  generalize wD X = xd at *
  generalize wN X = xn at *
  generalize b.map Int.ofNat = bs at *
  go_enter Tryd.func19, Tryd.ntmps19
  go_upto_region 1 with fail
  generalize w.alloc (Obj.cells #[Value.bool false, Value.int .u64 0] 24) = w1 at *
  go_upto_region 3 with fail
  clear d1 d2
  go_cut [4] (fun s4 wx => ∃ g, s4 = .pointer (some ⟨g, 0, none⟩) ∧ w.heap.size < g ∧ Hid (Rd (fun _ => True) wx g bs 0) ∧ Hid (Arr wx w.heap.size 24 (noC false 0) ∧ Below w.heap.size w wx))
  case first =>
    go_wp2
    go_meet
    case rel => exact ⟨w1.heap.size, rfl, A1.out.1.lt, HR.out w1 A1.out.2, A1.out.1.alloc _, A1.out.2.alloc A1.out.2.size _⟩
  case rest =>
    clear A1 HR
    obtain ⟨g, rfl, hg, hr, A2⟩ := hcut
    go_wp2_with fail
    refine (HF.out wc g hr.out).mono ?_
    rintro e w2 ⟨rfl, hg2⟩
    have A3 : Hid (Arr w2 w.heap.size 24 (noC false 0) ∧ Below w.heap.size w w2) := ⟨A2.out.1.grown' hg2 (by omega), A2.out.2.grown hg2 A2.out.2.size (by intro k hk; cases hk; omega)⟩
    clear hg2 A2 hr HF
    go_wp2_with fail
    refine (HO.out w2).mono ?_
    rintro e w3 ⟨rfl, hb3⟩
    have A4 : Hid (Arr w3 w.heap.size 24 (noC false 0) ∧ Below w.heap.size w w3) := ⟨A3.out.1.kept hb3, A3.out.2.trans (hb3.mono A3.out.2.size)⟩
    clear hb3 A3 HO
    go_wp2_with (refine wpList_store_row rfl 24 _ _ rfl w.heap.size (noC xd xn).toArray rfl rfl 24 (noC false 0).toArray A4.out.1 infoN rfl (one_noC _ _) ?_)
    exact bodyPost_ret (results_ct Tryd.results19 _ _ w.heap.size (noC xd xn) rfl (A4.out.1.row _) Tryd.underlying24 rfl infoN) rfl ⟨rfl, below_setRow A4.out.2 (Nat.le_refl _) A4.out.1.lt _⟩

set_option maxHeartbeats 4000000 in
set_option maxRecDepth 100000 in
theorem ropen_bad (code mark : List Nat) (p : Option Addr) (c n : Nat) (w : World) (h : n < 24 ∨ 1224 < n) (hn : n < 4611686018427387904) :
    Calls Tryd.prog 17 #[keyV code mark, .slice p n c] w fun e w' => e = .returned (.tuple #[noV false 0, .slice none 0 0, .int .i64 4]) ∧ Below w.heap.size w w' := by
  have A1 := hide (boxes w (kCells code mark) (noC false 0) 34 24)
  have three : ((n : Int) < 24) ∨ (decide ((n : Int) < 24) = false ∧ (1200 : Int) < (n : Int) - 24) := by
    by_cases h1 : (n : Int) < 24
    · exact Or.inl h1
    · exact Or.inr ⟨by simpa using h1, by omega⟩
  clear h
  rcases three with h1 | ⟨h1, h2⟩
  all_goals
    go_enter Tryd.func17, Tryd.ntmps17
    go_upto_region 1 with fail
    generalize (w.alloc (Obj.cells (kCells code mark).toArray 34)).alloc (Obj.cells #[Value.bool false, Value.int .u64 0] 24) = w1 at *
    go_wp2_with (refine wpList_store_row rfl 24 _ _ rfl (w.heap.size + 1) (noC false 0).toArray rfl rfl 24 (noC false 0).toArray A1.out.2.1 infoN rfl (one_noC _ _) ?_)
    exact bodyPost_ret (results_ctt Tryd.results17 _ _ (w.heap.size + 1) (noC false 0) rfl (A1.out.2.1.row _) Tryd.underlying24 rfl infoN) rfl ⟨rfl, below_setRow A1.out.2.2 (Nat.le_succ _) A1.out.2.1.lt _⟩

/-- what lies in memory while the reference opens a packet -/
def RpS (w : World) (code mark : List Nat) (v : World) : Prop :=
  Arr v w.heap.size 34 (kCells code mark) ∧ (∃ d m, Arr v (w.heap.size + 1) 24 (noC d m)) ∧ Below w.heap.size w v
theorem RpS.kept {w : World} {code mark : List Nat} {v v' : World} (h : RpS w code mark v) (hb : Below v.heap.size v v') : RpS w code mark v' :=
  ⟨h.1.kept hb, (by obtain ⟨d, m, hA⟩ := h.2.1; exact ⟨d, m, hA.kept hb⟩), h.2.2.trans (hb.mono h.2.2.size)⟩
theorem RpS.store {w : World} {code mark : List Nat} {v : World} (h : RpS w code mark v) (d : Bool) (m : Nat) : RpS w code mark (v.setRow (w.heap.size + 1) (noC d m).toArray) := by
  obtain ⟨d0, m0, hA⟩ := h.2.1
  exact ⟨h.1.rowOther _ _ (by omega), ⟨d, m, hA.row _⟩, below_setRow h.2.2 (Nat.le_succ _) hA.lt _⟩
theorem RpS.grown {w : World} {code mark : List Nat} {v v' : World} {g : Nat} (h : RpS w code mark v) (hg : v.grownBy v' (some g)) (hgw : w.heap.size + 1 < g) : RpS w code mark v' := by
  obtain ⟨d0, m0, hA⟩ := h.2.1
  exact ⟨h.1.grown' hg (by omega), ⟨d0, m0, hA.grown' hg (by omega)⟩, h.2.2.grown hg h.2.2.size (by intro k hk; cases hk; omega)⟩
theorem RpS.lt {w : World} {code mark : List Nat} {v : World} (h : RpS w code mark v) : w.heap.size + 1 < v.heap.size := by
  obtain ⟨d0, m0, hA⟩ := h.2.1
  exact hA.lt
theorem run_fromL (w : World) (p : Option Addr) (n cap l : Nat) (h : l ≤ n) :
    (Instr.slice 35 (.slice p n cap) (some (.int .i64 (l : Int))) none none).run Tryd.prog w = .ok (.slice (cutP p l cap) (n - l) (cap - l)) w := by
  have ht' : Tryd.prog.underlying 35 = some (.slice (Tryd.prog.elem 35)) := by simp [Program.elem, Tryd.underlying35]
  have he : Tryd.prog.elem 35 = 5 := by simp [Program.elem, Tryd.underlying35]
  rw [run_slice_l w 35 _ _ _ ht' .i64 _ (by omega) (by omega), he, size5]
  simp [Result.andThen, sliced, cutP]

set_option maxHeartbeats 8000000 in
set_option maxRecDepth 100000 in
theorem ropen_of (code mark : List Nat) (p : Option Addr) (c n m k X : Nat) (A H T G U : List Nat) (bs : List Int) (xd r : Bool) (xn : Nat) (w : World) (hk : IsKey code mark) (hn1 : n = m + 16) (hm : m = k + 8) (hk2 : k ≤ 1200) (hc : n ≤ c)
    (hPA : Piece w p c A) (hPH : Piece w (cutP p 8 c) (c - 8) H) (hPT : Piece w (cutP p m c) (c - m) T) (hGl : G.length = 16) (hTl : T.length = 16) (hGb : BytesN G) (hr : decide (T = G) = r) (hbs : bs.length = m)
    (hRd : ∀ v : World, Below w.heap.size w v → Rd (fun _ => True) (v.alloc (Obj.cells #[.slice p m c, .int .i64 0] 58)) v.heap.size bs 0)
    (hF : ∀ (v : World) (g : Nat), Rd (fun _ => True) v g bs 0 → Calls Tryd.prog 28 #[.pointer (some ⟨g, 0, none⟩), .int .i64 8] v fun e w' => e = .returned (.int .u64 (X : Int)) ∧ v.grownBy w' (some g))
    (hO : ∀ v : World, Calls Tryd.prog 12 #[.int .u64 (X : Int)] v fun e w' => e = .returned (noV xd xn) ∧ Below v.heap.size v w')
    (hTg : ∀ v : World, Piece v p c A → Calls Tryd.prog 20 #[keyV code mark, .slice p m c] v fun e w' => ∃ u, e = .returned u ∧ w'.ownsRow v.heap.size 5 1 u 16 (u8s G) ∧ Below v.heap.size v w')
    (hTu : ∀ v : World, Piece v (cutP p 8 c) (c - 8) H → Calls Tryd.prog 25 #[.agg (u8s code).toArray, .int .u64 (X : Int), .int .i64 0, .slice (cutP p 8 c) k (c - 8)] v fun r w' => ∃ u, r = .returned u ∧ w'.ownsRow v.heap.size 5 1 u k (u8s U) ∧ Below v.heap.size v w') :
    Calls Tryd.prog 17 #[keyV code mark, .slice p n c] w fun e w' => (if r then ∃ v, e = .returned (.tuple #[noV xd xn, v, .int .i64 0]) ∧ w'.ownsRow w.heap.size 5 1 v k (u8s U) else e = .returned (.tuple #[noV false 0, .slice none 0 0, .int .i64 60])) ∧ Below w.heap.size w w' := by
  have HRD := hide hRd
  have HF := hide hF
  have HO := hide hO
  have HTG := hide hTg
  have HTU := hide hTu
  have HPA := hide hPA
  have HPH := hide hPH
  have HK := hide hk
  have IK := hide hk.info
  have IC := hide (szb hk.c)
  have HGL := hide hGl
  have HGB := hide hGb
  have HCT : Hid (∀ v : World, Below w.heap.size w v → (convert 35 9 (.slice (cutP p m c) 16 (c - m))).run Tryd.prog v = .ok (.string (strF T)) v) := fun v h => conv_any (hPT.kept h).1 16 hTl
  have he : ((strF G).toList == (strF T).toList) = r := by
    rw [← beq_toListBytes, strF_eq hGb hPT.2.2.1, ← hr]
    exact decide_eq_decide.2 eq_comm
  have hne : ((strF G).toList != (strF T).toList) = !r := by rw [bne, he]
  have A1 := hide (boxes w (kCells code mark) (noC false 0) 34 24)
  have s1 := fun v => run_to v p n c m (by omega)
  have s2 := fun v => run_fromL v p n c m (by omega)
  have s3 := fun v => run_mid v p n c 8 m (by omega) (by omega)
  simp only [show n - m = 16 by omega] at s2
  simp only [show m - 8 = k by omega, Int.cast_ofNat_Int] at s3
  have e1 : (n : Int) - 16 = (m : Int) := by omega
  have d1 : decide ((n : Int) < 24) = false := by simp; omega
  have d2 : ¬ (1200 : Int) < (n : Int) - 24 := by omega
  have b1 : (24 : Int) ≤ (n : Int) := by omega
  have b2 : (n : Int) ≤ 1224 := by omega
  have b3 : (8 : Int) ≤ (m : Int) := by omega
  have S1 := hide s1
  have S2 := hide s2
  have S3 := hide s3
  have HE := hide he
  have HNE := hide hne
  clear hRd hF hO hTg hTu hPA hPH hPT hk hGl hTl hGb hr hn1 hm hk2 s1 s2 s3 he hne hc
  go_enter Tryd.func17, Tryd.ntmps17
  go_upto_region 1 with fail
  generalize (w.alloc (Obj.cells (kCells code mark).toArray 34)).alloc (Obj.cells #[Value.bool false, Value.int .u64 0] 24) = w1 at *
  go_upto_region 4 with fail
  clear d1 d2 e1 b1 b2 b3
  have R1 : Hid (RpS w code mark w1) := ⟨A1.out.1, ⟨_, _, A1.out.2.1⟩, A1.out.2.2⟩
  clear A1
  go_cut [33] (fun s33 wx => s33 = .bool (!r) ∧ Hid (RpS w code mark wx))
  case first =>
    have hs1 := S1.out
    have hs2 := S2.out
    have hne := HNE.out
    have he := HE.out
    refine wp_region_held_drew (S := fun v => Hid (RpS w code mark v)) (by kernel_rfl) (hide (show RpS w code mark w1.drew from ⟨R1.out.1, R1.out.2.1, R1.out.2.2.drew⟩)) (fun hHeld => ?_)
    refine take_dstH (i := 0) (d := 23) (v := ?_) rfl rfl (by kernel_rfl) (by kernel_rfl) (by kernel_rfl) (fun _ _ _ h => h) (by rfl) hHeld ?_ ?_
    rotate_left
    · intro wZ hSw; refine exec_load_all 34 (.tmp 2) ?_ w.heap.size ?_ 34 (kCells code mark) _ (Hid.out hSw).1 Tryd.underlying34 rfl IK.out <;> rfl
    try simp only [Act.put, List.setIfInBounds_toArray, List.set_cons_zero, List.set_cons_succ]
    refine take_dstH (i := 1) (d := 24) (v := ?_) rfl rfl (by kernel_rfl) (by kernel_rfl) (by kernel_rfl) (fun _ _ _ h => h) (by rfl) hHeld ?_ ?_
    rotate_left
    · intro wZ hSw; clear hSw; go_simp; first | (with_reducible rfl) | (rw [if_pos (by omega)]; with_reducible rfl) | skip
    try simp only [Act.put, List.setIfInBounds_toArray, List.set_cons_zero, List.set_cons_succ]
    refine take_dstH (i := 2) (d := 25) (v := ?_) rfl rfl (by kernel_rfl) (by kernel_rfl) (by kernel_rfl) (fun _ _ _ h => h) (by rfl) hHeld ?_ ?_
    rotate_left
    · intro wZ hSw; clear hSw; go_simp; first | (with_reducible rfl) | (rw [if_pos (by omega)]; with_reducible rfl) | skip
    try simp only [Act.put, List.setIfInBounds_toArray, List.set_cons_zero, List.set_cons_succ]
    refine take_dstH (i := 3) (d := 26) (v := ?_) rfl rfl (by kernel_rfl) (by kernel_rfl) (by kernel_rfl) (fun _ _ _ h => h) (by rfl) hHeld ?_ ?_
    rotate_left
    · intro wZ hSw; clear hSw; go_simp; first | (with_reducible rfl) | (rw [if_pos (by omega)]; with_reducible rfl) | skip
    try simp only [Act.put, List.setIfInBounds_toArray, List.set_cons_zero, List.set_cons_succ]
    refine take_dstH (i := 6) (d := 29) (v := ?_) rfl rfl (by kernel_rfl) (by kernel_rfl) (by kernel_rfl) (fun _ _ _ h => h) (by rfl) hHeld ?_ ?_
    rotate_left
    · intro wZ hSw; clear hSw; go_simp; first | (with_reducible rfl) | (rw [if_pos (by omega)]; with_reducible rfl) | skip
    try simp only [Act.put, List.setIfInBounds_toArray, List.set_cons_zero, List.set_cons_succ]
    refine take_dstH (i := 7) (d := 30) (v := ?_) rfl rfl (by kernel_rfl) (by kernel_rfl) (by kernel_rfl) (fun _ _ _ h => h) (by rfl) hHeld ?_ ?_
    rotate_left
    · intro wZ hSw; clear hSw; go_simp; first | (with_reducible rfl) | (rw [if_pos (by omega)]; with_reducible rfl) | skip
    try simp only [Act.put, List.setIfInBounds_toArray, List.set_cons_zero, List.set_cons_succ]
    refine take_dstH (i := 8) (d := 31) (v := ?_) rfl rfl (by kernel_rfl) (by kernel_rfl) (by kernel_rfl) (fun _ _ _ h => h) (by rfl) hHeld ?_ ?_
    rotate_left
    · intro wZ hSw; clear hSw; go_simp; first | (with_reducible rfl) | (rw [if_pos (by omega)]; with_reducible rfl) | skip
    try simp only [Act.put, List.setIfInBounds_toArray, List.set_cons_zero, List.set_cons_succ]
    refine take_dstH (i := 9) (d := 32) (v := ?_) rfl rfl (by kernel_rfl) (by kernel_rfl) (by kernel_rfl) (fun _ _ _ h => h) (by rfl) hHeld ?_ ?_
    rotate_left
    · intro wZ hSw; have hfS := (fun v (h : Hid (RpS w code mark v)) => HCT.out v h.out.2.2) wZ hSw; clear hSw; go_simp; first | (with_reducible rfl) | (rw [if_pos (by omega)]; with_reducible rfl) | skip
    try simp only [Act.put, List.setIfInBounds_toArray, List.set_cons_zero, List.set_cons_succ]
    refine wpAnyH_ready (rs := [4]) (by kernel_rfl) (by simp) ?_
    refine (AllReadyH.cons rfl (fun K hK => ?_) AllReadyH.nil)
    go_simp
    refine (HTG.out _ (HPA.out.kept (Hid.out hHeld).2.2)).mono ?_; rintro e wa ⟨u, rfl, hou, hba⟩; obtain ⟨pt, ct, rfl, hPt, _⟩ := own_piece_n hou HGL.out HGB.out; have HBa : Hid (RpS w code mark wa) := (Hid.out hHeld).kept hba; have cvt := conv_any hPt.1 (c := ct) 16 HGL.out; clear hou hba hPt
    go_wp2_with fail
    refine hK.out _ _ ?_ (fun hHeld => ?_)
    · exact HBa
    clear hK K
    try simp only [Act.put, List.setIfInBounds_toArray, List.set_cons_zero, List.set_cons_succ]
    refine wpAnyH_ready (rs := [5]) (by kernel_rfl) (by simp) ?_
    refine (AllReadyH.cons rfl (fun K hK => ?_) AllReadyH.nil)
    go_simp
    refine hK.out _ _ ?_ (fun hHeld => ?_)
    · exact hHeld
    clear hK K
    try simp only [Act.put, List.setIfInBounds_toArray, List.set_cons_zero, List.set_cons_succ]
    refine take_dstH (i := 10) (d := 33) (v := ?_) rfl rfl (by kernel_rfl) (by kernel_rfl) (by kernel_rfl) (fun _ _ _ h => h) (by rfl) hHeld ?_ ?_
    rotate_left
    · intro wZ hSw; clear hSw; go_simp; first | (with_reducible rfl) | (rw [if_pos (by omega)]; with_reducible rfl) | skip
    try simp only [Act.put, List.setIfInBounds_toArray, List.set_cons_zero, List.set_cons_succ]
    refine wpAnyH_done (by kernel_rfl) ?_ _
    go_wp2_with fail
    go_meet
    case rel => exact ⟨rfl, HBa⟩
  case rest =>
    obtain ⟨rfl, R2⟩ := hcut
    clear HTG HCT HE HNE HPA R1 S2
    cases r
    · obtain ⟨d0, m0, hA0⟩ := R2.out.2.1
      have HN0 := hide hA0
      have BW := hide R2.out.2.2
      clear hA0 R2
      go_wp2_with (refine wpList_store_row rfl 24 _ _ rfl (w.heap.size + 1) (noC false 0).toArray rfl rfl 24 (noC d0 m0).toArray HN0.out infoN rfl (one_noC _ _) ?_)
      exact bodyPost_ret (results_ctt Tryd.results17 _ _ (w.heap.size + 1) (noC false 0) rfl (HN0.out.row _) Tryd.underlying24 rfl infoN) rfl ⟨rfl, below_setRow BW.out (Nat.le_succ _) HN0.out.lt _⟩
    · go_upto_region 6 with fail
      go_cut [8] (fun s8 wx => ∃ g, s8 = .pointer (some ⟨g, 0, none⟩) ∧ w.heap.size + 1 < g ∧ Hid (Rd (fun _ => True) wx g bs 0) ∧ Hid (RpS w code mark wx))
      case first =>
        have hs1 := S1.out
        go_wp2
        go_meet
        case rel => exact ⟨_, rfl, R2.out.lt, HRD.out _ R2.out.2.2, R2.out.kept ((Below.refl _ _).alloc (Nat.le_refl _) _)⟩
      case rest =>
        clear HRD R2 S1
        obtain ⟨g, rfl, hg, hrd, R3⟩ := hcut
        go_wp2_with fail
        refine (HF.out _ g hrd.out).mono ?_
        rintro e w4 ⟨rfl, hg4⟩
        have R4 := hide (R3.out.grown hg4 hg)
        have HCD : Hid (∀ v, Hid (RpS w code mark v) → v.rangeAt w.heap.size 0 (u8s code)) := fun v hb => key_code HK.out hb.out.1
        clear hg4 R3 hrd HF hg
        have hs3 := S3.out
        go_upto_region 8 with fail
        refine wp_region_held_drew (S := fun v => Hid (RpS w code mark v)) (by kernel_rfl) (hide (show RpS w code mark w4.drew from ⟨R4.out.1, R4.out.2.1, R4.out.2.2.drew⟩)) (fun hHeld => ?_)
        refine take_dstH (i := 0) (d := 40) (v := ?_) rfl rfl (by kernel_rfl) (by kernel_rfl) (by kernel_rfl) (fun _ _ _ h => h) (by rfl) hHeld ?_ ?_
        rotate_left
        · intro wZ hSw; clear hSw; go_simp; first | (with_reducible rfl) | (rw [if_pos (by omega)]; with_reducible rfl) | skip
        try simp only [Act.put, List.setIfInBounds_toArray, List.set_cons_zero, List.set_cons_succ]
        refine take_dstH (i := 2) (d := 42) (v := ?_) rfl rfl (by kernel_rfl) (by kernel_rfl) (by kernel_rfl) (fun _ _ _ h => h) (by rfl) hHeld ?_ ?_
        rotate_left
        · intro wZ hSw; clear hSw; go_simp; first | (with_reducible rfl) | (rw [if_pos (by omega)]; with_reducible rfl) | skip
        try simp only [Act.put, List.setIfInBounds_toArray, List.set_cons_zero, List.set_cons_succ]
        refine take_dstH (i := 3) (d := 43) (v := ?_) rfl rfl (by kernel_rfl) (by kernel_rfl) (by kernel_rfl) (fun _ _ _ h => h) (by rfl) hHeld ?_ ?_
        rotate_left
        · intro wZ hSw; refine exec_load_mid 31 (.tmp 42) ?_ w.heap.size 0 ?_ (u8s code) _ (HCD.out wZ hSw) Tryd.underlying31 rfl IC.out <;> rfl
        try simp only [Act.put, List.setIfInBounds_toArray, List.set_cons_zero, List.set_cons_succ]
        refine take_dstH (i := 4) (d := 44) (v := ?_) rfl rfl (by kernel_rfl) (by kernel_rfl) (by kernel_rfl) (fun _ _ _ h => h) (by rfl) hHeld ?_ ?_
        rotate_left
        · intro wZ hSw; clear hSw; go_simp; first | (with_reducible rfl) | (rw [if_pos (by omega)]; with_reducible rfl) | skip
        try simp only [Act.put, List.setIfInBounds_toArray, List.set_cons_zero, List.set_cons_succ]
        refine take_dstH (i := 5) (d := 45) (v := ?_) rfl rfl (by kernel_rfl) (by kernel_rfl) (by kernel_rfl) (fun _ _ _ h => h) (by rfl) hHeld ?_ ?_
        rotate_left
        · intro wZ hSw; clear hSw; go_simp; first | (with_reducible rfl) | (rw [if_pos (by omega)]; with_reducible rfl) | skip
        try simp only [Act.put, List.setIfInBounds_toArray, List.set_cons_zero, List.set_cons_succ]
        refine take_dstH (i := 6) (d := 46) (v := ?_) rfl rfl (by kernel_rfl) (by kernel_rfl) (by kernel_rfl) (fun _ _ _ h => h) (by rfl) hHeld ?_ ?_
        rotate_left
        · intro wZ hSw; clear hSw; go_simp; first | (with_reducible rfl) | (rw [if_pos (by omega)]; with_reducible rfl) | skip
        try simp only [Act.put, List.setIfInBounds_toArray, List.set_cons_zero, List.set_cons_succ]
        refine take_dstH (i := 7) (d := 47) (v := ?_) rfl rfl (by kernel_rfl) (by kernel_rfl) (by kernel_rfl) (fun _ _ _ h => h) (by rfl) hHeld ?_ ?_
        rotate_left
        · intro wZ hSw; clear hSw; go_simp; first | (with_reducible rfl) | (rw [if_pos (by omega)]; with_reducible rfl) | skip
        try simp only [Act.put, List.setIfInBounds_toArray, List.set_cons_zero, List.set_cons_succ]
        refine wpAnyH_ready (rs := [1]) (by kernel_rfl) (by simp) ?_
        refine (AllReadyH.cons rfl (fun K hK => ?_) AllReadyH.nil)
        go_simp
        refine (HO.out _).mono ?_; rintro e wa ⟨rfl, hba⟩; have HSa : Hid (RpS w code mark wa) := (Hid.out hHeld).kept hba; clear hba
        go_wp2_with fail
        refine hK.out _ _ ?_ (fun hHeld => ?_)
        · exact HSa
        clear hK K
        try simp only [Act.put, List.setIfInBounds_toArray, List.set_cons_zero, List.set_cons_succ]
        refine wpAnyH_ready (rs := [8]) (by kernel_rfl) (by simp) ?_
        refine (AllReadyH.cons rfl (fun K hK => ?_) AllReadyH.nil)
        go_simp
        refine (HTU.out _ (HPH.out.kept (Hid.out hHeld).2.2)).mono ?_; rintro e wb ⟨u, rfl, hob, hbb⟩; have OB : Hid (wb.ownsRow w.heap.size 5 1 u k (u8s U)) := own_base hob (Hid.out hHeld).2.2.size; have HSb : Hid (RpS w code mark wb) := (Hid.out hHeld).kept hbb; clear hob hbb
        go_wp2_with fail
        refine hK.out _ _ ?_ (fun hHeld => ?_)
        · exact HSb
        clear hK K
        try simp only [Act.put, List.setIfInBounds_toArray, List.set_cons_zero, List.set_cons_succ]
        refine wpAnyH_ready (rs := [9]) (by kernel_rfl) (by simp) ?_
        refine (AllReadyH.cons rfl (fun K hK => ?_) AllReadyH.nil)
        obtain ⟨d0, m0, hA0⟩ := (Hid.out hHeld).2.1; have HN0 := hide hA0; clear hA0; refine wp_store_dst rfl 24 (.tmp 4) (.tmp 41) rfl (w.heap.size + 1) (noC xd xn).toArray rfl rfl 24 _ HN0.out infoN rfl (one_noC _ _) ?_
        refine hK.out _ _ ?_ (fun hHeld => ?_)
        · exact (Hid.out hHeld).store xd xn
        clear hK K
        try simp only [Act.put, List.setIfInBounds_toArray, List.set_cons_zero, List.set_cons_succ]
        refine take_dstH (i := 10) (d := 5) (v := ?_) rfl rfl (by kernel_rfl) (by kernel_rfl) (by kernel_rfl) (fun _ _ _ h => h) (by rfl) hHeld ?_ ?_
        rotate_left
        · intro wZ hSw; clear hSw; go_simp; first | (with_reducible rfl) | (rw [if_pos (by omega)]; with_reducible rfl) | skip
        try simp only [Act.put, List.setIfInBounds_toArray, List.set_cons_zero, List.set_cons_succ]
        refine take_dstH (i := 11) (d := 6) (v := ?_) rfl rfl (by kernel_rfl) (by kernel_rfl) (by kernel_rfl) (fun _ _ _ h => h) (by rfl) hHeld ?_ ?_
        rotate_left
        · intro wZ hSw; clear hSw; go_simp; first | (with_reducible rfl) | (rw [if_pos (by omega)]; with_reducible rfl) | skip
        try simp only [Act.put, List.setIfInBounds_toArray, List.set_cons_zero, List.set_cons_succ]
        refine wpAnyH_done (by kernel_rfl) ?_ _
        have AN := hide (HN0.out.row (noC xd xn).toArray)
        have OC : Hid ((wb.setRow (w.heap.size + 1) (noC xd xn).toArray).ownsRow w.heap.size 5 1 u k (u8s U)) := OB.out.kept (grown_row wb (w.heap.size + 1) _) (.inr (own_ne_arr OB.out HN0.out (by decide)))
        have BN := hide (Hid.out hHeld).2.2
        clear hHeld HSa HSb OB HN0 R4 HCD HO HTU hs3
        go_wp2
        exact bodyPost_ret (results_ctt Tryd.results17 _ _ (w.heap.size + 1) (noC xd xn) rfl AN.out Tryd.underlying24 rfl infoN) rfl ⟨⟨u, rfl, OC.out⟩, BN.out⟩

theorem ropen_ok (code mark : List Nat) (p : Option Addr) (c k : Nat) (b : List Nat) (w : World) (hk : IsKey code mark) (hP : Piece w p c b) (hn : b.length = k + 24) (hk2 : k ≤ 1200) :
    Calls Tryd.prog 17 #[keyV code mark, .slice p (k + 24) c] w fun e w' => (if decide (paT b = tgF mark (paA b)) then ∃ v, e = .returned (.tuple #[noV (wD (rd8 b)) (wN (rd8 b)), v, .int .i64 0]) ∧ w'.ownsRow w.heap.size 5 1 v k (u8s (hiF code (rd8 b) (paH b))) else e = .returned (.tuple #[noV false 0, .slice none 0 0, .int .i64 60])) ∧ Below w.heap.size w w' := by
  have hbl := hP.2.2.2.1
  have e16 : b.length - 16 = k + 8 := by omega
  have hA : Piece w p c (paA b) := hP.take _
  have hH : Piece w (cutP p 8 c) (c - 8) (paH b) := hA.from 8 (by rw [paA_length hn]; omega)
  have hT : Piece w (cutP p (k + 8) c) (c - (k + 8)) (paT b) := by
    have := hP.from (k + 8) (by omega)
    rw [paT, e16]; exact this
  have hr8 : rd8 (paA b) = rd8 b := by rw [rd8, rd8, paA, List.take_take, show min 8 (b.length - 16) = 8 by omega]
  refine ropen_of code mark p c (k + 24) (k + 8) k (rd8 b) (paA b) (paH b) (paT b) (tgF mark (paA b)) _ ((paA b).map Int.ofNat) _ _ _ w hk (by omega) rfl hk2 (by omega) hA hH hT (tgF_length _ _) (paT_length hn) (tgF_bytes _ _) rfl (by simp [paA_length hn])
    (fun v hb => ?_) (fun v g hr => ?_) (fun v => rof_no (rd8 b) (rd8_lt hP.2.2.1) v) (fun v hv => rtag_any code mark p c (k + 8) _ v hk hv (paA_length hn) (by omega)) (fun v hv => rturn_any code (rd8 b) 0 k _ _ _ v hk.c hv (paH_length hn) (by omega) (by omega))
  · have h := rd_over (hA.kept hb) (by rw [paA_length hn]; omega) 58 (by rw [paA_length hn]; omega)
    rw [paA_length hn] at h
    exact h
  · have h := rfix8 g (paA b) v (by rw [paA_length hn]; omega) hr
    rw [hr8] at h
    exact h

end Go.Proofs.YtjiipiolckddnaaDoor
