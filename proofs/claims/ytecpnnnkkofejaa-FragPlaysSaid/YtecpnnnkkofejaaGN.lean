/-
  A walk of the program: Put.
-/
import Derived.Test.YtecpnnnkkofejaaGM
namespace Go.Proofs.Ytecpnnnkkofejaa
open Go.RowKit Go.Maps

/-- a joiner of the program's, by what it is -/
def PP (w : World) (g : Nat) (s : Js) : Prop := (∃ q ks, PJ w g s.i s.done (s.must : Int) q ks ∧ ks.map Pk.x = s.l) ∧ (s.met = false → s = Js.none)
theorem PP.kept {w w' : World} {g : Nat} {s : Js} (h : PP w g s) (hb : Below w.heap.size w w') : PP w' g s := by
  obtain ⟨⟨q, ks, h1, h2⟩, h3⟩ := h
  exact ⟨⟨q, ks, h1.kept hb, h2⟩, h3⟩
/-- bounds of what is held -/
def Js.fits (s : Js) (n : Nat) : Prop := sizeL s.l ≤ 65536 ∧ s.must ≤ 256 ∧ s.l.length ≤ n
theorem sizeL_append (a b : List Pc) : sizeL (a ++ b) = sizeL a + sizeL b := by
  induction a with
  | nil => simp [sizeL]
  | cons x l ih => simp [sizeL, ih]; omega
theorem sizeL_filter (a : List Pc) (f : Pc → Bool) : sizeL (a.filter f) ≤ sizeL a := by
  induction a with
  | nil => simp
  | cons x l ih =>
    rw [List.filter_cons]
    split <;> simp [sizeL] <;> omega
theorem meet_fits {s : Js} {n : Nat} (h : s.fits n) (x : Pc) : (s.meet x).fits n := by
  unfold Js.meet
  split
  · exact ⟨by simp [sizeL], Nat.zero_le _, Nat.zero_le _⟩
  · exact h
theorem bound_fits {s : Js} {n : Nat} (h : s.fits n) (x : Pc) (hx : x.e = 0) : sizeL ((s.hold x).bound x).l ≤ 66636 ∧ ((s.hold x).bound x).must ≤ 256 ∧ ((s.hold x).bound x).l.length ≤ n + 1 := by
  obtain ⟨h1, h2, h3⟩ := h
  obtain ⟨x1, x2, x3⟩ := Pc.e_zero hx
  have hs : sizeL (s.hold x).l ≤ 66636 := by
    simp only [Js.hold, sizeL_append, sizeL]
    omega
  have hl : (s.hold x).l.length ≤ n + 1 := by simp [Js.hold]; omega
  unfold Js.bound
  split
  · exact ⟨Nat.le_trans (sizeL_filter _ _) hs, by show x.a.toNat + 1 ≤ 256; omega, Nat.le_trans (List.length_filter_le _ _) hl⟩
  · exact ⟨hs, h2, hl⟩
theorem next_fits {s : Js} {n : Nat} (h : s.fits n) (x : Pc) : (s.next x).fits (n + 1) := by
  have hup : ∀ {t : Js}, t.fits n → t.fits (n + 1) := fun h => ⟨h.1, h.2.1, Nat.le_succ_of_le h.2.2⟩
  have ho : (Js.over x.i).fits (n + 1) := ⟨by simp [Js.over, sizeL], Nat.zero_le _, Nat.zero_le _⟩
  unfold Js.next
  split
  · exact hup h
  rename_i hx
  have hx0 : x.e = 0 := by simpa using hx
  split
  · exact hup h
  split
  · exact hup (meet_fits h x)
  have hb := bound_fits (meet_fits h x) x hx0
  split
  · exact ho
  rename_i hz
  split
  · exact ⟨by omega, hb.2.1, hb.2.2⟩
  · exact ho

/-- the pieces as the joiner tells of them -/
theorem bnd_map {s : Js} {ks : List Pk} (h : ks.map Pk.x = s.l) (k : Pk) : (bndK (ks ++ [k]) s.must k.x).map Pk.x = ((s.hold k.x).bound k.x).l ∧ bndM s.must k.x = ((s.hold k.x).bound k.x).must := by
  have h1 : (ks ++ [k]).map Pk.x = (s.hold k.x).l := by simp [Js.hold, h]
  unfold bndK bndM Js.bound
  by_cases hc : k.x.l = true ∧ s.must = 0
  · rw [if_pos hc, if_pos hc, if_pos (show k.x.l = true ∧ (s.hold k.x).must = 0 from hc)]
    refine ⟨?_, rfl⟩
    show _ = List.filter _ (s.hold k.x).l
    rw [← h1, List.filter_map]
    rfl
  · rw [if_neg hc, if_neg hc, if_neg (show ¬ (k.x.l = true ∧ (s.hold k.x).must = 0) from hc)]
    exact ⟨h1, rfl⟩
theorem bound_id (s : Js) (x : Pc) : ((s.hold x).bound x).i = s.i ∧ ((s.hold x).bound x).done = s.done := by
  unfold Js.bound
  split <;> exact ⟨rfl, rfl⟩
theorem whole_map {s : Js} {ks : List Pk} (h : ks.map Pk.x = s.l) : ∀ m, whP ks m = s.whole m
  | 0 => rfl
  | m + 1 => by rw [whP, Js.whole, whole_map h m, at_map s ks m h]

theorem len_map {s : Js} {ks : List Pk} (h : ks.map Pk.x = s.l) : ks.length = s.l.length := by rw [← h, List.length_map]

/-- what lies in memory -/
structure PS (Av : Pk → Prop) (w wr : World) (g : Nat) (s : Js) (x : Pc) (p : Option Addr) (c : Nat) : Prop where
  j : ∃ q ks, PJ wr g s.i s.done (s.must : Int) q ks ∧ ks.map Pk.x = s.l ∧ ∀ k ∈ ks, Av k
  b : Arr wr w.heap.size 25 (pcC x p c)
  t : Piece wr p c x.b
  w : w.grownBy wr (some g)
theorem PS.kept {Av : Pk → Prop} {w wr w' : World} {g c : Nat} {s : Js} {x : Pc} {p : Option Addr} (h : PS Av w wr g s x p c) (hb : Below wr.heap.size wr w') : PS Av w w' g s x p c := by
  obtain ⟨⟨q, ks, h1, h2⟩, h3, h4, h5⟩ := h
  exact ⟨⟨q, ks, h1.kept hb, h2⟩, h3.kept hb, h4.kept hb, grown_trans h5 (below_grown hb _)⟩

theorem PS.set {Av : Pk → Prop} {w wr : World} {g c : Nat} {s : Js} {x : Pc} {p : Option Addr} (h : PS Av w wr g s x p c) (ha : Apt p x.b g) (hgw : g < w.heap.size) (dn : Bool) (i : Nat) : PS Av w (wr.setRow g #[.int .u64 (i : Int), .bool dn, .int .i64 0, .map none]) g ⟨true, dn, i, 0, []⟩ x p c := by
  obtain ⟨⟨q, ks, h1, h2⟩, h3, h4, h5⟩ := h
  exact ⟨⟨none, [], h1.set dn i, rfl, fun k hk => by cases hk⟩, h3.rowOther _ _ (by omega), ⟨bi_grown h4.1 (grown_setRow _ _ _) (fun a e hn => ha a e hn), h4.2⟩, grown_trans h5 (grown_setRow _ _ _)⟩
theorem PS.arr {Av : Pk → Prop} {w wr : World} {g c : Nat} {s : Js} {x : Pc} {p : Option Addr} (h : PS Av w wr g s x p c) : ∃ cs, cs.length = 4 ∧ Arr wr g 55 cs := by
  obtain ⟨⟨q, ks, h1, h2⟩, _⟩ := h
  exact ⟨_, rfl, h1.j⟩

theorem ret_put {T : List Nat} {ok : Bool} {er : Int} (h : T = [] ∧ ok = false ∧ er = 0) : Ending.returned (.tuple #[.slice none 0 0, .bool false, .int .i64 0]) = .returned (.tuple #[.slice none T.length 0, .bool ok, .int .i64 er]) := by
  obtain ⟨rfl, rfl, rfl⟩ := h
  rfl
theorem br_none (w : World) : BR w none [] := ⟨Or.inl rfl, fun x hx => by cases hx⟩
theorem ob_none (w : World) (B : Nat) : OB w B none [] := ⟨br_none w, fun a ha => by cases ha⟩

set_option maxHeartbeats 8000000 in
set_option maxRecDepth 100000 in
theorem put_no (Av : Pk → Prop) (w : World) (g c : Nat) (s : Js) (x : Pc) (p : Option Addr) (h : (∃ q ks, PJ w g s.i s.done (s.must : Int) q ks ∧ ks.map Pk.x = s.l ∧ ∀ k ∈ ks, Av k) ∧ (s.met = false → s = Js.none)) (hE : x.e ≠ 0) :
    Calls Try.prog 20 #[.pointer (some ⟨g, 0, none⟩), pcV x p c] w fun e w' => e = .returned (.tuple #[.slice none 0 0, .bool false, .int .i64 x.e]) ∧ ((∃ q ks, PJ w' g s.i s.done (s.must : Int) q ks ∧ ks.map Pk.x = s.l ∧ ∀ k ∈ ks, Av k) ∧ (s.met = false → s = Js.none)) ∧ w.grownBy w' (some g) := by
  have A1 := hide (And.intro (show ((∃ q ks, PJ (w.alloc (Obj.cells #[.int .u64 (x.i : Int), .int .i64 x.a, .bool x.l, .slice p x.b.length c] 25)) g s.i s.done (s.must : Int) q ks ∧ ks.map Pk.x = s.l ∧ ∀ k ∈ ks, Av k) ∧ (s.met = false → s = Js.none)) from by obtain ⟨⟨q, ks, h1, h2, h3⟩, h4⟩ := h; exact ⟨⟨q, ks, h1.kept (pc_box w x p c).2, h2, h3⟩, h4⟩) (pc_box w x p c))
  have HM := hide (fault_any x p c)
  generalize x.e = E at *
  have hne : (E != 0) = true := by simpa using hE
  clear h hE
  go_enter Try.func20, Try.ntmps20
  go_upto_region 1 with fail
  generalize w.alloc (Obj.cells #[.int .u64 (x.i : Int), .int .i64 x.a, .bool x.l, .slice p x.b.length c] 25) = w1 at *
  go_wp2_with (refine wpList_exec (by rfl) _ (exec_load_all 25 (.tmp 3) rfl w.heap.size rfl 25 (pcC x p c) _ A1.out.2.1 Try.underlying25 rfl infoPc) ?_)
  refine (HM.out w1).mono ?_
  rintro e w2 ⟨rfl, hb⟩
  have A2 := hide (And.intro (show ((∃ q ks, PJ w2 g s.i s.done (s.must : Int) q ks ∧ ks.map Pk.x = s.l ∧ ∀ k ∈ ks, Av k) ∧ (s.met = false → s = Js.none)) from by obtain ⟨⟨q, ks, h1, h2, h3⟩, h4⟩ := A1.out.1; exact ⟨⟨q, ks, h1.kept hb, h2, h3⟩, h4⟩) (A1.out.2.2.trans (hb.mono A1.out.2.2.size)))
  clear hb A1 HM
  go_wp2
  go_ret3
  exact ⟨rfl, A2.out.1, below_grown A2.out.2 _⟩

set_option maxHeartbeats 8000000 in
set_option maxRecDepth 100000 in
theorem put_more (Av : Pk → Prop) (w : World) (g c n : Nat) (s s1 s3 s' : Js) (x : Pc) (p : Option Addr) (T : List Nat) (ok : Bool) (er : Int) (h : (∃ q ks, PJ w g s.i s.done (s.must : Int) q ks ∧ ks.map Pk.x = s.l ∧ ∀ k ∈ ks, Av k) ∧ (s.met = false → s = Js.none)) (hAv : ∀ pb cb, (∀ a, pb = some a → x.b ≠ [] → w.heap.size ≤ a.block) → Av ⟨x, pb, cb⟩) (ht : Piece w p c x.b) (hE : x.e = 0) (ha : Apt p x.b g) (hs1 : s.meet x = s1) (hs3 : (s1.hold x).bound x = s3) (hf : s.fits n) (hn : n ≤ 5000)
    (k1 : (decide (x.i = s1.i) && !s1.stop x) = false → T = [] ∧ ok = false ∧ er = 0 ∧ s' = s1)
    (k2 : (decide (x.i = s1.i) && !s1.stop x) = true → 65536 < sizeL s3.l → T = [] ∧ ok = false ∧ er = 3 ∧ s' = Js.over x.i)
    (k3 : (decide (x.i = s1.i) && !s1.stop x) = true → ¬ 65536 < sizeL s3.l → (s3.must = 0 ∨ s3.l.length < s3.must) → T = [] ∧ ok = false ∧ er = 0 ∧ s' = s3)
    (k4 : (decide (x.i = s1.i) && !s1.stop x) = true → ¬ 65536 < sizeL s3.l → ¬ (s3.must = 0 ∨ s3.l.length < s3.must) → T = s3.whole s3.must ∧ ok = true ∧ er = 0 ∧ s' = Js.over x.i) :
    Calls Try.prog 20 #[.pointer (some ⟨g, 0, none⟩), pcV x p c] w fun e w' => ∃ q d, e = .returned (.tuple #[.slice q T.length d, .bool ok, .int .i64 er]) ∧ OB w' w.heap.size q T ∧ (∃ q ks, PJ w' g s'.i s'.done (s'.must : Int) q ks ∧ ks.map Pk.x = s'.l ∧ ∀ k ∈ ks, Av k) ∧ w.grownBy w' (some g) := by
  have A1 : Hid (PS Av w (w.alloc (Obj.cells #[.int .u64 (x.i : Int), .int .i64 x.a, .bool x.l, .slice p x.b.length c] 25)) g s x p c) := ⟨by obtain ⟨⟨q, ks, h1, h2, h3⟩, _⟩ := h; exact ⟨q, ks, h1.kept (pc_box w x p c).2, h2, h3⟩, (pc_box w x p c).1, ht.kept (pc_box w x p c).2, below_grown (pc_box w x p c).2 _⟩
  have HM : Hid (∀ v : World, Calls Try.prog 25 #[pcV x p c] v fun e w' => e = .returned (.int .i64 0) ∧ Below v.heap.size v w') := fun v => by
    have := fault_any x p c v
    rwa [hE] at this
  have HNO := hide h.2
  have HAV := hide hAv
  have HS1 := hide hs1
  have HS3 := hide hs3
  have HAP := hide ha
  have HFT := hide (meet_fits hf x)
  have HB3 := hide (bound_fits (meet_fits hf x) x hE)
  rw [hs1] at HFT HB3
  rw [hs3] at HB3
  have HGW : Hid (g < w.heap.size) := by obtain ⟨⟨q, ks, h1, _⟩, _⟩ := h; exact h1.j.lt
  have K1 := hide k1
  have K2 := hide k2
  have K3 := hide k3
  have K4 := hide k4
  have HE := hide hE
  clear h hAv ht hE ha hs1 hs3 hf k1 k2 k3 k4
  go_enter Try.func20, Try.ntmps20
  go_upto_region 1 with fail
  generalize w.alloc (Obj.cells #[.int .u64 (x.i : Int), .int .i64 x.a, .bool x.l, .slice p x.b.length c] 25) = w1 at *
  go_wp2_with (refine wpList_exec (by rfl) _ (exec_load_all 25 (.tmp 3) rfl w.heap.size rfl 25 (pcC x p c) _ A1.out.b Try.underlying25 rfl infoPc) ?_)
  refine (HM.out w1).mono ?_
  rintro e w2 ⟨rfl, hb⟩
  have A2 := hide (A1.out.kept hb)
  clear hb A1 HM
  have b0 := A2.out.b.cell 0
  have j0 : w2.cell? ⟨g, 0, none⟩ = some (.int .u64 (s.i : Int)) := by obtain ⟨q, ks, h1, _⟩ := A2.out.j; exact h1.j.cell 0
  simp only [List.getElem?_cons_zero] at b0
  go_upto_region 6 with fail
  refine wp_region_held_drew (S := fun v => Hid (v = w2.drew)) (by kernel_rfl) (hide rfl) (fun hHeld => ?_)
  refine take_dstH (i := 0) (d := 18) (v := ?_) rfl rfl (by kernel_rfl) (by kernel_rfl) (by kernel_rfl) (fun _ _ _ h => h) (by rfl) hHeld ?_ ?_
  rotate_left
  · intro wZ hSw; clear hSw; go_simp; first | (with_reducible rfl) | (rw [if_pos (by omega)]; with_reducible rfl) | skip
  try simp only [Act.put, List.setIfInBounds_toArray, List.set_cons_zero, List.set_cons_succ]
  refine take_dstH (i := 1) (d := 19) (v := ?_) rfl rfl (by kernel_rfl) (by kernel_rfl) (by kernel_rfl) (fun _ _ _ h => h) (by rfl) hHeld ?_ ?_
  rotate_left
  · intro wZ hSw; have hfS := (fun (v : World) (hv : Hid (v = w2.drew)) => show v.cell? ⟨w.heap.size, 0, none⟩ = some (.int .u64 (x.i : Int)) from by rw [hv.out]; exact b0) wZ hSw; clear hSw; go_simp; first | (with_reducible rfl) | (rw [if_pos (by omega)]; with_reducible rfl) | skip
  try simp only [Act.put, List.setIfInBounds_toArray, List.set_cons_zero, List.set_cons_succ]
  refine take_dstH (i := 2) (d := 20) (v := ?_) rfl rfl (by kernel_rfl) (by kernel_rfl) (by kernel_rfl) (fun _ _ _ h => h) (by rfl) hHeld ?_ ?_
  rotate_left
  · intro wZ hSw; clear hSw; go_simp; first | (with_reducible rfl) | (rw [if_pos (by omega)]; with_reducible rfl) | skip
  try simp only [Act.put, List.setIfInBounds_toArray, List.set_cons_zero, List.set_cons_succ]
  refine take_dstH (i := 3) (d := 21) (v := ?_) rfl rfl (by kernel_rfl) (by kernel_rfl) (by kernel_rfl) (fun _ _ _ h => h) (by rfl) hHeld ?_ ?_
  rotate_left
  · intro wZ hSw; clear hSw; go_simp; first | (with_reducible rfl) | (rw [if_pos (by omega)]; with_reducible rfl) | skip
  try simp only [Act.put, List.setIfInBounds_toArray, List.set_cons_zero, List.set_cons_succ]
  refine take_dstH (i := 4) (d := 22) (v := ?_) rfl rfl (by kernel_rfl) (by kernel_rfl) (by kernel_rfl) (fun _ _ _ h => h) (by rfl) hHeld ?_ ?_
  rotate_left
  · intro wZ hSw; clear hSw; go_simp; first | (with_reducible rfl) | (rw [if_pos (by omega)]; with_reducible rfl) | skip
  try simp only [Act.put, List.setIfInBounds_toArray, List.set_cons_zero, List.set_cons_succ]
  refine take_dstH (i := 5) (d := 23) (v := ?_) rfl rfl (by kernel_rfl) (by kernel_rfl) (by kernel_rfl) (fun _ _ _ h => h) (by rfl) hHeld ?_ ?_
  rotate_left
  · intro wZ hSw; have hfS := (fun (v : World) (hv : Hid (v = w2.drew)) => show v.cell? ⟨g, 0, none⟩ = some (.int .u64 (s.i : Int)) from by rw [hv.out]; exact j0) wZ hSw; clear hSw; go_simp; first | (with_reducible rfl) | (rw [if_pos (by omega)]; with_reducible rfl) | skip
  try simp only [Act.put, List.setIfInBounds_toArray, List.set_cons_zero, List.set_cons_succ]
  refine take_dstH (i := 6) (d := 24) (v := ?_) rfl rfl (by kernel_rfl) (by kernel_rfl) (by kernel_rfl) (fun _ _ _ h => h) (by rfl) hHeld ?_ ?_
  rotate_left
  · intro wZ hSw; clear hSw; go_simp; first | (with_reducible rfl) | (rw [if_pos (by omega)]; with_reducible rfl) | skip
  try simp only [Act.put, List.setIfInBounds_toArray, List.set_cons_zero, List.set_cons_succ]
  refine wpAnyH_done (by kernel_rfl) ?_ _
  have A3 := hide (A2.out.kept (Below.refl _ _).drew)
  have b0' := A3.out.b.cell 0
  simp only [List.getElem?_cons_zero] at b0'
  clear b0 j0 A2
  go_upto_if 24 with fail
  go_cut [25] (fun _ wc => Hid (PS Av w wc g s1 x p c))
  case first =>
    by_cases hi : s.i < x.i
    · have e : s1 = ⟨true, false, x.i, 0, []⟩ := by rw [← HS1.out, Js.meet, if_pos (Or.inr hi)]
      have hi' : (s.i : Int) < (x.i : Int) := by omega
      have HI := hide e
      obtain ⟨cs, hl, hA⟩ := A3.out.arr
      have HL := hide hl
      have HA := hide hA
      clear hl hA hi e
      go_wp2_with (refine wpList_store_row rfl 55 _ _ rfl g #[.int .u64 (x.i : Int), .bool false, .int .i64 0, .map none] rfl rfl 55 cs.toArray HA.out infoFJ (by simp [HL.out]) (one_fj _ _ _ _) ?_)
      go_meet
      case rel => rw [HI.out]; exact A3.out.set HAP.out HGW.out false x.i
    · have e : s1 = s ∨ s1 = ⟨true, false, 0, 0, []⟩ ∧ s = Js.none := by
        rw [← HS1.out, Js.meet]
        by_cases hm : s.met = false
        · right
          have h0 := HNO.out hm
          rw [if_pos (Or.inl hm)]
          refine ⟨?_, h0⟩
          have : x.i = 0 := by rw [h0] at hi; simp only [Js.none] at hi; omega
          rw [this]
        · left
          rw [if_neg (fun h => h.elim hm hi)]
      have hi' : ¬ (s.i : Int) < (x.i : Int) := by omega
      have HI := hide e
      clear hi e
      go_wp2
      go_meet
      case rel =>
        rcases HI.out with e | ⟨e, e0⟩
        · rw [e]; exact A3.out
        · rw [e]
          have := A3.out
          rw [e0] at this
          exact ⟨this.j, this.b, this.t, this.w⟩
  case rest =>
    have A4 := hide hcut.out
    clear hcut A3 b0' HNO HAP HS1
    obtain ⟨r, hr⟩ : ∃ r, (decide (x.i = s1.i) && !s1.stop x) = r := ⟨_, rfl⟩
    rw [hr] at K1 K2 K3 K4
    obtain ⟨q, ks, hj, hmap, hav⟩ := A4.out.j
    have HJ := hide hj
    have HMAP := hide hmap
    have HOLD := hide hav
    have HR := hide hr
    have HWN := hide (wants_of wc g s1.i s1.must c s1.done r _ _ q ks x p hj HE.out rfl rfl (by
      rw [← hr, Js.stop, ← has_map s1 ks x.a hmap]
      have h1 : decide (s1.must = 0) = !decide (0 < s1.must) := by rw [Bool.eq_iff_iff]; simp
      have h2 : decide (x.a < (s1.must : Int)) = !decide ((s1.must : Int) ≤ x.a) := by rw [Bool.eq_iff_iff]; simp
      rw [h1, h2]
      cases decide (x.i = s1.i) <;> cases s1.done <;> cases s1.has x.a <;> cases decide (0 < s1.must) <;> cases decide ((s1.must : Int) ≤ x.a) <;> rfl))
    clear hj hmap hav hr
    go_wp2_with (refine wpList_exec (by rfl) _ (exec_load_all 25 (.tmp 3) rfl w.heap.size rfl 25 (pcC x p c) _ A4.out.b Try.underlying25 rfl infoPc) ?_)
    refine HWN.out.mono ?_
    rintro e w5 ⟨rfl, hb⟩
    have A5 := hide (A4.out.kept hb)
    have J5 := hide (HJ.out.kept hb)
    clear hb A4 HJ HWN
    cases r
    · go_wp2
      go_ret3
      obtain ⟨hT, hok, her, hs'⟩ := K1.out (by first | rfl | trivial)
      exact ⟨none, 0, ret_put ⟨hT, hok, her⟩, by rw [hT]; exact ob_none _ _, by rw [hs']; exact A5.out.j, A5.out.w⟩
    · clear K1
      have HI : Hid (x.i = s1.i ∧ findP ks x.a = none) := by
        have h1 := HR.out
        simp only [Bool.and_eq_true, decide_eq_true_eq, Bool.not_eq_true'] at h1
        refine ⟨h1.1, ?_⟩
        have h2 := h1.2
        rw [Js.stop, has_map s1 ks x.a HMAP.out] at h2
        cases hf : findP ks x.a with
        | none => rfl
        | some k => rw [hf] at h2; simp at h2
      have HHD := hide (hold_any w5 g s1.i s1.must c ks.length s1.done q ks x p J5.out HE.out A5.out.t HI.out.2 rfl (by have h1 := HFT.out.2.2; have h2 := len_map HMAP.out; omega))
      clear J5 HR
      go_wp2_with (refine wpList_exec (by rfl) _ (exec_load_all 25 (.tmp 3) rfl w.heap.size rfl 25 (pcC x p c) _ A5.out.b Try.underlying25 rfl infoPc) ?_)
      refine HHD.out.mono ?_
      rintro e w6 ⟨rfl, hg, b, pb, cb, hj, hpb⟩
      have AV3 : Hid (∀ k ∈ bndK (ks ++ [Pk.mk x pb cb]) s1.must x, Av k) := fun k hk => by
        rcases List.mem_append.1 (bndK_mem hk) with h | h
        · exact HOLD.out k h
        · simp at h
          subst h
          exact HAV.out pb cb (fun a ha hn => Nat.le_trans A5.out.w.size (hpb a ha hn))
      clear hpb HOLD
      obtain ⟨hm1, hm2⟩ := bnd_map HMAP.out (Pk.mk x pb cb)
      simp only at hm1 hm2
      rw [hm2] at hj
      generalize bndK (ks ++ [Pk.mk x pb cb]) s1.must x = ks3 at *
      have hid3 := bound_id s1 x
      rw [HS3.out] at hm1 hj hid3
      rw [← hid3.1, ← hid3.2] at hj
      have HID := hide hid3
      have J6 := hide hj
      have M6 := hide hm1
      have G6 := hide (grown_trans A5.out.w hg)
      clear hj hm1 hm2 hg hid3 HHD A5 HMAP
      have HPH := hide (pheld_any w6 g s3.i _ _ s3.done s3.must (some b) ks3 J6.out (len_map M6.out) ((sum_map ks3).trans (by rw [M6.out])) (by have := HB3.out.1; omega))
      obtain ⟨S, hS⟩ : ∃ S, sizeL s3.l = S := ⟨_, rfl⟩
      obtain ⟨N, hN⟩ : ∃ N, s3.l.length = N := ⟨_, rfl⟩
      obtain ⟨M, hM⟩ : ∃ M, s3.must = M := ⟨_, rfl⟩
      have HSS := hide hS
      have HMM := hide hM
      rw [hS, hN, hM] at K3 K4
      rw [hS] at K2
      rw [hS, hM] at HB3
      simp only [hS, hN] at HPH
      rw [hM] at J6
      clear hS hN hM
      have hsz : (S : Int) ≤ 66636 := by have := HB3.out.1; omega
      have hM2 : M ≤ 256 := HB3.out.2.1
      go_wp2_with fail
      refine HPH.out.mono ?_
      rintro e w7 ⟨rfl, hb⟩
      have J7 := hide (J6.out.kept hb)
      have G7 := hide (grown_trans G6.out (below_grown hb _))
      have HOB : Hid (Js.over x.i = ⟨true, true, s3.i, 0, []⟩) := by show _ = _; rw [Js.over, HID.out.1, HI.out.1]
      clear hb J6 G6 HPH
      by_cases hS : 65536 < S
      · have hS' : (65536 : Int) < (S : Int) := by omega
        have HK := hide (K2.out (by first | rfl | trivial) hS)
        clear K2 K3 K4 hS
        go_wp2_with fail
        refine (finish_any g s3.i s3.done (M : Int) (some b) w7 J7.out.j).mono ?_
        rintro e w8 ⟨rfl, rfl⟩
        go_wp2
        go_ret3
        obtain ⟨hT, hok, her, hs'⟩ := HK.out
        refine ⟨none, 0, by rw [hT, hok, her]; rfl, by rw [hT]; exact ob_none _ _, ⟨none, [], ?_, ?_, fun k hk => by cases hk⟩, grown_trans G7.out (grown_setRow _ _ _)⟩
        · rw [hs', HOB.out]; exact J7.out.set true s3.i
        · rw [hs', HOB.out]; rfl
      · have hS' : ¬ (65536 : Int) < (S : Int) := by omega
        have HK3 := hide (K3.out (by first | rfl | trivial) hS)
        have HK4 := hide (K4.out (by first | rfl | trivial) hS)
        have j2 := J7.out.j.cell 2
        simp only [List.getElem?_cons_zero, List.getElem?_cons_succ] at j2
        clear K2 K3 K4 hS
        by_cases hq : M = 0 ∨ N < M
        · obtain ⟨hT, hok, her, hs'⟩ := HK3.out hq
          have HR := hide (And.intro hT (And.intro hok (And.intro her hs')))
          clear HK3 HK4 hT hok her hs'
          have hq' : ((M : Int) == 0) = true ∨ ((M : Int) == 0) = false ∧ (N : Int) < (M : Int) := by
            by_cases h0 : M = 0
            · left; rw [h0]; rfl
            · right
              refine ⟨by simpa using h0, by omega⟩
          clear hq
          rcases hq' with h0 | ⟨h0, h1⟩
          all_goals
            go_wp2
            go_ret3
            obtain ⟨hT, hok, her, hs'⟩ := HR.out
            refine ⟨none, 0, ret_put ⟨hT, hok, her⟩, by rw [hT]; exact ob_none _ _, ⟨some b, ks3, ?_, ?_, AV3.out⟩, G7.out⟩
            · rw [hs', HMM.out]; exact J7.out
            · rw [hs']; exact M6.out
        · have HR := hide (HK4.out hq)
          have h0 : ((M : Int) == 0) = false := by simp; omega
          have h1 : ¬ (N : Int) < (M : Int) := by omega
          have HW := hide (whole_map M6.out M)
          clear HK3 HK4 hq
          obtain ⟨L, hL⟩ : ∃ L, (whP ks3 M).length = L := ⟨_, rfl⟩
          have HL := hide hL
          have hL2 : L ≤ 100000000 := by
            have h1 := whP_bound ks3 M
            rw [HL.out, sum_map, M6.out, HSS.out] at h1
            have h2 : M * S ≤ 256 * 66636 := Nat.mul_le_mul hM2 (by omega)
            omega
          have HTX := hide (text_any w7 g s3.i M S L s3.done (some b) ks3 J7.out hM2 (by omega) hL hL2)
          clear hL
          go_wp2_with fail
          refine HTX.out.mono ?_
          rintro e w8 ⟨v, rfl, ho, hb⟩
          obtain ⟨pq, d, rfl, hpc, hob⟩ := own_both ho HL.out (whP_bytes J7.out.e M)
          have HPC := hide hpc
          have HOB8 := hide hob
          have J8 := hide (J7.out.kept hb)
          have G8 := hide (grown_trans G7.out (below_grown hb _))
          clear ho hb hpc hob HTX j2
          go_wp2_with fail
          refine (finish_any g s3.i s3.done (M : Int) (some b) w8 J8.out.j).mono ?_
          rintro e w9 ⟨rfl, rfl⟩
          go_wp2
          go_ret3
          obtain ⟨hT, hok, her, hs'⟩ := HR.out
          have hTw : T = whP ks3 M := hT.trans HW.out.symm
          refine ⟨pq, d, by rw [hok, her, hTw, HL.out]; rfl, ?_, ⟨none, [], ?_, ?_, fun k hk => by cases hk⟩, grown_trans G8.out (grown_setRow _ _ _)⟩
          · rw [hTw]
            exact (HOB8.out.keptR (grown_setRow _ _ _) J8.out.j (by decide)).from G7.out.size
          · rw [hs', HOB.out]; exact J8.out.set true s3.i
          · rw [hs', HOB.out]; rfl

theorem meet_met (s : Js) (x : Pc) : (s.meet x).met = true := by
  unfold Js.meet
  split
  · rfl
  · rename_i h
    cases hm : s.met
    · exact (h (Or.inl hm)).elim
    · rfl
theorem bound_met (s : Js) (x : Pc) : ((s.hold x).bound x).met = s.met := by
  unfold Js.bound
  split <;> rfl
theorem next_met {s : Js} {x : Pc} (hx : x.e = 0) : (s.next x).met = true := by
  unfold Js.next
  rw [if_neg (by simpa using hx)]
  split
  · rename_i h; exact h.1
  split
  · exact meet_met s x
  split
  · rfl
  split
  · rw [bound_met]; exact meet_met s x
  · rfl

theorem tell_low {s : Js} {x : Pc} (hx : x.e = 0) (hl : s.met = true ∧ x.i < s.i) : s.tell x = ([], false, 0) ∧ s.next x = s := by
  constructor
  · unfold Js.tell; rw [if_neg (show ¬ x.e ≠ 0 from fun h => h hx), if_pos hl]
  · unfold Js.next; rw [if_neg (show ¬ x.e ≠ 0 from fun h => h hx), if_pos hl]
theorem tell_stop {s : Js} {x : Pc} (hx : x.e = 0) (hl : ¬ (s.met = true ∧ x.i < s.i)) (hs : (s.meet x).stop x = true) : s.tell x = ([], false, 0) ∧ s.next x = s.meet x := by
  constructor
  · unfold Js.tell; rw [if_neg (show ¬ x.e ≠ 0 from fun h => h hx), if_neg hl, if_pos hs]
  · unfold Js.next; rw [if_neg (show ¬ x.e ≠ 0 from fun h => h hx), if_neg hl, if_pos hs]
theorem tell_much {s : Js} {x : Pc} (hx : x.e = 0) (hl : ¬ (s.met = true ∧ x.i < s.i)) (hs : (s.meet x).stop x = false) (hz : 65536 < sizeL (((s.meet x).hold x).bound x).l) : s.tell x = ([], false, 3) ∧ s.next x = Js.over x.i := by
  constructor
  · unfold Js.tell; rw [if_neg (show ¬ x.e ≠ 0 from fun h => h hx), if_neg hl, if_neg (show ¬ (s.meet x).stop x = true by rw [hs]; simp), if_pos hz]
  · unfold Js.next; rw [if_neg (show ¬ x.e ≠ 0 from fun h => h hx), if_neg hl, if_neg (show ¬ (s.meet x).stop x = true by rw [hs]; simp), if_pos hz]
theorem tell_some {s : Js} {x : Pc} (hx : x.e = 0) (hl : ¬ (s.met = true ∧ x.i < s.i)) (hs : (s.meet x).stop x = false) (hz : ¬ 65536 < sizeL (((s.meet x).hold x).bound x).l)
    (hq : (((s.meet x).hold x).bound x).must = 0 ∨ (((s.meet x).hold x).bound x).l.length < (((s.meet x).hold x).bound x).must) : s.tell x = ([], false, 0) ∧ s.next x = ((s.meet x).hold x).bound x := by
  constructor
  · unfold Js.tell; rw [if_neg (show ¬ x.e ≠ 0 from fun h => h hx), if_neg hl, if_neg (show ¬ (s.meet x).stop x = true by rw [hs]; simp), if_neg hz, if_pos hq]
  · unfold Js.next; rw [if_neg (show ¬ x.e ≠ 0 from fun h => h hx), if_neg hl, if_neg (show ¬ (s.meet x).stop x = true by rw [hs]; simp), if_neg hz, if_pos hq]
theorem tell_all {s : Js} {x : Pc} (hx : x.e = 0) (hl : ¬ (s.met = true ∧ x.i < s.i)) (hs : (s.meet x).stop x = false) (hz : ¬ 65536 < sizeL (((s.meet x).hold x).bound x).l)
    (hq : ¬ ((((s.meet x).hold x).bound x).must = 0 ∨ (((s.meet x).hold x).bound x).l.length < (((s.meet x).hold x).bound x).must)) : s.tell x = ((((s.meet x).hold x).bound x).whole (((s.meet x).hold x).bound x).must, true, 0) ∧ s.next x = Js.over x.i := by
  constructor
  · unfold Js.tell; rw [if_neg (show ¬ x.e ≠ 0 from fun h => h hx), if_neg hl, if_neg (show ¬ (s.meet x).stop x = true by rw [hs]; simp), if_neg hz, if_neg hq]
  · unfold Js.next; rw [if_neg (show ¬ x.e ≠ 0 from fun h => h hx), if_neg hl, if_neg (show ¬ (s.meet x).stop x = true by rw [hs]; simp), if_neg hz, if_neg hq]
theorem tell_err {s : Js} {x : Pc} (hx : x.e ≠ 0) : s.tell x = ([], false, x.e) ∧ s.next x = s := by
  constructor
  · unfold Js.tell; rw [if_pos hx]
  · unfold Js.next; rw [if_pos hx]
theorem meet_low {s : Js} {x : Pc} (hl : s.met = true ∧ x.i < s.i) : s.meet x = s := by
  refine if_neg ?_
  rintro (h0 | h0)
  · rw [hl.1] at h0; cases h0
  · have := hl.2; omega
theorem meet_id {s : Js} {x : Pc} (hl : ¬ (s.met = true ∧ x.i < s.i)) : (s.meet x).i = x.i := by
  unfold Js.meet
  split
  · rfl
  · rename_i h2
    have hm : s.met = true := by
      cases hm : s.met
      · exact (h2 (Or.inl hm)).elim
      · rfl
    have h3 : ¬ s.i < x.i := fun e => h2 (Or.inr e)
    have h4 : ¬ x.i < s.i := fun e => hl ⟨hm, e⟩
    omega

/-- .. and what is said of each piece that is held -/
theorem put_av (Av : Pk → Prop) (w : World) (g c n : Nat) (s : Js) (x : Pc) (p : Option Addr) (h : (∃ q ks, PJ w g s.i s.done (s.must : Int) q ks ∧ ks.map Pk.x = s.l ∧ ∀ k ∈ ks, Av k) ∧ (s.met = false → s = Js.none)) (hAv : ∀ pb cb, (∀ a, pb = some a → x.b ≠ [] → w.heap.size ≤ a.block) → Av ⟨x, pb, cb⟩) (ht : Piece w p c x.b) (ha : Apt p x.b g) (hf : s.fits n) (hn : n ≤ 5000) :
    Calls Try.prog 20 #[.pointer (some ⟨g, 0, none⟩), pcV x p c] w fun e w' => ∃ q d, e = .returned (.tuple #[.slice q (s.tell x).1.length d, .bool (s.tell x).2.1, .int .i64 (s.tell x).2.2]) ∧ OB w' w.heap.size q (s.tell x).1 ∧ ((∃ q ks, PJ w' g (s.next x).i (s.next x).done ((s.next x).must : Int) q ks ∧ ks.map Pk.x = (s.next x).l ∧ ∀ k ∈ ks, Av k) ∧ ((s.next x).met = false → s.next x = Js.none)) ∧ w.grownBy w' (some g) := by
  by_cases hx : x.e = 0
  · have key : (decide (x.i = (s.meet x).i) && !(s.meet x).stop x) = true → ¬ (s.met = true ∧ x.i < s.i) ∧ (s.meet x).stop x = false := by
      intro h
      simp only [Bool.and_eq_true, decide_eq_true_eq, Bool.not_eq_true'] at h
      refine ⟨fun hh => ?_, h.2⟩
      have h1 := h.1
      rw [meet_low hh] at h1
      have := hh.2
      omega
    refine (put_more Av w g c n s _ _ (s.next x) x p (s.tell x).1 (s.tell x).2.1 (s.tell x).2.2 h hAv ht hx ha rfl rfl hf hn ?_ ?_ ?_ ?_).mono ?_
    · intro h
      simp only [Bool.and_eq_false_iff, decide_eq_false_iff_not, Bool.not_eq_false'] at h
      by_cases hl : s.met = true ∧ x.i < s.i
      · obtain ⟨h1, h2⟩ := tell_low hx hl
        rw [h1, h2, meet_low hl]
        exact ⟨rfl, rfl, rfl, rfl⟩
      · have hst : (s.meet x).stop x = true := by
          rcases h with h | h
          · exact (h (meet_id hl).symm).elim
          · exact h
        obtain ⟨h1, h2⟩ := tell_stop hx hl hst
        rw [h1, h2]
        exact ⟨rfl, rfl, rfl, rfl⟩
    · intro h hz
      obtain ⟨h1, h2⟩ := tell_much hx (key h).1 (key h).2 hz
      rw [h1, h2]
      exact ⟨rfl, rfl, rfl, rfl⟩
    · intro h hz hq
      obtain ⟨h1, h2⟩ := tell_some hx (key h).1 (key h).2 hz hq
      rw [h1, h2]
      exact ⟨rfl, rfl, rfl, rfl⟩
    · intro h hz hq
      obtain ⟨h1, h2⟩ := tell_all hx (key h).1 (key h).2 hz hq
      rw [h1, h2]
      exact ⟨rfl, rfl, rfl, rfl⟩
    · rintro e w' ⟨q, d, he, hb, hj, hg⟩
      exact ⟨q, d, he, hb, ⟨hj, fun h0 => by rw [next_met hx] at h0; cases h0⟩, hg⟩
  · obtain ⟨e1, e2⟩ := tell_err (s := s) hx
    rw [e1, e2]
    refine (put_no Av w g c s x p h hx).mono ?_
    rintro e w' ⟨rfl, hp, hg⟩
    exact ⟨none, 0, rfl, ob_none _ _, hp, hg⟩

theorem put_any (w : World) (g c n : Nat) (s : Js) (x : Pc) (p : Option Addr) (h : PP w g s) (ht : Piece w p c x.b) (ha : Apt p x.b g) (hf : s.fits n) (hn : n ≤ 5000) :
    Calls Try.prog 20 #[.pointer (some ⟨g, 0, none⟩), pcV x p c] w fun e w' => ∃ q d, e = .returned (.tuple #[.slice q (s.tell x).1.length d, .bool (s.tell x).2.1, .int .i64 (s.tell x).2.2]) ∧ OB w' w.heap.size q (s.tell x).1 ∧ PP w' g (s.next x) ∧ w.grownBy w' (some g) := by
  obtain ⟨⟨q, ks, h1, h2⟩, h3⟩ := h
  refine (put_av (fun _ => True) w g c n s x p ⟨⟨q, ks, h1, h2, fun _ _ => trivial⟩, h3⟩ (fun _ _ _ => trivial) ht ha hf hn).mono ?_
  rintro e w' ⟨q', d, he, ho, ⟨⟨q2, ks2, h4, h5, _⟩, h6⟩, hg⟩
  exact ⟨q', d, he, ho, ⟨⟨q2, ks2, h4, h5⟩, h6⟩, hg⟩

end Go.Proofs.Ytecpnnnkkofejaa
