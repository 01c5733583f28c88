/-
  FragCuts: any text's pieces are the document's, or refused alike, and keep nothing of the text: the law returns true. No condition.
-/
import Derived.Test.YtecpnnnkkofejaaGU
import Derived.Test.YtecpnnnkkofejaaBT
namespace Go.Proofs.Ytecpnnnkkofejaa
namespace FragCutsProof
open Go.ChangeShapes Go.WideShapes Go.ChangeAt Go.WideMaps Go.WideElems Go.RowKit Go.Maps
set_option linter.unusedVariables false
set_option linter.unusedSimpArgs false

set_option maxHeartbeats 4000000 in
set_option maxRecDepth 100000 in
theorem walk_of (i N n c : Nat) (E s : Int) (X : Nat → Pc) (p : Option Addr) (xs : List Nat) (w : World) (hx : Piece w p c xs) (hn : xs.length = n) (hN : N ≤ 256)
    (hC : ∀ (v : World) (q : Option Addr) (d : Nat), Piece v q d xs → Calls Try.prog 16 #[.int .u64 (i : Int), .slice q n d, .int .i64 s] v fun e w' => ∃ lp ld, e = .returned (.tuple #[.slice lp N ld, .int .i64 E]) ∧ RowB w' v.heap.size lp N X ∧ Below v.heap.size v w')
    (hR : ∀ v : World, Piece v p c xs → Calls Try.prog 17 #[.int .u64 (i : Int), .slice p n c, .int .i64 s] v fun e w' => ∃ lp ld, e = .returned (.tuple #[.slice lp N ld, .int .i64 E]) ∧ RowR w' lp N X ∧ Below v.heap.size v w') :
    Calls Try.prog 4 #[.int .u64 (i : Int), .slice p n c, .int .i64 s] w fun e w' => e = .returned (.bool true) ∧ Below w.heap.size w w' := by
  have HK := hide (known_any w)
  have HX := hide hx
  have HN := hide hn
  have HC := hide hC
  have HR := hide hR
  clear hx hn hC hR
  by_cases hbig : (70000 : Int) < (n : Int)
  · go_enter Try.func4, Try.ntmps4
    go_wp2_with fail
    refine HK.out.mono ?_
    rintro e w1 ⟨rfl, hb⟩
    go_wp2
    go_ret
    exact ⟨rfl, hb⟩
  · have hn7 : n ≤ 70000 := by omega
    go_enter Try.func4, Try.ntmps4
    go_wp2_with fail
    refine HK.out.mono ?_
    rintro e w1 ⟨rfl, hb⟩
    have O1 : Hid ((w1.alloc (.cells #[] 5)).ownsRow w1.heap.size 5 1 (.slice (some ⟨w1.heap.size, 0, none⟩) 0 0) 0 (u8s []) ∧ Below w1.heap.size w1 (w1.alloc (.cells #[] 5))) := ⟨World.ownsRow_made w1 #[] 0 (Nat.le_refl _) (Nat.zero_le _) rfl, (Below.refl _ _).alloc (Nat.le_refl _) _⟩
    have B1 := hide hb
    have X1 := hide (HX.out.kept (hb.trans (O1.out.2.mono hb.size)))
    clear hb HK
    go_wp2_with (at_builtin; refine wpList_append_bytes rfl (.tmp 19) (.tmp 20) rfl w1.heap.size _ [] rfl 0 rfl O1.out.1 p n c xs HN.out rfl X1.out.1 X1.out.2.1 ?g1 O1.out.2.size ?_)
    case g1 => omega
    intro v2 w2 ho hg
    obtain ⟨op, dp, rfl, hq, _⟩ := own_both ho HN.out X1.out.2.2.1
    have O2 := hide ho
    have P2 := hide hq
    have B2 : Hid (Below w.heap.size w w2) := B1.out.trans (((O1.out.2).grown hg O1.out.2.size (fun k hk => (O1.out.1.lt k hk).1)).mono B1.out.size)
    have HW1 := hide B1.out.size
    clear ho hg hq O1 X1
    go_wp2_with fail
    refine (HC.out w2 op dp P2.out).mono ?_
    rintro e w3 ⟨lp, ld, rfl, hrow, hb⟩
    have R3 := hide hrow
    have O3 := hide (own_below O2.out hb)
    have B3 := hide (B2.out.trans (hb.mono B2.out.size))
    clear hrow hb P2 HC
    go_wp2_with fail
    go_loopg [10] (n + 1) (fun f s10 wr => ∃ (j : Nat) (ys : List Nat), s10 = .int .i64 (j : Int) ∧ j ≤ n ∧ n - j < f ∧ Hid (wr.ownsRow w1.heap.size 5 1 (.slice op n dp) n (u8s ys)) ∧ Hid (w3.grownBy wr (Value.slice op n dp).ownBlock))
    case atStart => exact ⟨0, xs, rfl, by omega, by omega, O3, grown_refl _ _⟩
    case round =>
      obtain ⟨j, ys, rfl, hj, hf, HO, HG⟩ := hrel
      by_cases hjn : j < n
      · obtain ⟨g, cap, hv, _⟩ := own_shape HO.out (by omega)
        cases hv
        have hyl : ys.length = n := by have := HO.out.1; simpa [u8s] using this
        have c1 := HO.out.cellAt j (by omega)
        have f1 := HO.out.frozenAt j
        rw [u8s_at (by omega)] at c1
        have hst := hide (fun u => HO.out.stored j u)
        generalize ys.getD j 0 = y at *
        have hw : IntKind.u8.wrap ((y : Int) + 1) = (((y + 1) % 256 : Nat) : Int) := by
          rw [(show ∀ n : Int, IntKind.u8.wrap n = n % 256 from fun n => by simp [IntKind.wrap, IntKind.bits, IntKind.signed])]
          omega
        obtain ⟨z, hz⟩ : ∃ z, (y + 1) % 256 = z := ⟨_, rfl⟩
        rw [hz] at hw
        clear hz hyl
        go_wp2
        go_roundg (n - j)
        case measure => omega
        case rel =>
          refine ⟨j + 1, ys.set j z, by simp, by omega, by omega, ?_, ?_⟩
          · have h := hst.out (.int .u8 (z : Int))
            rw [u8s_set] at h
            exact h.1
          · exact grown_trans HG.out ⟨rfl, rfl, rfl, by simp, fun k _ hk => heap_setCell_other wr ⟨g, j, none⟩ k _ (fun e => hk (by simp [Value.ownBlock, e]))⟩
      · have hlo : ∀ k, (Value.slice op n dp).ownBlock = some k → k < w2.heap.size := fun k hk => (O2.out.lt k hk).2
        have R4 := hide (R3.out.low HG.out hlo)
        have B4 : Hid (Below w.heap.size w wr) := B3.out.grown HG.out B3.out.size (fun k hk => Nat.le_trans HW1.out (O3.out.lt k hk).1)
        clear hlo HG HO O2 O3 R3 B3 B2
        go_wp2_with fail
        refine (HR.out wr (HX.out.kept B4.out)).mono ?_
        rintro e w5 ⟨rp, rd, rfl, hrow, hb⟩
        have R5 := hide (R4.out.kept hb)
        have Q5 := hide hrow
        have B5 := hide (B4.out.trans (hb.mono B4.out.size))
        clear hrow hb R4 B4 HR
        go_wp2_with fail
        go_loopg [13] (N + 1) (fun f s13 wt => ∃ (m : Nat), s13 = .int .i64 (m : Int) ∧ m ≤ N ∧ N - m < f ∧ Hid (Below w5.heap.size w5 wt))
        case atStart => exact ⟨0, rfl, by omega, by omega, Below.refl _ _⟩
        case round =>
          obtain ⟨m, rfl, hm, hf, HB⟩ := hrel
          by_cases hmN : m < N
          · obtain ⟨g1, ⟨x1, p1, c1⟩, rfl, r1, e1, b1⟩ := (R5.out.kept HB.out) m hmN
            obtain ⟨g2, ⟨x2, p2, c2⟩, rfl, r2, e2, b2⟩ := (Q5.out.kept HB.out) m hmN
            simp only at e1 e2
            subst e1 e2
            have RA := hide r1
            have RB := hide r2
            have BA := hide b1
            have BB := hide b2
            have HS := hide (fun v => same_any (X m) (X m) p1 p2 c1 c2 v)
            rw [Pc.same_self] at HS
            clear r1 r2 b1 b2
            go_upto_region 17 with fail
            refine wp_region_held_drew (S := fun v => Hid (Below wr.heap.size wr v)) (by kernel_rfl) (hide (Below.refl _ _).drew) (fun hHeld => ?_)
            refine take_dstH (i := 0) (d := 64) (v := ?_) rfl rfl (by kernel_rfl) (by kernel_rfl) (by kernel_rfl) (fun _ _ _ h => h) (by rfl) hHeld ?_ ?_
            rotate_left
            · intro wZ hSw; clear hSw; go_simp; first | (with_reducible rfl) | (rw [if_pos (by omega)]; with_reducible rfl) | skip
            try simp only [Act.put, List.setIfInBounds_toArray, List.set_cons_zero, List.set_cons_succ]
            refine take_dstH (i := 1) (d := 65) (v := ?_) rfl rfl (by kernel_rfl) (by kernel_rfl) (by kernel_rfl) (fun _ _ _ h => h) (by rfl) hHeld ?_ ?_
            rotate_left
            · intro wZ hSw; clear hSw; go_simp; first | (with_reducible rfl) | (rw [if_pos (by omega)]; with_reducible rfl) | skip
            try simp only [Act.put, List.setIfInBounds_toArray, List.set_cons_zero, List.set_cons_succ]
            refine take_dstH (i := 2) (d := 66) (v := ?_) rfl rfl (by kernel_rfl) (by kernel_rfl) (by kernel_rfl) (fun _ _ _ h => h) (by rfl) hHeld ?_ ?_
            rotate_left
            · intro wZ hSw; clear hSw; go_simp; first | (with_reducible rfl) | (rw [if_pos (by omega)]; with_reducible rfl) | skip
            try simp only [Act.put, List.setIfInBounds_toArray, List.set_cons_zero, List.set_cons_succ]
            refine take_dstH (i := 3) (d := 67) (v := ?_) rfl rfl (by kernel_rfl) (by kernel_rfl) (by kernel_rfl) (fun _ _ _ h => h) (by rfl) hHeld ?_ ?_
            rotate_left
            · intro wZ hSw; refine exec_load_mid 25 (.tmp 66) ?_ g1 (m * 4) ?_ (Pk.mk (X m) p1 c1).C _ (range_grown RA.out (below_grown (Hid.out hSw) none) (by simp)) Try.underlying25 rfl infoPc <;> rfl
            try simp only [Act.put, List.setIfInBounds_toArray, List.set_cons_zero, List.set_cons_succ]
            refine take_dstH (i := 4) (d := 68) (v := ?_) rfl rfl (by kernel_rfl) (by kernel_rfl) (by kernel_rfl) (fun _ _ _ h => h) (by rfl) hHeld ?_ ?_
            rotate_left
            · intro wZ hSw; clear hSw; go_simp; first | (with_reducible rfl) | (rw [if_pos (by omega)]; with_reducible rfl) | skip
            try simp only [Act.put, List.setIfInBounds_toArray, List.set_cons_zero, List.set_cons_succ]
            refine take_dstH (i := 5) (d := 69) (v := ?_) rfl rfl (by kernel_rfl) (by kernel_rfl) (by kernel_rfl) (fun _ _ _ h => h) (by rfl) hHeld ?_ ?_
            rotate_left
            · intro wZ hSw; clear hSw; go_simp; first | (with_reducible rfl) | (rw [if_pos (by omega)]; with_reducible rfl) | skip
            try simp only [Act.put, List.setIfInBounds_toArray, List.set_cons_zero, List.set_cons_succ]
            refine take_dstH (i := 6) (d := 70) (v := ?_) rfl rfl (by kernel_rfl) (by kernel_rfl) (by kernel_rfl) (fun _ _ _ h => h) (by rfl) hHeld ?_ ?_
            rotate_left
            · intro wZ hSw; clear hSw; go_simp; first | (with_reducible rfl) | (rw [if_pos (by omega)]; with_reducible rfl) | skip
            try simp only [Act.put, List.setIfInBounds_toArray, List.set_cons_zero, List.set_cons_succ]
            refine take_dstH (i := 7) (d := 71) (v := ?_) rfl rfl (by kernel_rfl) (by kernel_rfl) (by kernel_rfl) (fun _ _ _ h => h) (by rfl) hHeld ?_ ?_
            rotate_left
            · intro wZ hSw; refine exec_load_mid 25 (.tmp 70) ?_ g2 (m * 4) ?_ (Pk.mk (X m) p2 c2).C _ (range_grown RB.out (below_grown (Hid.out hSw) none) (by simp)) Try.underlying25 rfl infoPc <;> rfl
            try simp only [Act.put, List.setIfInBounds_toArray, List.set_cons_zero, List.set_cons_succ]
            refine wpAnyH_ready (rs := [8]) (by kernel_rfl) (by simp) ?_
            refine (AllReadyH.cons rfl (fun K hK => ?_) AllReadyH.nil)
            go_simp
            refine (HS.out _ (BA.out.kept (Hid.out hHeld)) (BB.out.kept (Hid.out hHeld))).mono ?_; rintro e wv ⟨rfl, hbb⟩; have B9 : Hid (Below wr.heap.size wr wv) := (Hid.out hHeld).trans (hbb.mono (Hid.out hHeld).size); clear hbb
            go_wp2_with fail
            refine hK.out _ _ ?_ (fun hHeld => ?_)
            · exact B9
            clear hK K
            try simp only [Act.put, List.setIfInBounds_toArray, List.set_cons_zero, List.set_cons_succ]
            refine take_dstH (i := 9) (d := 73) (v := ?_) rfl rfl (by kernel_rfl) (by kernel_rfl) (by kernel_rfl) (fun _ _ _ h => h) (by rfl) hHeld ?_ ?_
            rotate_left
            · intro wZ hSw; clear hSw; go_simp; first | (with_reducible rfl) | (rw [if_pos (by omega)]; with_reducible rfl) | skip
            try simp only [Act.put, List.setIfInBounds_toArray, List.set_cons_zero, List.set_cons_succ]
            refine wpAnyH_done (by kernel_rfl) ?_ _
            go_wp2
            go_roundg (N - m)
            case measure => omega
            case rel => exact ⟨m + 1, by simp, by omega, by omega, HB.out.trans (B9.out.mono HB.out.size)⟩
          · have e : m = N := by omega
            subst e
            go_wp2
            go_ret
            exact ⟨rfl, B5.out.trans (HB.out.mono B5.out.size)⟩

theorem walk (i : Int) (p : Option Addr) (c : Nat) (xs : List Nat) (s : Int) (w : World) (hi : (Lit.int .u64 i).wf = true) (hx : Piece w p c xs) (hs : (Lit.int .i64 s).wf = true) :
    Calls Try.prog 4 #[.int .u64 i, .slice p xs.length c, .int .i64 s] w fun e w' => e = .returned (.bool true) ∧ Below w.heap.size w w' := by
  obtain ⟨i, rfl, hi2⟩ := wf_u64 hi
  obtain ⟨N, E, h1, h2, h3⟩ := pcut_any i xs.length s xs p c rfl
  exact walk_of i N xs.length c E s _ p xs w hx rfl h3 h1 h2

theorem own : ownKnob Try.prog.godebug = none := by kernel_rfl
theorem laidOut : laidOutB Try.prog = true := by kernel_rfl
set_option maxRecDepth 100000 in
theorem lifted (os : Os) (started : os.Started) (H : Type) (enc : TypeId × Value → H) :
    ReturnsInHanded {} Try.checked os 4 .any (Rows.fragCutsSpec.pre6 enc Try.prog Try.f4 Rows.fragCutsRow.domain false) (Rows.fragCutsSpec.post enc Try.prog Try.f4 false true false false) := by
  refine returnsInHanded_of_change (C := Try.checked) own started (by kernel_rfl) Try.func4
    (ChangeSpec.witness6 (enc := enc) (C := Try.checked) false ⟨#[], #[.int .u64 0, .slice none 0 0, .int .i64 0], []⟩ 8 (by kernel_rfl) (by kernel_rfl) (by kernel_rfl) (by kernel_rfl)) ?_
  intro W base args ds gs before hval0 hW hcnd _
  have hval : ∀ (j : Nat) t v, Try.f4.params[j]? = some t → args[j]? = some v → Value.okWide Try.prog W .any base t v := hval0
  have hW' := hW
  obtain ⟨p, q, hA0, hV, rfl, hfz, hnd⟩ := hW
  have hA : DataW.TrodAll enc Try.prog W 0 (fun _ => true) true Try.f4.params.toList args.toList ds p := hA0
  rw [Try.params4] at hA hval
  obtain ⟨v0, vs0, d0, ds0, p0, q0, hargs, rfl, rfl, h0, r0⟩ := trodAll_cons hA
  obtain ⟨v1, vs1, d1, ds1, p1, q1, rfl, rfl, rfl, h1, r1⟩ := trodAll_cons r0
  obtain ⟨v2, vs2, d2, ds2, p2, q2, rfl, rfl, rfl, h2, r2⟩ := trodAll_cons r1
  obtain ⟨rfl, rfl, rfl⟩ := trodAll_nil r2
  obtain rfl : args = #[v0, v1, v2] := by cases args; simp_all
  obtain ⟨rfl, rfl⟩ := trodVars_none hV
  obtain ⟨a0, rfl, rfl, rfl, w0⟩ := open_int Try.underlying22 (hval 0 22 v0 rfl rfl) h0
  obtain ⟨a1, len1, cap1, rfl⟩ := okWide_slice Try.underlying23 (hval 1 23 v1 rfl rfl)
  have k1 := h1
  have lt1 : ∀ x ∈ p1, x.block < W.heap.size := by obtain ⟨m, hm⟩ := k1; exact DataW.trod_lt m _ _ _ hm
  obtain ⟨fuel1, hf1⟩ := h1
  obtain ⟨a1', cap1', x1, hcs1, w1⟩ := piece_of hf1
  simp [Value.cells] at hcs1
  obtain ⟨rfl, rfl, rfl⟩ := hcs1
  clear hf1
  obtain ⟨a2, rfl, rfl, rfl, w2⟩ := open_int Try.underlying3 (hval 2 3 v2 rfl rfl) h2
  clear hA0 hval0
  refine (walk a0 a1 cap1 x1 a2 W w0 w1 w2).mono fun e W' ⟨he, bel⟩ => ?_
  subst he
  exact ⟨_, rfl, _, _, _, [], _, [], hW', trodAll_mk1 (shut_bool Try.underlying4 _), (trodAll_cons_mk (shut_int Try.underlying22 w0) (trodAll_cons_mk (Below.trod laidOut (by kernel_rfl) (of_decide_eq_true (by kernel_rfl)) k1 bel lt1) (trodAll_cons_mk (shut_int Try.underlying3 w2) trodAll_mk0))), rfl, bel.frame _, fun h => by cases h⟩

theorem over : Rows.fragCutsRow.holds Try.pinned (OpenSpec.ofChange Rows.fragCutsSpec) :=
  OpenClaim.holds_of_wide 4 Try.f4 rfl rfl rfl rfl rfl rfl rfl ⟨rfl, rfl, rfl, rfl, rfl⟩ rfl rfl rfl rfl rfl (by kernel_rfl) Try.func4 (by kernel_rfl)
    (of_decide_eq_true (by kernel_rfl)) (by unfold Func.isWrapper; first | (rw [if_pos (by decide +kernel)]; kernel_rfl) | (rw [if_neg (by decide +kernel)]; exact ⟨rfl, rfl⟩))
    (fun os started H enc _ => lifted os started H enc)

end FragCutsProof

/-- Any text's pieces are the document's, or refused, and keep nothing of it. -/
theorem fragCuts_holds : Rows.FragCutsSaid := FragCutsProof.over

#print axioms fragCuts_holds
end Go.Proofs.Ytecpnnnkkofejaa
