/-
  ShaBlocks, the tied card: whatever the eight words and the block, the program's Block and the document's come to the same eight words, and the known rows come out: the law returns true, and what is handed in stays. No condition but the two tables, which the card ties to the program's text.
-/
import Derived.Test.YtfopjobcjafgaaaDoorHF
import Derived.Test.YtfopjobcjafgaaaDoorSL
namespace Go.Proofs.YtfopjobcjafgaaaDoor
open Go.ChangeShapes Go.WideShapes Go.ChangeAt Go.WideMaps Go.WideElems Go.RowKit

theorem cells27 : Tryd.prog.cellsOf 27 = 64 := by kernel_rfl

/-- an array of integers that is handed in, opened -/
theorem open_ints_arr {H : Type} {enc : TypeId × Value → H} {P : Program} {w : World} {base : Nat} {sp : Nat → Bool} {held : Bool} {t e : TypeId} {n : Nat} {k : IntKind} {v : Value} {d : DataW H} {p : List MemPlace}
    (ht : P.underlying t = some (.array n e)) (he : P.underlying e = some (.int k)) (hce : P.cellsOf e = 1) (hct : P.cellsOf t = n) (h : DataW.Trod enc P w base sp held t v d p) :
    ∃ zs : List Int, v.cells.toList = zs.map (Value.int k) ∧ zs.length = n ∧ (∀ z ∈ zs, (Lit.int k z).wf = true) ∧ ∀ x ∈ p, False := by
  obtain ⟨fuel, hf⟩ := h
  obtain ⟨xs, m, rfl, hx, hcl, hxl, hel⟩ := DataW.trod_array ht hf
  rw [hct] at hcl
  rw [hce] at hel
  have each : ∀ i, i < n → ∃ z, v.cells.toList[i]? = some (Value.int k z) ∧ (Lit.int k z).wf = true ∧ ∃ y, xs[i]? = some y ∧ y.2 = [] := fun i hi => by
    have h1 := hel i hi
    have hxi : i < xs.length := by omega
    rw [List.getElem?_eq_getElem hxi] at h1
    obtain ⟨z, hz, hy, hwf⟩ := DataW.trod_int he h1
    refine ⟨z, ?_, hwf, xs[i], List.getElem?_eq_getElem hxi, by rw [hy]⟩
    have hci : i < v.cells.toList.length := by omega
    rw [Nat.mul_one, List.drop_eq_getElem_cons hci] at hz
    simp at hz
    rw [List.getElem?_eq_getElem hci]
    simp [hz]
  let f : Nat → Int := fun i => match v.cells.toList[i]? with | some (Value.int _ z) => z | _ => 0
  refine ⟨(List.range n).map f, ?_, by simp, ?_, ?_⟩
  · apply List.ext_getElem?
    intro i
    by_cases hi : i < n
    · obtain ⟨z, hz, _⟩ := each i hi
      have hz' : v.cells[i]? = some (Value.int k z) := by simpa using hz
      rw [hz]
      simp [hi, f, hz']
    · rw [List.getElem?_eq_none (by omega), List.getElem?_eq_none (by simp; omega)]
  · intro z hz
    obtain ⟨i, hi, rfl⟩ := List.mem_map.1 hz
    obtain ⟨z', hz', hwf, _⟩ := each i (by simpa using hi)
    simp only [f, hz']
    exact hwf
  · intro x hxp
    have hp := congrArg Prod.snd hx
    simp only at hp
    rw [hp] at hxp
    obtain ⟨y, hy, hxy⟩ := List.mem_flatMap.1 hxp
    obtain ⟨i, hi, rfl⟩ := List.mem_iff_getElem.1 hy
    obtain ⟨_, _, _, y', hy', he'⟩ := each i (by omega)
    rw [List.getElem?_eq_getElem hi] at hy'
    cases hy'
    rw [he'] at hxy
    cases hxy

theorem agg_arr {P : Program} {W : World} {r : Reach} {b0 : Nat} {t e : TypeId} {n : Nat} {v : Value} (ht : P.underlying t = some (.array n e)) (h : Value.okWide P W r b0 t v) : ∃ cs, v = .agg cs := by
  cases v <;> first | exact ⟨_, rfl⟩ | (exfalso; simp [Value.okWide, ht] at h)

set_option maxRecDepth 100000 in
theorem blocks_lifted (os : Os) (started : os.Started) (H : Type) (enc : TypeId × Value → H) :
    ReturnsInHanded {} Tryd.checked os 4 .any (fun w args => (Rows.shaBlocksSpec.pre enc Tryd.prog Tryd.f4 [] false w args ∧ laidMetH Tryd.prog laid2 w) ∧ sizedMet enc Tryd.prog Tryd.f4 (OpenSpec.ofChange Rows.shaBlocksSpec) false w args)
      (Rows.shaBlocksSpec.post enc Tryd.prog Tryd.f4 false true false false) := by
  refine returnsInHanded_of_change_and (C := Tryd.checked) (X := fun w _ => laidMetH Tryd.prog laid2 w) (fun _ _ _ hh h => h.of_heap hh) own started (by kernel_rfl) Tryd.func4
    (ChangeSpec.witness_shaped (enc := enc) (C := Tryd.checked) (os := os) (X := fun w _ => laidMetH Tryd.prog laid2 w) false (World.doorLaid Tryd.prog 400 os) #[.agg (u32s (List.replicate 8 0)).toArray, .agg (u8s (List.replicate 64 0)).toArray] 8 rfl (World.shaped_of_RefB (by kernel_rfl) (by kernel_rfl)) (by kernel_rfl) (by kernel_rfl) (by kernel_rfl) (door_met os _)) ?_
  intro W base args ds gs before hval0 hW _ _ hL _
  have hval : ∀ (j : Nat) t v, Tryd.f4.params[j]? = some t → args[j]? = some v → Value.okWide Tryd.prog W .any base t v := hval0
  have hW' := hW
  obtain ⟨p, q, hA0, hV, rfl, hfz, hnd⟩ := hW
  have hA : DataW.TrodAll enc Tryd.prog W 0 (fun _ => true) true Tryd.f4.params.toList args.toList ds p := hA0
  rw [Tryd.params4] at hA hval
  obtain ⟨v0, vs0, d0, ds0, p0, q0, hargs, rfl, rfl, h0, r0⟩ := trodAll_cons hA
  obtain ⟨v1, vs1, d1, ds1, p1, q1, rfl, rfl, rfl, h1, r1⟩ := trodAll_cons r0
  obtain ⟨rfl, rfl, rfl⟩ := trodAll_nil r1
  obtain rfl : args = #[v0, v1] := by cases args; simp_all
  obtain ⟨rfl, rfl⟩ := trodVars_none hV
  obtain ⟨c0, rfl⟩ := agg_arr Tryd.underlying26 (hval 0 26 v0 rfl rfl)
  obtain ⟨c1, rfl⟩ := agg_arr Tryd.underlying27 (hval 1 27 v1 rfl rfl)
  obtain ⟨z0, hz0, zl0, zw0, zp0⟩ := open_ints_arr Tryd.underlying26 Tryd.underlying22 c22 c26 h0
  obtain ⟨z1, hz1, zl1, zw1, zp1⟩ := open_ints_arr Tryd.underlying27 Tryd.underlying5 cells8 cells27 h1
  have k0 := h0
  have k1 := h1
  have bd0 : ∀ z ∈ z0, 0 ≤ z ∧ z < 4294967296 := fun z hz => by
    have h := zw0 z hz
    have m1 : IntKind.u32.min = 0 := rfl
    have m2 : IntKind.u32.max = 4294967295 := rfl
    simp only [Lit.wf, m1, m2, Bool.and_eq_true, decide_eq_true_eq] at h
    omega
  have bd1 : ∀ z ∈ z1, 0 ≤ z ∧ z < 256 := fun z hz => by
    have h := zw1 z hz
    have m1 : IntKind.u8.min = 0 := rfl
    have m2 : IntKind.u8.max = 255 := rfl
    simp only [Lit.wf, m1, m2, Bool.and_eq_true, decide_eq_true_eq] at h
    omega
  have e0 : c0 = (u32s (z0.map Int.toNat)).toArray := by
    apply Array.toList_inj.1
    have : c0.toList = z0.map (Value.int .u32) := hz0
    rw [this]
    simp only [u32s, List.map_map]
    apply List.map_congr_left
    intro z hz
    have := bd0 z hz
    simp only [Function.comp]
    rw [Int.toNat_of_nonneg this.1]
  have e1 : c1 = (u8s (z1.map Int.toNat)).toArray := by
    apply Array.toList_inj.1
    have : c1.toList = z1.map (Value.int .u8) := hz1
    rw [this]
    simp only [u8s, List.map_map]
    apply List.map_congr_left
    intro z hz
    have := bd1 z hz
    simp only [Function.comp]
    rw [Int.toNat_of_nonneg this.1]
  have walk := blocks_walk (z0.map Int.toNat) (z1.map Int.toNat) W (by simpa using zl0) (fun x hx => by obtain ⟨z, hz, rfl⟩ := List.mem_map.1 hx; have := bd0 z hz; omega) (by simpa using zl1) (fun x hx => by obtain ⟨z, hz, rfl⟩ := List.mem_map.1 hx; have := bd1 z hz; omega) (of_laid hL)
  rw [← e0, ← e1] at walk
  clear hA0 hval0
  refine walk.mono fun e W' ⟨he, bel⟩ => ?_
  subst he
  exact ⟨_, rfl, _, _, _, [], _, [], hW', trodAll_mk1 (shut_bool Tryd.underlying4 _),
    trodAll_cons_mk (Below.trod laidOut (by kernel_rfl) (of_decide_eq_true (by kernel_rfl)) k0 bel (fun x hx => (zp0 x hx).elim)) (trodAll_cons_mk (Below.trod laidOut (by kernel_rfl) (of_decide_eq_true (by kernel_rfl)) k1 bel (fun x hx => (zp1 x hx).elim)) trodAll_mk0), rfl, bel.frame _, fun h => by cases h⟩

theorem blocks_row : Rows.ShaBlocksSaid :=
  OpenClaim.holds_of_wide 4 Tryd.f4 rfl rfl rfl rfl rfl rfl rfl ⟨rfl, rfl, rfl, rfl, rfl⟩ rfl rfl rfl rfl rfl (by kernel_rfl) Tryd.func4 (by kernel_rfl)
    (of_decide_eq_true (by kernel_rfl)) (by unfold Func.isWrapper; first | (rw [if_pos (by decide +kernel)]; kernel_rfl) | (rw [if_neg (by decide +kernel)]; exact ⟨rfl, rfl⟩))
    (fun os started H enc _ => blocks_lifted os started H enc)

theorem shaBlocks_holds : Rows.ShaBlocksCardSaid :=
  Claim7.holds_tied_plain_at .later [] [.data, .data] true (true, Rows.shaBlocksCard.stood.harness.2) false
    blocks_row (fun _ h => by cases h) (by kernel_rfl) (fun _ h => by cases h) shaBlocks_row_tie rfl ⟨rfl, rfl⟩ (by kernel_rfl) rfl
    (fun f fn hf hfn => by
      obtain rfl : f = 4 := Option.some.inj ((show Tryd.prog.funcNamed "oriel/oriellaw02.ShaBlocks" = some 4 by kernel_rfl).symm.trans hf) |>.symm
      obtain rfl : fn = Tryd.f4 := (Option.some.inj (Tryd.func4.symm.trans hfn)).symm
      exact ⟨by kernel_rfl, fun j t ht => by
        rw [Tryd.params4] at ht
        have hm : t ∈ [26, 27] := by simpa using Array.mem_of_getElem? ht
        have hall : ([26, 27].all fun u => !Tryd.prog.wantsStandIn u) = true := by kernel_rfl
        exact (show Tryd.prog.wantsStandIn t = false by simpa using List.all_eq_true.1 hall t hm)⟩)
    (by kernel_rfl)
#print axioms shaBlocks_holds

end Go.Proofs.YtfopjobcjafgaaaDoor
