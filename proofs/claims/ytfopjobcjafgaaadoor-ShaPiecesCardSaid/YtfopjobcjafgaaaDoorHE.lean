/-
  A walk: known: some of the chapter's rows come out as they stand there.
-/
import Derived.Test.YtfopjobcjafgaaaDoorHK
import Derived.Test.YtfopjobcjafgaaaDoorSP
import Derived.Test.YtfopjobcjafgaaaDoorSS
namespace Go.Proofs.YtfopjobcjafgaaaDoor
open Go.RowKit

def digNone : List Nat := [0xe3, 0xb0, 0xc4, 0x42, 0x98, 0xfc, 0x1c, 0x14, 0x9a, 0xfb, 0xf4, 0xc8, 0x99, 0x6f, 0xb9, 0x24, 0x27, 0xae, 0x41, 0xe4, 0x64, 0x9b, 0x93, 0x4c, 0xa4, 0x95, 0x99, 0x1b, 0x78, 0x52, 0xb8, 0x55]
def digAbc : List Nat := [0xba, 0x78, 0x16, 0xbf, 0x8f, 0x01, 0xcf, 0xea, 0x41, 0x41, 0x40, 0xde, 0x5d, 0xae, 0x22, 0x23, 0xb0, 0x03, 0x61, 0xa3, 0x96, 0x17, 0x7a, 0x9c, 0xb4, 0x10, 0xff, 0x61, 0xf2, 0x00, 0x15, 0xad]

theorem ssum_none (w : World) (hL : Laid w) :
    Calls Tryd.prog 17 #[.slice none 0 0] w fun e w' => e = .returned (.agg (u8s digNone).toArray) ∧ Below w.heap.size w w' :=
  ssum_of none 0 0 (fun _ => none) (fun _ => 0) (fun _ => []) digNone w (Or.inl rfl) (fun i hi => by omega) (by simp [joinF]) (by omega) hL sum_none

def pP (a b : Nat) : Nat → Option Addr
  | 0 => some ⟨a, 0, none⟩
  | 1 => none
  | _ => some ⟨b, 0, none⟩
def pC : Nat → Nat
  | 0 => 1
  | 1 => 0
  | _ => 2
def pB : Nat → List Nat
  | 0 => [97]
  | 1 => []
  | _ => [98, 99]

theorem ssum_abc (a b q : Nat) (w : World) (ha : w.cell? ⟨a, 0, none⟩ = some (.int .u8 97)) (hb0 : w.cell? ⟨b, 0, none⟩ = some (.int .u8 98)) (hb1 : w.cell? ⟨b, 1, none⟩ = some (.int .u8 99))
    (h0 : w.cell? ⟨q, 0, none⟩ = some (.slice (some ⟨a, 0, none⟩) 1 1)) (h1 : w.cell? ⟨q, 1, none⟩ = some (.slice none 0 0)) (h2 : w.cell? ⟨q, 2, none⟩ = some (.slice (some ⟨b, 0, none⟩) 2 2)) (hL : Laid w) :
    Calls Tryd.prog 17 #[.slice (some ⟨q, 0, none⟩) 3 3] w fun e w' => e = .returned (.agg (u8s digAbc).toArray) ∧ Below w.heap.size w w' := by
  refine ssum_of (some ⟨q, 0, none⟩) 3 3 (pP a b) pC pB digAbc w (Or.inr ⟨q, 0, rfl, ?_⟩) ?_ (by simp [joinF, pB]) (by omega) hL sum_abc
  · intro i hi
    match i, hi with
    | 0, _ => exact h0
    | 1, _ => exact h1
    | 2, _ => exact h2
  · intro i hi
    match i, hi with
    | 0, _ =>
      refine ⟨Or.inr ⟨a, 0, rfl, fun j hj => ?_⟩, (fun h => by cases h), (fun x hx => by simp [pB] at hx; omega), Nat.le_refl _, by unfold maxLen; simp [pC]⟩
      have : j = 0 := by simp [pB] at hj; omega
      subst this
      exact ha
    | 1, _ => exact ⟨Or.inl rfl, (fun _ => rfl), (fun x hx => by simp [pB] at hx), Nat.le_refl _, by unfold maxLen; simp [pC]⟩
    | 2, _ =>
      refine ⟨Or.inr ⟨b, 0, rfl, fun j hj => ?_⟩, (fun h => by cases h), (fun x hx => by simp [pB] at hx; omega), Nat.le_refl _, by unfold maxLen; simp [pC]⟩
      have : j = 0 ∨ j = 1 := by simp [pB] at hj; omega
      rcases this with rfl | rfl
      · exact hb0
      · exact hb1

set_option maxHeartbeats 4000000 in
set_option maxRecDepth 100000 in
theorem known_any (w : World) (hL : Laid w) :
    Calls Tryd.prog 13 #[] w fun e w' => e = .returned (.bool true) ∧ Below w.heap.size w w' := by
  have HL := hide hL
  have hL2 := hL.size
  have S1 := hide (ssum_none w hL)
  clear hL
  go_enter Tryd.func13, Tryd.ntmps13
  go_upto_region 1 with fail
  go_cut [1, 2] (fun s1 s2 wc => ∃ a b, s1 = .pointer (some ⟨a, 0, none⟩) ∧ s2 = .pointer (some ⟨b, 0, none⟩) ∧ Arr wc a 35 (u8s digNone) ∧ Arr wc b 35 (u8s digAbc) ∧ Below w.heap.size w wc)
  case first =>
    have kc := fun (w : World) (C : Array Value) (n c : Nat) => Lib.run_convert_bytes_const (P := Tryd.prog) w 30 5 C n c Tryd.underlying30 Tryd.underlying5
    have kc2 : ∀ (v : World) (o : Obj) (C : Array Value) (n c : Nat), (convert 30 30 (.slice (some ⟨v.heap.size + 1, 0, none⟩) n c)).run Tryd.prog ((v.alloc o).alloc (.cells C 5)) = .ok (.slice (some ⟨v.heap.size + 1, 0, none⟩) n c) ((v.alloc o).alloc (.cells C 5 (C.size, C.size + 1))) := fun v o C n c => by
      have h := Lib.run_convert_bytes_const (P := Tryd.prog) (v.alloc o) 30 5 C n c Tryd.underlying30 Tryd.underlying5
      simpa using h
    go_wp2_with fail
    refine S1.out.mono ?_
    rintro e w1 ⟨rfl, hb1⟩
    have B1 := hide hb1
    clear hb1
    have ND := hide (show (u8s digNone).length = 32 from rfl)
    have NA := hide (show (u8s digAbc).length = 32 from rfl)
    generalize hDN : u8s digNone = D0 at *
    have HDN := hide hDN
    clear hDN
    go_wp2_with fail
    have B2 : Hid (Below w.heap.size w (((w1.alloc (Obj.cells #[Value.int .u8 97] 5 (1, 2))).alloc (Obj.cells #[Value.int .u8 98, Value.int .u8 99] 5 (2, 3))).alloc (Obj.cells #[Value.slice (some ⟨w1.heap.size, 0, none⟩) 1 1, Value.slice none 0 0, Value.slice (some ⟨w1.heap.size + 1, 0, none⟩) 2 2] 30))) := by
      have h := B1.out.size
      exact ((B1.out.alloc h _).alloc (by simp; omega) _).alloc (by simp; omega) _
    have h3 := alloc3 w1 (Obj.cells #[Value.int .u8 97] 5 (1, 2)) (Obj.cells #[Value.int .u8 98, Value.int .u8 99] 5 (2, 3)) (Obj.cells #[Value.slice (some ⟨w1.heap.size, 0, none⟩) 1 1, Value.slice none 0 0, Value.slice (some ⟨w1.heap.size + 1, 0, none⟩) 2 2] 30)
    refine (ssum_abc w1.heap.size (w1.heap.size + 1) (w1.heap.size + 1 + 1) _ (cell_of_row _ _ 0 _ _ _ h3.1) (cell_of_row _ _ 0 _ _ _ h3.2.1) (cell_of_row _ _ 1 _ _ _ h3.2.1) (cell_of_row _ _ 0 _ _ _ h3.2.2) (cell_of_row _ _ 1 _ _ _ h3.2.2) (cell_of_row _ _ 2 _ _ _ h3.2.2) (HL.out.keptB (B := w.heap.size) hL2 B2.out)).mono ?_
    rintro e w2 ⟨rfl, hb2⟩
    have B3 : Hid (Below w.heap.size w w2) := B2.out.trans (hb2.mono B2.out.size)
    clear hb2 B2 B1
    clear h3
    have ID0 : Hid ((Tryd.prog.info? 35).map (·.size) = some D0.toArray.size) := by show _ = _; rw [info35]; simp [ND.out]
    have OD0 : Hid ((u8s (List.replicate 32 0)).toArray.size = D0.toArray.size) := by show _ = _; simp [u8s, ND.out]
    generalize hDA : u8s digAbc = DA at *
    have HDA := hide hDA
    clear hDA
    have IDA : Hid ((Tryd.prog.info? 35).map (·.size) = some DA.toArray.size) := by show _ = _; rw [info35]; simp [NA.out]
    have ODA : Hid ((u8s (List.replicate 32 0)).toArray.size = DA.toArray.size) := by show _ = _; simp [u8s, NA.out]
    have O1 : Hid (D0.toArray.all (·.oneCell') = true) := by show _ = _; rw [← HDN.out]; exact all_u8s _
    have O2 : Hid (DA.toArray.all (·.oneCell') = true) := by show _ = _; rw [← HDA.out]; exact all_u8s _
    go_wp2_with (first
      | (refine wpList_store_row rfl 35 _ _ rfl w2.heap.size D0.toArray rfl rfl 35 (u8s (List.replicate 32 0)).toArray ((heap_keep _ _ _ (by simp)).trans (heap_at w2 _ _ rfl)) ID0.out OD0.out O1.out ?_)
      | (refine wpList_store_row rfl 35 _ _ rfl (w2.heap.size + 1) DA.toArray rfl rfl 35 (u8s (List.replicate 32 0)).toArray ((setRow_other _ _ _ _ (by omega)).trans (heap_at (w2.alloc Z32) _ _ (by simp))) IDA.out ODA.out O2.out ?_))
    simp only [Act.put]
    go_meet
    case rel =>
      have a1 := ((Arr.new w2 35 (u8s (List.replicate 32 0))).alloc Z32).row D0.toArray
      have b1 := (Arr.newAt (w2.alloc Z32) 35 (u8s (List.replicate 32 0)) (w2.heap.size + 1) (by simp)).rowOther w2.heap.size D0.toArray (by omega)
      refine ⟨w2.heap.size, w2.heap.size + 1, rfl, rfl, ?_, ?_, ?_⟩
      · exact a1.rowOther _ _ (by omega)
      · exact b1.row _
      · have h := B3.out.size
        exact below_setRow (below_setRow ((B3.out.alloc h _).alloc (by simp; omega) _) h (by simp; omega) _) (by omega) (by simp) _
  case rest =>
    obtain ⟨a, b, rfl, rfl, hA, hB, hBel⟩ := hcut
    have s1 : ∀ v : World, (Instr.sliceAt 35 (.pointer (some ⟨a, 0, none⟩)) none (some (.int .i64 4)) none).run Tryd.prog v = .ok (.slice (some ⟨a, 0, none⟩) 4 32) v := fun v => run_d4 v a
    have s2 : ∀ v : World, (Instr.sliceAt 35 (.pointer (some ⟨b, 0, none⟩)) none (some (.int .i64 4)) none).run Tryd.prog v = .ok (.slice (some ⟨b, 0, none⟩) 4 32) v := fun v => run_d4 v b
    have s3 : ∀ v : World, (Instr.sliceAt 35 (.pointer (some ⟨b, 0, none⟩)) (some (.int .i64 28)) none none).run Tryd.prog v = .ok (.slice (some ⟨b, 28, none⟩) 4 4) v := fun v => run_d28 v b
    have t1 : (convert 30 9 (.slice (some ⟨a, 0, none⟩) 4 32)).run Tryd.prog wc = .ok (.string ⟨#[227, 176, 196, 66]⟩) wc := str_of wc a 0 digNone 4 32 hA (by decide)
    have t2 : (convert 30 9 (.slice (some ⟨b, 0, none⟩) 4 32)).run Tryd.prog wc = .ok (.string ⟨#[186, 120, 22, 191]⟩) wc := str_of wc b 0 digAbc 4 32 hB (by decide)
    have t3 : (convert 30 9 (.slice (some ⟨b, 28, none⟩) 4 4)).run Tryd.prog wc = .ok (.string ⟨#[242, 0, 21, 173]⟩) wc := str_of wc b 28 digAbc 4 4 hB (by decide)
    have C63 := hide (shaTurn_any 63 wc (HL.out.keptB (B := w.heap.size) hL2 hBel))
    have HBel := hide hBel
    have hw63 : wordAt turnT 63 = 3329325298 := by decide +kernel
    rw [hw63] at C63
    clear hA hB hBel hw63
    go_wp2_with fail
    refine C63.out.mono ?_
    rintro e w9 ⟨rfl, hw9⟩
    subst hw9
    go_wp2
    go_ret
    exact ⟨rfl, HBel.out⟩

end Go.Proofs.YtfopjobcjafgaaaDoor
