/-
  A walk: known: some of the chapter's rows come out as they stand there.
-/
import Derived.Test.YtfopjobcjafgaabDoorMI
namespace Go.Proofs.YtfopjobcjafgaabDoor
open Go.RowKit

set_option maxHeartbeats 4000000 in
set_option maxRecDepth 100000 in
theorem known_any (w : World) (hL : Laid w) :
    Calls Tryd.prog 7 #[] w fun e w' => e = .returned (.bool true) ∧ Below w.heap.size w w' := by
  have HL := hide hL
  have hL2 := hL.size
  have S1 := hide (of_fox w hL hL2)
  have S2 := hide (fun (v : World) (hv : Laid v) => of_none none 0 [] markNone v ⟨Or.inl rfl, (fun _ => rfl), (fun x hx => by cases hx), Nat.le_refl _, Nat.zero_le _⟩ (by simp) hv mark_none)
  clear hL
  rw [show ([] : List Nat).length = 0 from rfl] at S2
  have kc := fun (w : World) (C : Array Value) (n c : Nat) => Lib.run_convert_bytes_const (P := Tryd.prog) w 22 5 C n c Tryd.underlying22 Tryd.underlying5
  have kc2 : ∀ (v : World) (o : Obj) (C : Array Value) (n c : Nat), (convert 22 22 (.slice (some ⟨v.heap.size + 1, 0, none⟩) n c)).run Tryd.prog ((v.alloc o).alloc (.cells C 5)) = .ok (.slice (some ⟨v.heap.size + 1, 0, none⟩) n c) ((v.alloc o).alloc (.cells C 5 (C.size, C.size + 1))) := fun v o C n c => by
    have h := Lib.run_convert_bytes_const (P := Tryd.prog) (v.alloc o) 22 5 C n c Tryd.underlying22 Tryd.underlying5
    simpa using h
  have kc3 : ∀ (v : World) (o o' : Obj) (C : Array Value) (n c : Nat), (convert 22 22 (.slice (some ⟨v.heap.size + 1 + 1, 0, none⟩) n c)).run Tryd.prog (((v.alloc o).alloc o').alloc (.cells C 5)) = .ok (.slice (some ⟨v.heap.size + 1 + 1, 0, none⟩) n c) (((v.alloc o).alloc o').alloc (.cells C 5 (C.size, C.size + 1))) := fun v o o' C n c => by
    have h := Lib.run_convert_bytes_const (P := Tryd.prog) ((v.alloc o).alloc o') 22 5 C n c Tryd.underlying22 Tryd.underlying5
    simpa using h
  go_enter Tryd.func7, Tryd.ntmps7
  go_upto_region 1 with fail
  go_cut [1, 2] (fun s1 s2 wc => ∃ a b, s1 = .pointer (some ⟨a, 0, none⟩) ∧ s2 = .pointer (some ⟨b, 0, none⟩) ∧ Arr wc a 25 (u8s markFox) ∧ Arr wc b 25 (u8s markNone) ∧ Below w.heap.size w wc)
  case first =>
    go_wp2_with fail
    refine S1.out.mono ?_
    rintro e w1 ⟨rfl, hb1⟩
    have B1 := hide hb1
    clear hb1 S1 kc kc2 kc3
    have ND := hide (show (u8s markFox).length = 32 from rfl)
    have NA := hide (show (u8s markNone).length = 32 from rfl)
    generalize hDN : u8s markFox = D0 at *
    have HDN := hide hDN
    clear hDN
    go_wp2_with fail
    refine (S2.out w1 (HL.out.keptB (B := w.heap.size) hL2 B1.out)).mono ?_
    rintro e w2 ⟨rfl, hb2⟩
    have B3 : Hid (Below w.heap.size w w2) := B1.out.trans (hb2.mono B1.out.size)
    clear hb2 B1 S2
    have ID0 : Hid ((Tryd.prog.info? 25).map (·.size) = some D0.toArray.size) := by show _ = _; rw [info35]; simp [ND.out]
    have OD0 : Hid ((u8s (List.replicate 32 0)).toArray.size = D0.toArray.size) := by show _ = _; simp [u8s, ND.out]
    generalize hDA : u8s markNone = DA at *
    have HDA := hide hDA
    clear hDA
    have IDA : Hid ((Tryd.prog.info? 25).map (·.size) = some DA.toArray.size) := by show _ = _; rw [info35]; simp [NA.out]
    have ODA : Hid ((u8s (List.replicate 32 0)).toArray.size = DA.toArray.size) := by show _ = _; simp [u8s, NA.out]
    have O1 : Hid (D0.toArray.all (·.oneCell') = true) := by show _ = _; rw [← HDN.out]; exact all_u8s _
    have O2 : Hid (DA.toArray.all (·.oneCell') = true) := by show _ = _; rw [← HDA.out]; exact all_u8s _
    go_wp2_with (first
      | (refine wpList_store_row rfl 25 _ _ rfl w2.heap.size D0.toArray rfl rfl 25 (u8s (List.replicate 32 0)).toArray ((heap_keep _ _ _ (by simp)).trans (heap_at w2 _ _ rfl)) ID0.out OD0.out O1.out ?_)
      | (refine wpList_store_row rfl 25 _ _ rfl (w2.heap.size + 1) DA.toArray rfl rfl 25 (u8s (List.replicate 32 0)).toArray ((setRow_other _ _ _ _ (by omega)).trans (heap_at (w2.alloc Z32) _ _ (by simp))) IDA.out ODA.out O2.out ?_))
    simp only [Act.put]
    go_meet
    case rel =>
      have a1 := ((Arr.new w2 25 (u8s (List.replicate 32 0))).alloc Z32).row D0.toArray
      have b1 := (Arr.newAt (w2.alloc Z32) 25 (u8s (List.replicate 32 0)) (w2.heap.size + 1) (by simp)).rowOther w2.heap.size D0.toArray (by omega)
      refine ⟨w2.heap.size, w2.heap.size + 1, rfl, rfl, ?_, ?_, ?_⟩
      · exact a1.rowOther _ _ (by omega)
      · exact b1.row _
      · have h := B3.out.size
        exact below_setRow (below_setRow ((B3.out.alloc h _).alloc (by simp; omega) _) h (by simp; omega) _) (by omega) (by simp) _
  case rest =>
    clear S1 S2 kc3
    obtain ⟨a, b, rfl, rfl, hA, hB, hBel⟩ := hcut
    have s1 : ∀ v : World, (Instr.sliceAt 25 (.pointer (some ⟨a, 0, none⟩)) none (some (.int .i64 4)) none).run Tryd.prog v = .ok (.slice (some ⟨a, 0, none⟩) 4 32) v := fun v => run_d4 v a
    have s2 : ∀ v : World, (Instr.sliceAt 25 (.pointer (some ⟨b, 0, none⟩)) none (some (.int .i64 4)) none).run Tryd.prog v = .ok (.slice (some ⟨b, 0, none⟩) 4 32) v := fun v => run_d4 v b
    have t1 : (convert 22 9 (.slice (some ⟨a, 0, none⟩) 4 32)).run Tryd.prog wc = .ok (.string ⟨#[247, 188, 131, 244]⟩) wc := str_of wc a 0 markFox 4 32 hA (by decide)
    have t2 : (convert 22 9 (.slice (some ⟨b, 0, none⟩) 4 32)).run Tryd.prog wc = .ok (.string ⟨#[182, 19, 103, 154]⟩) wc := str_of wc b 0 markNone 4 32 hB (by decide)
    have B0 := hide hBel
    clear hA hB hBel
    go_wp2_with fail
    refine (same_ab wc).mono ?_
    rintro e w5 ⟨rfl, hb5⟩
    have B5 : Hid (Below w.heap.size w w5) := B0.out.trans (hb5.mono B0.out.size)
    clear hb5 B0 t1 t2 s1 s2
    go_wp2_with fail
    refine (same_a w5).mono ?_
    rintro e w6 ⟨rfl, hb6⟩
    have B6 : Hid (Below w.heap.size w w6) := B5.out.trans (hb6.mono B5.out.size)
    clear hb6 B5
    go_wp2
    go_ret
    exact ⟨rfl, B6.out⟩

end Go.Proofs.YtfopjobcjafgaabDoor
