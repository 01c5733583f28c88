/-
  Plain facts on a text turned twice; a walk: the known rows.
-/
import Derived.Test.YtflakgigekfgcaaCG
import Derived.Test.YtflakgigekfgcaaEO
namespace Go.Proofs.Ytflakgigekfgcaa
open Go.RowKit

theorem trF_twice (B : Nat → List Nat) (f : Nat) (xs : List Nat) : trF B f (trF B f xs) = xs := by
  apply List.ext_getElem
  · simp [trF_length]
  · intro i h1 h2
    have h3 : i < (trF B f xs).length := by simpa [trF_length] using h2
    have e1 := trF_at B f (trF B f xs) h3
    have e2 := trF_at B f xs h2
    rw [e2] at e1
    have e3 : (trF B f (trF B f xs)).getD i 0 = (trF B f (trF B f xs))[i] := by simp [List.getD, h1]
    have e4 : xs.getD i 0 = xs[i] := by simp [List.getD, h2]
    rw [← e3, e1, e4, Nat.xor_assoc, Nat.xor_self, Nat.xor_zero]

theorem own_piece_n {w : World} {B : Nat} {v : Value} {l : List Nat} {n : Nat} (h : w.ownsRow B 5 1 v n (u8s l)) (hl : l.length = n) (hb : BytesN l) :
    ∃ p c, v = .slice p n c ∧ Piece w p c l ∧ ∀ a, p = some a → B ≤ a.block ∧ a.block < w.heap.size := by
  subst hl
  exact own_piece h hb

def kn3 : List Nat := [1, 2, 3, 0, 0, 0, 0, 0, 0, 0, 0, 0, 0, 0, 0, 0]
theorem kn3_blk : Blk kn3 := ⟨rfl, fun i => getD_lt (by decide) (by omega) i⟩
def heT : List Nat := [104, 101, 108, 108, 111, 44, 32, 104, 101, 108, 108, 111, 44, 32, 104, 101, 108, 108, 111]
theorem heT_bytes : BytesN heT := by intro x hx; simp only [heT, List.mem_cons, List.not_mem_nil, or_false] at hx; omega
theorem he_piece (w : World) : Piece (w.alloc (Obj.cells (u8s heT).toArray 5 (19, 20))) (some ⟨w.heap.size, 0, none⟩) 19 heT := by
  refine ⟨Or.inr ⟨w.heap.size, 0, rfl, fun i hi => ?_⟩, (fun e => by cases e), heT_bytes, Nat.le_refl _, by unfold maxLen; omega⟩
  rw [Nat.zero_add, cell_of_row _ _ i _ _ _ (heap_alloc_new w _)]
  simpa using u8s_at hi
set_option maxRecDepth 100000 in
theorem he_other : trF (hbF kn3 7) 0 heT ≠ heT := by decide +kernel
theorem kn3_built : Try.prog.built 22 [(0, .int .u8 1), (1, .int .u8 2), (2, .int .u8 3)] = some (u8s kn3).toArray := by kernel_rfl
theorem toList_inj {a b : ByteArray} (h : a.toList = b.toList) : a = b := by
  rw [ByteArray.toList_eq, ByteArray.toList_eq] at h
  obtain ⟨⟨x⟩⟩ := a
  obtain ⟨⟨y⟩⟩ := b
  cases h
  rfl
theorem he_str : strF heT = ⟨#[104, 101, 108, 108, 111, 44, 32, 104, 101, 108, 108, 111, 44, 32, 104, 101, 108, 108, 111]⟩ := by rfl

set_option maxHeartbeats 4000000 in
set_option maxRecDepth 100000 in
theorem known_of (K H A : List Nat) (w : World) (hk : Blk K) (hb : Try.prog.built 22 [(0, .int .u8 1), (1, .int .u8 2), (2, .int .u8 3)] = some (u8s K).toArray) (hH : H = heT) (hHb : BytesN H) (hAl : A.length = 19) (hAb : BytesN A) (hne : A ≠ H)
    (hT : ∀ (p : Option Addr) (c : Nat) (xs ys : List Nat) (v : World), Piece v p c xs → xs.length = 19 → (xs = H ∧ ys = A ∨ xs = A ∧ ys = H) → Calls Try.prog 12 #[.agg (u8s K).toArray, .int .u64 7, .slice p 19 c] v fun r w' => ∃ u, r = .returned u ∧ w'.ownsRow v.heap.size 5 1 u 19 (u8s ys) ∧ Below v.heap.size v w')
    (hS : ∀ v, Calls Try.prog 10 #[.agg (u8s K).toArray, .int .u64 7, .int .i64 1048576, .int .i64 1] v fun r w' => r = .returned (.slice none 0 0) ∧ Below v.heap.size v w') :
    Calls Try.prog 9 #[] w fun e w' => e = .returned (.bool true) ∧ Below w.heap.size w w' := by
  have HB := hide hb
  have IK := hide (szb hk)
  have OK1 := hide (old16 hk.len)
  have HT := hide hT
  have HS := hide hS
  have HHB := hide hHb
  have HAB := hide hAb
  have HAL := hide hAl
  have HNE := hide hne
  have HH := hide hH
  have kc := fun (w : World) (C : Array Value) (n c : Nat) => Lib.run_convert_bytes_const (P := Try.prog) w 25 5 C n c Try.underlying25 Try.underlying5
  clear hk hb hT hS hHb hAb hAl hne hH
  go_enter Try.func9, Try.ntmps9
  go_upto_region 2 with (first
    | (refine wpList_build_of rfl 22 #[(0, .const (.int .u8 1)), (1, .const (.int .u8 2)), (2, .const (.int .u8 3))] rfl [(0, .int .u8 1), (1, .int .u8 2), (2, .int .u8 3)] (by simp [Act.eval]) (u8s K).toArray HB.out ?_)
    | (refine wpList_store_row rfl 22 _ _ rfl w.heap.size (u8s K).toArray rfl rfl 22 _ (Arr.new w _ (u8s z16)) IK.out OK1.out (one_u8s _) ?_))
  rw [World.setRow_alloc_new]
  have A1 : Hid (Arr (w.alloc (Obj.cells (u8s K).toArray 22)) w.heap.size 22 (u8s K) ∧ Below w.heap.size w (w.alloc (Obj.cells (u8s K).toArray 22))) := ⟨Arr.new w _ _, (Below.refl _ _).alloc (Nat.le_refl _) _⟩
  generalize w.alloc (Obj.cells (u8s K).toArray 22) = w1 at *
  go_wp2_with (refine wpList_load_row rfl 22 _ rfl w.heap.size rfl 22 _ (0, 0) _ A1.out.1 Try.underlying22 rfl IK.out ?_)
  have hP : Piece (w1.alloc (Obj.cells (u8s heT).toArray 5 (19, 20))) (some ⟨w1.heap.size, 0, none⟩) 19 H := by rw [HH.out]; exact he_piece w1
  have hHl : H.length = 19 := by rw [HH.out]; rfl
  have B1 : Below w1.heap.size w1 (w1.alloc (Obj.cells (u8s heT).toArray 5 (19, 20))) := (Below.refl _ _).alloc (Nat.le_refl _) _
  refine (HT.out _ _ H A _ hP hHl (Or.inl ⟨rfl, rfl⟩)).mono ?_
  rintro r w2 ⟨u, rfl, ho, hb⟩
  have B2 : Below w1.heap.size w1 w2 := B1.trans (hb.mono B1.size)
  obtain ⟨p1, c1, rfl, hP1, _⟩ := own_piece_n ho HAL.out HAB.out
  have A2 : Hid (Arr w2 w.heap.size 22 (u8s K) ∧ Piece w2 p1 c1 A ∧ Below w.heap.size w w2) := ⟨A1.out.1.kept B2, hP1, A1.out.2.trans (B2.mono A1.out.2.size)⟩
  clear hP B1 ho hb B2 hP1 A1 kc
  go_wp2_with (refine wpList_load_row rfl 22 _ rfl w.heap.size rfl 22 _ (0, 0) _ A2.out.1 Try.underlying22 rfl IK.out ?_)
  refine (HT.out _ _ A H _ A2.out.2.1 HAL.out (Or.inr ⟨rfl, rfl⟩)).mono ?_
  rintro r w3 ⟨u, rfl, ho, hb⟩
  obtain ⟨p2, c2, rfl, hP2, _⟩ := own_piece_n ho hHl HHB.out
  have A3 : Hid (Arr w3 w.heap.size 22 (u8s K) ∧ Piece w3 p1 c1 A ∧ Piece w3 p2 c2 H ∧ Below w.heap.size w w3) := ⟨A2.out.1.kept hb, A2.out.2.1.kept hb, hP2, A2.out.2.2.trans (hb.mono A2.out.2.2.size)⟩
  clear ho hb hP2 A2
  have cv1 := conv_any A3.out.2.1.1 (c := c1) 19 HAL.out
  have cv2 := conv_any A3.out.2.2.1.1 (c := c2) 19 hHl
  have n2 : (strF H).toList = [104, 101, 108, 108, 111, 44, 32, 104, 101, 108, 108, 111, 44, 32, 104, 101, 108, 108, 111] := by rw [HH.out, he_str, ByteArray.toList_eq]
  have n1 : ((strF A).toList == [104, 101, 108, 108, 111, 44, 32, 104, 101, 108, 108, 111, 44, 32, 104, 101, 108, 108, 111]) = false := by
    rw [← n2, beq_eq_false_iff_ne]
    intro e
    refine HNE.out (strF_inj HAB.out HHB.out ?_)
    exact toList_inj e
  clear hHl
  go_wp2_with (refine wpList_exec (by rfl) _ (exec_load_all 22 (.tmp 1) rfl w.heap.size rfl 22 (u8s K) _ A3.out.1 Try.underlying22 rfl IK.out) ?_)
  refine (HS.out w3).mono ?_
  rintro r w4 ⟨rfl, hb⟩
  have HB4 := hide (A3.out.2.2.2.trans (hb.mono A3.out.2.2.2.size))
  clear hb n1 n2 cv1 cv2 A3
  go_wp2
  go_ret
  exact ⟨rfl, HB4.out⟩

theorem known_any (w : World) : Calls Try.prog 9 #[] w fun e w' => e = .returned (.bool true) ∧ Below w.heap.size w w' := by
  refine known_of kn3 heT (trF (hbF kn3 7) 0 heT) w kn3_blk kn3_built rfl heT_bytes (by rw [trF_length]; rfl) (trF_bytes (fun i => hbF_blk kn3_blk 7 i) 0 heT_bytes) he_other ?_ ?_
  · intro p c xs ys v hp hl h
    have := turn_any kn3 7 19 p c xs v kn3_blk (by omega) hp hl (by omega)
    rcases h with ⟨rfl, rfl⟩ | ⟨rfl, rfl⟩
    · exact this
    · rw [trF_twice] at this; exact this
  · intro v
    exact strm_none _ kn3 7 1048576 1 v rfl (by omega) (by omega) (by omega)

end Go.Proofs.Ytflakgigekfgcaa
