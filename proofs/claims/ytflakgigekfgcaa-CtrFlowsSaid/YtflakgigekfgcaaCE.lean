/-
  Walks: a text turned, from a place on and from 0 on; a stream's bytes, as far as there are any.
-/
import Derived.Test.YtflakgigekfgcaaCD
namespace Go.Proofs.Ytflakgigekfgcaa
open Go.RowKit

theorem own_base {w : World} {B B' : Nat} {e : TypeId} {v : Value} {n : Nat} {xs : List Value} (h : w.ownsRow B e 1 v n xs) (hB : B' ≤ B) : w.ownsRow B' e 1 v n xs := by
  refine ⟨h.1, ?_⟩
  rcases h.2 with h0 | ⟨g, cap, cur, e1, e2, e3⟩
  · exact .inl h0
  · exact .inr ⟨g, cap, cur, e1, Nat.le_trans hB e2, e3⟩

/-- what lies in memory while a text is turned -/
structure StV (w wr : World) (p : Option Addr) (c : Nat) (xs : List Nat) (v : Value) (n : Nat) (row : List Nat) : Prop where
  t : Piece wr p c xs
  o : wr.ownsRow w.heap.size 5 1 v n (u8s row)
  bl : Below w.heap.size w wr
  f : ∀ a, p = some a → xs ≠ [] → a.block < w.heap.size

theorem piece_lt {w : World} {p : Option Addr} {c : Nat} {xs : List Nat} (h : Piece w p c xs) : ∀ a, p = some a → xs ≠ [] → a.block < w.heap.size := fun a ha hx => by
  rcases h.1 with h0 | ⟨g, o, hp, hc⟩
  · exact (hx h0).elim
  · rw [hp] at ha
    cases ha
    exact block_lt_of_cell (hc 0 (by cases xs with | nil => exact (hx rfl).elim | cons => simp))

theorem Piece.set {w : World} {p : Option Addr} {c : Nat} {xs : List Nat} (h : Piece w p c xs) {g i : Nat} {v : Value} (hg : ∀ a, p = some a → xs ≠ [] → a.block ≠ g) : Piece (w.setCell ⟨g, i, none⟩ v) p c xs := by
  refine ⟨?_, h.2⟩
  rcases h.1 with h0 | ⟨b, o, hp, hc⟩
  · exact Or.inl h0
  · by_cases hx : xs = []
    · exact Or.inl hx
    · refine Or.inr ⟨b, o, hp, fun j hj => ?_⟩
      have hne : b ≠ g := hg _ hp hx
      rw [World.cell?_of_block (w := w) (Below.heap_setCell _ _ _ b (fun e => hne e))]
      exact hc j hj

set_option maxHeartbeats 4000000 in
set_option maxRecDepth 100000 in
theorem turned_of (gn gq f n : Nat) (p : Option Addr) (c : Nat) (xs S T : List Nat) (w : World) (hx : Piece w p c xs) (hn : xs.length = n) (hn2 : n ≤ 1048576) (Sl : S.length = n) (Tl : T.length = n) (hS : BytesN S) (hT : ∀ i, i < n → S.getD i 0 ^^^ xs.getD i 0 = T.getD i 0)
    (hC : Calls Try.prog 19 #[.func (.func 28) #[] #[.pointer (some ⟨gn, 0, none⟩), .pointer (some ⟨gq, 0, none⟩)], .int .i64 (f : Int), .int .i64 (n : Int)] w fun r w' => ∃ v, r = .returned v ∧ w'.ownsRow w.heap.size 5 1 v n (u8s S) ∧ Below w.heap.size w w') :
    Calls Try.prog 24 #[.func (.func 28) #[] #[.pointer (some ⟨gn, 0, none⟩), .pointer (some ⟨gq, 0, none⟩)], .int .i64 (f : Int), .slice p n c] w fun r w' => ∃ v, r = .returned v ∧ w'.ownsRow w.heap.size 5 1 v n (u8s T) ∧ Below w.heap.size w w' := by
  have HX := hide hx
  have HN := hide hn
  have SL := hide Sl
  have TL := hide Tl
  have HS := hide hS
  have HT := hide hT
  have HC := hide hC
  clear hx hn Sl Tl hS hT hC
  go_enter Try.func24, Try.ntmps24
  go_wp2_with fail
  refine HC.out.mono ?_
  rintro r w1 ⟨v, rfl, ho1, hb1⟩
  obtain ⟨q, d, rfl⟩ := own_val ho1
  have H1 : Hid (StV w w1 p c xs (.slice q n d) n (over T S 0)) := ⟨HX.out.kept hb1, by rw [over_zero]; exact ho1, hb1, piece_lt HX.out⟩
  clear ho1 hb1 HC HX
  go_wp2
  go_loopg [8, 9, 17] (n + 1) (fun fu s8 s9 s17 wr => ∃ (i : Nat), s17 = .int .i64 (i : Int) ∧ i ≤ n ∧ n - i < fu ∧ Hid (StV w wr p c xs (.slice q n d) n (over T S i)))
  case atStart => exact ⟨0, rfl, by omega, by omega, H1⟩
  case round =>
    clear H1
    obtain ⟨i, rfl, hi, hf, HR⟩ := hrel
    by_cases hlt : i < n
    · obtain ⟨g, cap, hv, hgw, hgl, hnc, hcm⟩ := own_shape HR.out.o (by omega)
      cases hv
      obtain ⟨b, o, hp, hcell⟩ : ∃ b o, p = some ⟨b, o, none⟩ ∧ Bts wr b o xs := by
        rcases HR.out.t.1 with h0 | h
        · have := HN.out; rw [h0] at this; simp at this; omega
        · exact h
      subst hp
      have cx := hcell i (by rw [HN.out]; exact hlt)
      have hbg : b < w.heap.size := HR.out.f _ rfl (fun e => by have := HN.out; rw [e] at this; simp at this; omega)
      have OL : Hid ((over T S i).length = n) := over_length T S n i TL.out SL.out (Nat.le_of_lt hlt)
      have e1 := over_at T S n i i TL.out SL.out hlt
      rw [if_neg (Nat.lt_irrefl i)] at e1
      have cr := (HR.out.o.cellAt i (by omega)).trans (u8s_at (by rw [OL.out]; exact hlt))
      rw [e1] at cr
      have HO := hide (over_set T S n i TL.out SL.out hlt)
      have ex := hide (HT.out i hlt)
      have hSi := getD_byte HS.out i
      have hXi := getD_byte HR.out.t.2.2.1 i
      have eu := u8_xor_nat (S.getD i 0) (xs.getD i 0) hSi hXi
      rw [ex.out] at eu
      have fr := HR.out.o.frozenAt i
      have hi64 : (i : Int) < (n : Int) := by omega
      have HRO := hide HR.out.o
      have HRT := hide HR.out.t
      have HRB := hide HR.out.bl
      have HRF := hide HR.out.f
      clear HR e1 hcell ex
      generalize S.getD i 0 = s at *
      generalize xs.getD i 0 = x at *
      generalize T.getD i 0 = t at *
      go_wp2
      go_roundg (n - i)
      case measure => omega
      case rel =>
        refine ⟨i + 1, by go_num, by omega, by omega, HRT.out.set (fun a ha hne => ?_), ?_, HRB.out.setCell (show w.heap.size ≤ g from hgw) _, HRF.out⟩
        · cases ha; show b ≠ g; omega
        · have h := (HRO.out.stored i (.int .u8 (t : Int))).1
          rw [u8s_set, HO.out] at h
          exact h
    · have e : i = n := by omega
      subst e
      have h1 := HR.out.o
      rw [over_full T S i TL.out SL.out] at h1
      have HO := hide h1
      have HB := hide HR.out.bl
      clear h1 HR
      go_wp2
      go_ret
      exact ⟨_, rfl, HO.out, HB.out⟩

theorem turned_any (key : List Nat) (gn gq nn f n : Nat) (p : Option Addr) (c : Nat) (xs : List Nat) (w : World) (hk : Blk key) (hnn : nn < 18446744073709551616) (hN : Arr w gn 23 [.int .u64 (nn : Int)]) (hK : Arr w gq 22 (u8s key)) (hf : f ≤ 1099511627776) (hx : Piece w p c xs) (hn : xs.length = n) (hn2 : n ≤ 1048576) :
    Calls Try.prog 24 #[.func (.func 28) #[] #[.pointer (some ⟨gn, 0, none⟩), .pointer (some ⟨gq, 0, none⟩)], .int .i64 (f : Int), .slice p n c] w fun r w' => ∃ v, r = .returned v ∧ w'.ownsRow w.heap.size 5 1 v n (u8s (trF (hbF key nn) f xs)) ∧ Below w.heap.size w w' :=
  turned_of gn gq f n p c xs _ _ w hx hn hn2 (stF_length (hbF key nn) f n) (by rw [trF_length, hn]) (stF_bytes (fun i => hbF_blk hk nn i) f n)
    (fun i hi => by rw [stF_at, if_pos hi, trF_at _ _ _ (by omega), Nat.xor_comm]) (stream_any key gn gq nn f n w hk hnn hN hK hf hn2)

set_option maxHeartbeats 2000000 in
/-- a text turned, from 0 on -/
theorem turn_any (key : List Nat) (nn n : Nat) (p : Option Addr) (c : Nat) (xs : List Nat) (w : World) (hk : Blk key) (hnn : nn < 18446744073709551616) (hx : Piece w p c xs) (hn : xs.length = n) (hn2 : n ≤ 1048576) :
    Calls Try.prog 12 #[.agg (u8s key).toArray, .int .u64 (nn : Int), .slice p n c] w fun r w' => ∃ v, r = .returned v ∧ w'.ownsRow w.heap.size 5 1 v n (u8s (trF (hbF key nn) 0 xs)) ∧ Below w.heap.size w w' := by
  have HC := hide (fun (w : World) (gn gq : Nat) (hN : Arr w gn 23 [.int .u64 (nn : Int)]) (hK : Arr w gq 22 (u8s key)) (hx : Piece w p c xs) => turned_any key gn gq nn 0 n p c xs w hk hnn hN hK (by omega) hx hn hn2)
  have HX := hide hx
  have IK := hide (szb hk)
  have HM := hide (maker_any key nn)
  clear hx hk
  generalize trF (hbF key nn) 0 xs = T at *
  have A0 : Hid (Arr (w.alloc (Obj.cells (u8s key).toArray 22)) w.heap.size 22 (u8s key) ∧ Below w.heap.size w (w.alloc (Obj.cells (u8s key).toArray 22))) := ⟨Arr.new w _ _, (Below.refl _ _).alloc (Nat.le_refl _) _⟩
  go_enter Try.func12, Try.ntmps12
  go_wp2_with (refine wpList_load_row rfl 22 _ rfl w.heap.size rfl 22 _ (0, 0) _ A0.out.1 Try.underlying22 rfl IK.out ?_)
  generalize w.alloc (Obj.cells (u8s key).toArray 22) = w1 at *
  refine (HM.out w1).mono ?_
  rintro r w2 ⟨rfl, hw2⟩
  have B1 : Below w1.heap.size w1 w2 := by rw [hw2]; exact ((Below.refl _ _).alloc (Nat.le_refl _) _).alloc (by simp) _
  have H2 : Hid (Arr w2 (w1.heap.size + 1) 23 [.int .u64 (nn : Int)] ∧ Arr w2 w1.heap.size 22 (u8s key) ∧ Piece w2 p c xs ∧ Below w.heap.size w w2) := by
    refine ⟨?_, ?_, ?_, ?_⟩
    · rw [hw2]; exact Arr.newAt (w1.alloc _) _ [.int .u64 (nn : Int)] _ (by simp)
    · rw [hw2]; exact (Arr.new w1 _ _).alloc _
    · exact (HX.out.kept A0.out.2).kept (B1.mono (Nat.le_refl _))
    · exact A0.out.2.trans (B1.mono A0.out.2.size)
  clear hw2 B1 A0 HX
  generalize w1.heap.size = g1 at *
  go_wp2_with fail
  refine (HC.out _ _ _ H2.out.1 H2.out.2.1 H2.out.2.2.1).mono ?_
  rintro r w3 ⟨v, rfl, ho, hb⟩
  have h2 := H2.out.2.2.2
  have HO : Hid (w3.ownsRow w.heap.size 5 1 v n (u8s T)) := own_base ho h2.size
  have HB := hide (h2.trans (hb.mono h2.size))
  clear ho hb h2 HC
  go_wp2
  go_ret
  exact ⟨_, rfl, HO.out, HB.out⟩

end Go.Proofs.Ytflakgigekfgcaa
