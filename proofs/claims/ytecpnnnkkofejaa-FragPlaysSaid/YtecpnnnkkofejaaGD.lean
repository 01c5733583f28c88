/-
  Plain: a joiner. Walks of the document's answer: how many bytes are held, the piece at a place.
-/
import Derived.Test.YtecpnnnkkofejaaGC
namespace Go.Proofs.Ytecpnnnkkofejaa
open Go.RowKit

/-- bytes of the call's own that are read: in a row of bytes, from block B on -/
def OB (w : World) (B : Nat) (p : Option Addr) (b : List Nat) : Prop := BR w p b ∧ ∀ a, p = some a → b ≠ [] → B ≤ a.block ∧ ∃ cs fr, w.heap[a.block]? = some (.cells cs 5 fr)
theorem OB.kept {w w' : World} {B : Nat} {p : Option Addr} {b : List Nat} (h : OB w B p b) (hb : Below w.heap.size w w') : OB w' B p b := by
  refine ⟨h.1.kept hb, fun a ha hn => ?_⟩
  obtain ⟨h1, cs, fr, h2⟩ := h.2 a ha hn
  have hlt : a.block < w.heap.size := by
    by_cases hlt : a.block < w.heap.size
    · exact hlt
    · rw [Array.getElem?_eq_none (by omega)] at h2; cases h2
  exact ⟨h1, cs, fr, by rw [hb.block _ hlt]; exact h2⟩
/-- .. a block of another type is written -/
theorem OB.keptR {w w' : World} {B g : Nat} {p : Option Addr} {b : List Nat} {t : TypeId} {us : Array Value} {f : Nat × Nat} (h : OB w B p b) (hg : w.grownBy w' (some g)) (hw : w.heap[g]? = some (.cells us t f)) (ht : t ≠ 5) : OB w' B p b := by
  have hne : ∀ a, p = some a → b ≠ [] → a.block ≠ g := fun a ha hn e => by
    obtain ⟨_, cs, fr, h2⟩ := h.2 a ha hn
    rw [e, hw] at h2
    simp at h2
    exact ht h2.2.1
  refine ⟨⟨bi_grown h.1.1 hg hne, h.1.2⟩, fun a ha hn => ?_⟩
  obtain ⟨h1, cs, fr, h2⟩ := h.2 a ha hn
  have hlt : a.block < w.heap.size := by
    by_cases hlt : a.block < w.heap.size
    · exact hlt
    · rw [Array.getElem?_eq_none (by omega)] at h2; cases h2
  exact ⟨h1, cs, fr, by rw [hg.block _ hlt (fun e => hne a ha hn (by cases e; rfl))]; exact h2⟩
theorem own_ob {w : World} {B : Nat} {v : Value} {l : List Nat} {n : Nat} (h : w.ownsRow B 5 1 v n (u8s l)) (hl : l.length = n) (hb : BytesN l) : ∃ p c, v = .slice p n c ∧ OB w B p l := by
  obtain ⟨p, c, hv, hP, hB⟩ := own_piece_n h hl hb
  refine ⟨p, c, hv, hP.br, fun a ha hn => ⟨(hB a ha).1, ?_⟩⟩
  subst hv
  rcases h.2 with ⟨h0, _⟩ | ⟨g, cap, cur, h0, _, hg, _⟩
  · cases h0; cases ha
  · cases h0; cases ha
    exact ⟨_, _, hg⟩

/-- a joiner's block, what it holds, and the bytes of these -/
structure RJ (w : World) (B g : Nat) (met done : Bool) (i : Nat) (must : Int) (q : Option Addr) (d : Nat) (ks : List Pk) : Prop where
  j : Arr w g 45 [.bool met, .bool done, .int .u64 (i : Int), .int .i64 must, .slice q ks.length d]
  o : w.ownsRow B 25 4 (.slice q ks.length d) ks.length (pkC ks)
  e : ∀ k ∈ ks, OB w B k.p k.x.b ∧ (k.p = none → k.c = 0)
theorem RJ.kept {w w' : World} {B g i d : Nat} {met done : Bool} {must : Int} {q : Option Addr} {ks : List Pk} (h : RJ w B g met done i must q d ks) (hb : Below w.heap.size w w') : RJ w' B g met done i must q d ks :=
  ⟨h.j.kept hb, own_below h.o hb, fun k hk => ⟨(h.e k hk).1.kept hb, (h.e k hk).2⟩⟩
/-- the cells of a piece that is held -/
theorem RJ.cell {w : World} {B g i d : Nat} {met done : Bool} {must : Int} {q : Option Addr} {ks : List Pk} (h : RJ w B g met done i must q d ks) (h0 : 0 < ks.length) : ∃ b, q = some ⟨b, 0, none⟩ ∧ ∀ (j : Nat) (k : Pk), ks[j]? = some k → ∀ t, t < 4 → w.cell? ⟨b, j * 4 + t, none⟩ = k.C[t]? := by
  obtain ⟨b, cap, hv, _⟩ : ∃ b cap, (Value.slice q ks.length d) = .slice (some ⟨b, 0, none⟩) ks.length cap ∧ True := by
    rcases h.o.2 with ⟨_, h1⟩ | ⟨b, cap, cur, h1, _⟩
    · omega
    · exact ⟨b, cap, h1, trivial⟩
  cases hv
  refine ⟨b, rfl, fun j k hj t ht => ?_⟩
  have hjl : j < ks.length := by
    rcases Nat.lt_or_ge j ks.length with h' | h'
    · exact h'
    · rw [List.getElem?_eq_none h'] at hj; cases hj
  rw [show j * 4 + t = 4 * j + t by omega, h.o.cellAt (4 * j + t) (by omega), pkC_get ks j t ht, hj]
  rfl

/-- how many bytes -/
def sumB : List Pk → Nat
  | [] => 0
  | k :: l => k.x.b.length + sumB l
theorem sumB_snoc (l : List Pk) (k : Pk) : sumB (l ++ [k]) = sumB l + k.x.b.length := by
  induction l with
  | nil => simp [sumB]
  | cons x l ih => simp [sumB, ih]; omega
theorem sumB_take (l : List Pk) (j : Nat) (k : Pk) (h : l[j]? = some k) : sumB (l.take (j + 1)) = sumB (l.take j) + k.x.b.length := by
  rw [List.take_add_one, h]
  exact sumB_snoc _ _
theorem sumB_le (l : List Pk) (j : Nat) : sumB (l.take j) ≤ sumB l := by
  induction l generalizing j with
  | nil => simp
  | cons x l ih =>
    cases j with
    | zero => simp [sumB]
    | succ j => have := ih j; simp [sumB]; omega

set_option maxHeartbeats 4000000 in
set_option maxRecDepth 100000 in
theorem size_any (w : World) (B g i d n S : Nat) (met done : Bool) (must : Int) (q : Option Addr) (ks : List Pk) (h : RJ w B g met done i must q d ks) (hn : ks.length = n) (hn2 : n ≤ 1000000) (hS : sumB ks = S) (hS2 : S ≤ 1000000000) :
    Calls Try.prog 24 #[.pointer (some ⟨g, 0, none⟩)] w fun e w' => e = .returned (.int .i64 (S : Int)) ∧ w' = w := by
  have HJ := hide h
  have HN := hide hn
  have HS := hide hS
  have c4 := h.j.cell 4
  simp only [List.getElem?_cons_zero, List.getElem?_cons_succ] at c4
  rw [hn] at c4
  have HLE := hide (fun j => sumB_le ks j)
  clear h hn hS
  go_enter Try.func24, Try.ntmps24
  go_wp2_with fail
  go_loopg [3, 4] (n + 1) (fun f s3 s4 wr => ∃ (j m : Nat), s3 = .int .i64 (m : Int) ∧ s4 = .int .i64 (j : Int) ∧ j ≤ n ∧ n - j < f ∧ Hid (sumB (ks.take j) = m) ∧ wr = w)
  case atStart => exact ⟨0, 0, rfl, rfl, by omega, by omega, (show sumB _ = 0 by simp [sumB]), rfl⟩
  case round =>
    obtain ⟨j, m, rfl, rfl, hj, hf, HM, rfl⟩ := hrel
    have hms : (m : Int) ≤ 1000000000 := by have h1 := HLE.out j; rw [HM.out, HS.out] at h1; omega
    by_cases hjn : j < n
    · obtain ⟨k, hk⟩ : ∃ k, ks[j]? = some k := ⟨ks[j]'(by rw [HN.out]; exact hjn), List.getElem?_eq_getElem _⟩
      obtain ⟨b, rfl, hc⟩ := HJ.out.cell (by rw [HN.out]; omega)
      have hc3 := hc j k hk 3 (by omega)
      simp only [Pk.C, pcC, List.getElem?_cons_zero, List.getElem?_cons_succ] at hc3
      have HT := hide (sumB_take ks j k hk)
      rw [HM.out] at HT
      have hkl : ((m + k.x.b.length : Nat) : Int) ≤ 1000000000 := by have h1 := HLE.out (j + 1); rw [HT.out, HS.out] at h1; omega
      generalize k.x.b.length = l at *
      generalize k.p = kp at *
      generalize k.c = kc at *
      clear hc hk HJ
      go_wp2
      go_roundg (n - j)
      case measure => omega
      case rel => exact ⟨j + 1, m + l, by simp, by simp, by omega, by omega, HT.out, rfl⟩
    · have hjn' : j = n := by omega
      subst hjn'
      have HE : Hid (m = S) := by
        have h1 := HM.out
        rw [List.take_of_length_le (by rw [HN.out]; exact Nat.le_refl _)] at h1
        exact h1.symm.trans HS.out
      go_wp2
      go_ret
      exact ⟨by rw [HE.out]; rfl, rfl⟩

/-- the piece at a place -/
def findP (ks : List Pk) (a : Int) : Option Pk := ks.find? fun k => k.x.a == a
theorem findP_at {ks : List Pk} {a : Int} {j : Nat} {k : Pk} (h : ∀ x ∈ ks.take j, x.x.a ≠ a) (hk : ks[j]? = some k) (ha : k.x.a = a) : findP ks a = some k := by
  induction ks generalizing j with
  | nil => simp at hk
  | cons x l ih =>
    cases j with
    | zero =>
      simp at hk
      subst hk
      simp [findP, ha]
    | succ j =>
      have hx : x.x.a ≠ a := h x (by simp)
      have := ih (j := j) (fun y hy => h y (by simp; right; exact hy)) (by simpa using hk)
      rw [findP, List.find?_cons_of_neg (by simpa using hx)]
      exact this
theorem findP_none {ks : List Pk} {a : Int} (h : ∀ x ∈ ks, x.x.a ≠ a) : findP ks a = none := by
  rw [findP, List.find?_eq_none]
  intro x hx
  simpa using h x hx
/-- what is told of it -/
def atX (ks : List Pk) (a : Int) : Pc := match findP ks a with | some k => k.x | none => Pc.none
def atP (ks : List Pk) (a : Int) : Option Addr := match findP ks a with | some k => k.p | none => none
def atC (ks : List Pk) (a : Int) : Nat := match findP ks a with | some k => k.c | none => 0

set_option maxHeartbeats 4000000 in
set_option maxRecDepth 100000 in
theorem at_of (w : World) (B g i d n : Nat) (met done r : Bool) (must a : Int) (q P : Option Addr) (C : Nat) (X : Pc) (ks : List Pk) (h : RJ w B g met done i must q d ks) (hn : ks.length = n) (hn2 : n ≤ 1000000)
    (h1 : ∀ k, findP ks a = some k → k.x = X ∧ k.p = P ∧ k.c = C ∧ r = true) (h2 : findP ks a = none → X = Pc.none ∧ P = none ∧ C = 0 ∧ r = false) :
    Calls Try.prog 39 #[.pointer (some ⟨g, 0, none⟩), .int .i64 a] w fun e w' => e = .returned (.tuple #[pcV X P C, .bool r]) ∧ Below w.heap.size w w' := by
  have Z : Hid (Arr (w.alloc (Obj.cells #[.int .u64 0, .int .i64 0, .bool false, .slice none 0 0] 25)) w.heap.size 25 (pcC Pc.none none 0) ∧ Below w.heap.size w (w.alloc (Obj.cells #[.int .u64 0, .int .i64 0, .bool false, .slice none 0 0] 25))) := ⟨Arr.new w _ _, (Below.refl _ _).alloc (Nat.le_refl _) _⟩
  have HJ := hide (h.kept Z.out.2)
  have HN := hide hn
  have H1 := hide h1
  have H2 := hide h2
  clear h hn h1 h2
  go_enter Try.func39, Try.ntmps39
  go_upto_region 1 with fail
  generalize w.alloc (Obj.cells #[.int .u64 0, .int .i64 0, .bool false, .slice none 0 0] 25) = w1 at *
  have c4 := HJ.out.j.cell 4
  simp only [List.getElem?_cons_zero, List.getElem?_cons_succ] at c4
  rw [HN.out] at c4
  go_wp2_with fail
  go_loopg [6] (n + 1) (fun f s6 wr => ∃ (j : Nat), s6 = .int .i64 (j : Int) ∧ j ≤ n ∧ n - j < f ∧ Hid (∀ x ∈ ks.take j, x.x.a ≠ a) ∧ wr = w1)
  case atStart => exact ⟨0, rfl, by omega, by omega, (fun x hx => by simp at hx), rfl⟩
  case round =>
    obtain ⟨j, rfl, hj, hf, HM, rfl⟩ := hrel
    by_cases hjn : j < n
    · obtain ⟨k, hk⟩ : ∃ k, ks[j]? = some k := ⟨ks[j]'(by rw [HN.out]; exact hjn), List.getElem?_eq_getElem _⟩
      obtain ⟨b, rfl, hc⟩ := HJ.out.cell (by rw [HN.out]; omega)
      have hc1 := hc j k hk 1 (by omega)
      simp only [Pk.C, pcC, List.getElem?_cons_zero, List.getElem?_cons_succ] at hc1
      have HRA : Hid (wr.rangeAt b (j * 4) k.C) := fun t v hv => by
        have ht : t < 4 := by
          have := (List.getElem?_eq_some_iff.1 hv).1
          simpa [Pk.C] using this
        rw [hc j k hk t ht]; exact hv
      have HK := hide hk
      clear hc hk
      by_cases ha : k.x.a = a
      · obtain ⟨e1, e2, e3, rfl⟩ := H1.out k (findP_at HM.out HK.out ha)
        have hab : (k.x.a == a) = true := by simpa using ha
        have HCC : Hid (k.C = pcC X P C) := by show _ = _; rw [Pk.C, e1, e2, e3]
        rw [HCC.out] at HRA
        clear ha e1 e2 e3
        go_wp2_with (first
          | (refine wpList_exec (by rfl) _ (exec_load_mid 25 (.tmp 31) rfl b (j * 4) rfl (pcC X P C) _ HRA.out Try.underlying25 rfl infoPc) ?_)
          | (refine wpList_store_row rfl 25 _ _ rfl w.heap.size (pcC X P C).toArray rfl rfl 25 (pcC Pc.none none 0).toArray Z.out.1 infoPc rfl (one_pcC _ _ _) ?_))
        exact bodyPost_ret (results_ct Try.results39 _ _ w.heap.size (pcC X P C) rfl (Z.out.1.row _) Try.underlying25 rfl infoPc) rfl ⟨rfl, below_setRow Z.out.2 (Nat.le_refl _) Z.out.1.lt _⟩
      · have hab : (k.x.a == a) = false := by simpa using ha
        have HNX : Hid (∀ x ∈ ks.take (j + 1), x.x.a ≠ a) := fun x hx => by
          rw [List.take_add_one, HK.out] at hx
          rcases List.mem_append.1 hx with h | h
          · exact HM.out x h
          · simp at h; rw [h]; exact ha
        clear ha
        go_wp2
        go_roundg (n - j)
        case measure => omega
        case rel => exact ⟨j + 1, by simp, by omega, by omega, HNX.out, rfl⟩
    · have hjn' : j = n := by omega
      subst hjn'
      have HA : Hid (∀ x ∈ ks, x.x.a ≠ a) := by
        have h1 := HM.out
        rw [List.take_of_length_le (by rw [HN.out]; exact Nat.le_refl _)] at h1
        exact h1
      obtain ⟨rfl, rfl, rfl, rfl⟩ := H2.out (findP_none HA.out)
      go_wp2_with (refine wpList_store_row rfl 25 _ _ rfl w.heap.size (pcC Pc.none none 0).toArray rfl rfl 25 (pcC Pc.none none 0).toArray Z.out.1 infoPc rfl (one_pcC _ _ _) ?_)
      exact bodyPost_ret (results_ct Try.results39 _ _ w.heap.size (pcC Pc.none none 0) rfl (Z.out.1.row _) Try.underlying25 rfl infoPc) rfl ⟨rfl, below_setRow Z.out.2 (Nat.le_refl _) Z.out.1.lt _⟩

theorem at_any (w : World) (B g i d n : Nat) (met done : Bool) (must a : Int) (q : Option Addr) (ks : List Pk) (h : RJ w B g met done i must q d ks) (hn : ks.length = n) (hn2 : n ≤ 1000000) :
    Calls Try.prog 39 #[.pointer (some ⟨g, 0, none⟩), .int .i64 a] w fun e w' => e = .returned (.tuple #[pcV (atX ks a) (atP ks a) (atC ks a), .bool (findP ks a).isSome]) ∧ Below w.heap.size w w' := by
  refine at_of w B g i d n met done _ must a q _ _ _ ks h hn hn2 (fun k hk => ?_) (fun hk => ?_)
  · simp [atX, atP, atC, hk]
  · simp [atX, atP, atC, hk]

end Go.Proofs.Ytecpnnnkkofejaa
