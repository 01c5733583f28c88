/-
  ShaWords, the tied card: at every number the program's Start and Turn tell the reference's words, and the known rows come out: the law returns true, and the number stays. No condition but the two tables, which the card ties to the program's text.
-/
import Derived.Test.YtfopjobcjafgaaaDoorSW
import Derived.Test.YtfopjobcjafgaaaDoorHE
namespace Go.Proofs.YtfopjobcjafgaaaDoor
open Go.RowKit

set_option maxHeartbeats 1000000 in
set_option maxRecDepth 100000 in
theorem words_walk : WordsWalk := by
  intro k W hL
  have HL := hide hL
  have HS := hide (shaStart_any k W hL)
  have HR := hide (refStart_any k W)
  clear hL
  generalize wordAt startT k = a at *
  go_enter Tryd.func3, Tryd.ntmps3
  go_wp2_with fail
  refine HS.out.mono ?_
  rintro e w1 ⟨rfl, hw1⟩
  subst hw1
  go_wp2_with fail
  refine HR.out.mono ?_
  rintro e w2 ⟨rfl, hb2⟩
  have L2 := hide (HL.out.kept hb2)
  have B2 := hide hb2
  have HT := hide (shaTurn_any k w2 L2.out)
  have HU := hide (refTurn_any k w2)
  clear hb2
  generalize wordAt turnT k = t at *
  go_wp2_with fail
  refine HT.out.mono ?_
  rintro e w3 ⟨rfl, hw3⟩
  subst hw3
  go_wp2_with fail
  refine HU.out.mono ?_
  rintro e w4 ⟨rfl, hb4⟩
  have L4 := hide (L2.out.kept hb4)
  have B4 := hide (B2.out.trans (hb4.mono B2.out.size))
  clear hb4
  go_wp2_with fail
  refine (known_any w4 L4.out).mono ?_
  rintro e w5 ⟨rfl, hb5⟩
  have B5 := hide (B4.out.trans (hb5.mono B4.out.size))
  clear hb5
  go_wp2
  go_ret
  exact ⟨rfl, B5.out⟩

theorem shaWords_holds : Rows.ShaWordsCardSaid := words_card words_walk
#print axioms shaWords_holds

end Go.Proofs.YtfopjobcjafgaaaDoor
