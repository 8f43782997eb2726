/- l02Node, whole: whether a node and all below it fit. -/
import Derived.Test.YtkgdmamafemniaaDoorNodeOk2
import Derived.Test.YtkgdmamafemniaaDoorNodeOk3
import Derived.Test.YtkgdmamafemniaaDoorNodeA
import Derived.Test.YtkgdmamafemniaaDoorNodeB
import Derived.Test.YtkgdmamafemniaaDoorNodeD
import Derived.Test.YtkgdmamafemniaaDoorNodeE
import Derived.Test.YtkgdmamafemniaaDoorNodeF
import Derived.Test.YtkgdmamafemniaaDoorFits2
namespace Go.Proofs.YtkgdmamafemniaaDoor
open Go.ChangeShapes Go.WideShapes Go.ChangeAt Go.RowKit
theorem node_loop (F : Fo) (hF : F.AllK NodeC) : NodeC F := by
  intro op wd n nm s w his hsz hcost
  have bad : fitB op wd n nm F.ws = false → (fitB op wd n nm F.ws && F.allB) = false := fun h => by rw [h, Bool.false_and]
  cases hw : wdB wd with
  | false =>
    rw [bad (by unfold fitB; rw [hw]; simp)]
    exact nd_bad_w op wd n nm s F w his hw
  | true =>
    cases hne : nm.toList.isEmpty with
    | false =>
      by_cases h22 : op = 22
      · subst h22
        by_cases hn : n = 0
        · subst hn; exact nd_g4 wd nm s F hF w his hsz hcost hw hne
        · rw [bad (by unfold fitB; simp [hn])]
          exact nd_bad_n2 wd n nm s F w his hw hne hn
      · rw [bad (by unfold fitB; rw [hne]; simp [h22])]
        exact nd_bad_nm op wd n nm s F w his hw hne h22
    | true =>
      obtain rfl := empty_of hne
      by_cases hn : n = 0
      · subst hn
        rcases op_cases op with rfl | rfl | rfl | ⟨h1, h2⟩ | ⟨h1, h2⟩ | rfl | rfl | rfl | rfl | rfl | rfl | h
        · exact nd_c0 wd s F hF w his hcost hw
        · exact nd_c12 1 wd s F hF w his hcost hw (by omega) (by omega)
        · exact nd_c12 2 wd s F hF w his hcost hw (by omega) (by omega)
        · exact nd_c3 op wd s F hF w his hcost hw h1 h2
        · exact nd_c14 op wd s F hF w his hcost hw h1 h2
        · exact nd_c17 wd s F hF w his hcost hw
        · exact nd_c18 wd s F hF w his hcost hw
        · exact nd_c19 wd s F hF w his hcost hw
        · exact nd_c20 20 wd s F hF w his hcost hw (by omega) (by omega)
        · exact nd_c20 21 wd s F hF w his hcost hw (by omega) (by omega)
        · exact nd_c22 wd s F hF w his hcost hw
        · exact nd_no op wd s F hF w his hcost hw h
      · by_cases h0 : op = 0
        · subst h0; exact nd_g2 wd n s F hF w his hcost hw hn
        · by_cases h19 : op = 19
          · subst h19; exact nd_g3 wd n s F hF w his hcost hw hn
          · rw [bad (by unfold fitB; simp [hn, h0, h19])]
            exact nd_bad_n op wd n s F w his hw hn h0 h19
theorem node_any : ∀ F : Fo, NodeC F := Fo.every node_loop
end Go.Proofs.YtkgdmamafemniaaDoor
