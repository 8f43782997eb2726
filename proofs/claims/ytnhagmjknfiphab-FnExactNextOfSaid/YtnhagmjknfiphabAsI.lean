/- What the program's ascending leaves of a row of ints that is owned. No condition. -/
import Derived.Test.YtnhagmjknfiphabSoC
namespace Go.Proofs.Ytnhagmjknfiphab
open Go.ChangeShapes Go.WideShapes Go.ChangeAt Go.RowKit
set_option maxRecDepth 100000 in
set_option maxHeartbeats 4000000 in
theorem i_asc {base : Nat} {w0 w : World} {v : Value} {n : Nat} (zs : List Int) (hz : zs.length = n) (ho : w.ownsRow base 3 1 v n (IntL.all zs)) (hb : Below base w0 w) (hn : n < 4611686018427387904) :
    Calls Try.prog 32 #[v] w fun e w' => ∃ q cap, e = .returned (.slice q (Lib.compact (sortI zs)).length cap) ∧ w'.ownsRow base 3 1 (.slice q (Lib.compact (sortI zs)).length cap) (Lib.compact (sortI zs)).length (IntL.all (Lib.compact (sortI zs))) ∧ Below base w0 w' := by
  have KS := Lib.hid (own_sort zs hz ho hb hn)
  clear ho hb
  go_enter Try.func32, Try.ntmps32
  go_wp2_with fail
  refine KS.out.mono ?_
  rintro e w8 ⟨rfl, hos, hb⟩
  have KC := Lib.hid (own_compact (sortI zs) (n := n) (by rw [sortI_len]; exact hz) hos hb hn)
  clear hos hb
  go_wp2_with fail
  refine KC.out.mono ?_
  rintro e w9 ⟨q9, c9, rfl, ho, hb⟩
  have HO9 := Lib.hid ho
  have HB9 := Lib.hid hb
  clear ho hb
  go_wp2
  go_ret
  exact ⟨q9, c9, rfl, HO9.out, HB9.out⟩
end Go.Proofs.Ytnhagmjknfiphab
