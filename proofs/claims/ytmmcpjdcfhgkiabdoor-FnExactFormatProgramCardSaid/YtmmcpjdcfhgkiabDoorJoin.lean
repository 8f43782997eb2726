/- What Join and its model return for a list of strings that lies in memory. -/
import Derived.Test.YtmmcpjdcfhgkiabDoorShelf
import Derived.Test.YtmmcpjdcfhgkiabDoorSJoin
namespace Go.Proofs.YtmmcpjdcfhgkiabDoor
open Go.ChangeShapes Go.WideShapes Go.ChangeAt Go.RowKit
theorem i_join_none (a : Option Addr) (c : Nat) (sep : ByteArray) (w : World) : Calls Tryd.prog 31 #[.slice a 0 c, .string sep] w fun e w' => e = .returned (.string ⟨#[]⟩) ∧ w = w' := by
  go_enter Tryd.func31, Tryd.ntmps31
  go_wp2_with (go_at_call 42; refine (Tryd.strings_Join_none _ _ _ _).mono ?_; rintro e w' ⟨rfl, rfl⟩)
  go_ret
  exact ⟨rfl, rfl⟩
theorem i_join (b o c n : Nat) (xs : List ByteArray) (sep : ByteArray) (hn : xs.length = n) (hmax : n ≤ 1048577) (hcap : n ≤ c) (hlen : (JN xs sep).length ≤ 140737488355328) (w : World) (hb : b < w.heap.size) (h : At w b o (xs.map Value.string)) :
    Calls Tryd.prog 31 #[.slice (some ⟨b, o, none⟩) n c, .string sep] w fun e w' => e = .returned (.string ⟨(JN xs sep).toArray⟩) ∧ Below w.heap.size w w' := by
  subst hn
  have H := Lib.hid h
  have HL := Lib.hid hlen
  have K := Lib.hid (Tryd.strings_Join b o c xs sep w (fun j x hx => h j _ (by simp [hx])) hb (by omega) hcap hlen)
  clear h hlen
  go_enter Tryd.func31, Tryd.ntmps31
  go_wp2_with (go_at_call 42; refine (K.out).mono ?_; rintro e w' ⟨rfl, hb'⟩)
  go_ret
  exact ⟨rfl, hb'⟩
end Go.Proofs.YtmmcpjdcfhgkiabDoor
