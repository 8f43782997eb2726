/- The text of a mark: markText. No condition. -/
import Derived.Test.YtbdkningngpgcaaDec
import Derived.Deep.QuietTactic
namespace Go.Proofs.Ytbdkningngpgcaa
open Go.ChangeShapes Go.WideShapes Go.ChangeAt Go.RowKit
def mk (k : Nat) : ByteArray := ⟨(109 :: Lib.decDigits k).toArray⟩
set_option maxRecDepth 100000 in
theorem mark_text (n : Nat) (h1 : 1 ≤ n) (hmax : n ≤ 9223372036854775807) (w : World) : Calls Try.prog 107 #[.int .i64 n] w fun e w' => e = .returned (.string (mk n)) ∧ Below w.heap.size w w' := by
  have HL := Lib.hid (dec_len n (by omega))
  have hn0 : (n : Int) ≥ 1 := by omega
  go_enter Try.func107, Try.ntmps107
  go_wp2
  go_loopw [0, 3] (fun a s wr => ∃ (k : Nat) (acc : List UInt8), k ≤ n ∧ a = .int .i64 k ∧ s = .string ⟨acc.toArray⟩ ∧ Lib.decDigits n = (if k = 0 then [] else Lib.decDigits k) ++ acc ∧ Below w.heap.size w wr) (fun a _ _ => (intOf a).toNat)
  case atStart => exact ⟨n, [], Nat.le_refl _, rfl, rfl, by rw [if_neg (by omega)]; simp, Below.refl _ _⟩
  case round =>
    obtain ⟨k, acc, hk, rfl, rfl, hd, hb⟩ := hrel
    have hsz := hb.size
    have hal : acc.length ≤ 20 := by
      have := HL.out
      rw [hd, List.length_append] at this
      omega
    obtain ⟨c, hc1, hc2, hc3⟩ := digit_of k
    have HC1 := Lib.hid hc1
    have HC2 := Lib.hid hc2
    have HC3 := Lib.hid hc3
    have HD := Lib.hid hd
    have HB := Lib.hid hb
    clear hd hb hc1 hc2 hc3
    by_cases h0 : 0 < k
    · have hcv := fun (w : World) => conv1 w c (48 + (k : Int) % 10) HC1.out
      go_wp2
      go_roundw
      case rel =>
        refine ⟨k / 10, c :: acc, by omega, by simp, by rw [cat1], ?_, HB.out.alloc hsz _⟩
        rw [HD.out, if_neg (by omega)]
        by_cases h9 : 9 < k
        · rw [if_neg (by omega), HC2.out h9]; simp
        · rw [if_pos (by omega), HC3.out (by omega)]; simp
      case measure => simp [intOf]; omega
    · have HE := Lib.hid (show Lib.decDigits n = acc by rw [HD.out, if_pos (by omega)]; rfl)
      go_wp2
      go_ret
      refine ⟨?_, HB.out⟩
      unfold mk
      rw [HE.out]
      show Ending.returned (.string _) = _
      rw [cat1]
end Go.Proofs.Ytbdkningngpgcaa
