/- Two rows of ints compared by slices.Equal. No condition. -/
import Derived.Test.YtogmiahkccmfbabFlInt
namespace Go.Proofs.Ytogmiahkccmfbab
open Go.ChangeShapes Go.WideShapes Go.ChangeAt Go.RowKit
set_option maxRecDepth 100000 in
set_option maxHeartbeats 2000000 in
theorem i_eqv (A B : List Int) (v1 v2 : Value) (w : World) (h1 : Cs.Shows w 0 1 v1 A.length (IntL.all A)) (h2 : Cs.Shows w 0 1 v2 B.length (IntL.all B)) (hA : A.length ≤ maxLen) (hB : B.length ≤ maxLen) :
    Calls Try.prog 42 #[v1, v2] w fun e w' => e = .returned (.bool (decide (A = B))) ∧ Below w.heap.size w w' := by
  have hml : maxLen = 9223372036854775807 := rfl
  have HS1 := Lib.hid h1
  have HS2 := Lib.hid h2
  obtain ⟨_, q1, cap1, rfl, _⟩ := h1
  obtain ⟨_, q2, cap2, rfl, _⟩ := h2
  obtain ⟨V, hV⟩ : ∃ V, decide (A = B) = V := ⟨_, rfl⟩
  rw [hV]
  by_cases hlen : A.length = B.length
  · have HR1 : Hid (∀ j, (h : j < A.length) → ∃ b o, q1 = some ⟨b, o, none⟩ ∧ b < w.heap.size ∧ ∀ W, Below w.heap.size w W → W.cell? ⟨b, o + j, none⟩ = some (.int .i64 A[j])) := Lib.hid (fun j h => by
      rcases Cs.shows_cases HS1.out with ⟨h0, _⟩ | ⟨_, b, o, c, hq, _, _, hbl, hr⟩
      · omega
      · injection hq with e1 e2 e3
        exact ⟨b, o, e1, hbl, fun W hW => IntL.nth A j h (rangeAt_below hW hr)⟩)
    have HR2 : Hid (∀ j, (h : j < B.length) → ∃ b o, q2 = some ⟨b, o, none⟩ ∧ b < w.heap.size ∧ ∀ W, Below w.heap.size w W → W.cell? ⟨b, o + j, none⟩ = some (.int .i64 B[j])) := Lib.hid (fun j h => by
      rcases Cs.shows_cases HS2.out with ⟨h0, _⟩ | ⟨_, b, o, c, hq, _, _, hbl, hr⟩
      · omega
      · injection hq with e1 e2 e3
        exact ⟨b, o, e1, hbl, fun W hW => IntL.nth B j h (rangeAt_below hW hr)⟩)
    have HNO := Lib.hid (fun j (h : j < A.length) (h' : j < B.length) (hne : A[j] ≠ B[j]) => show V = false by rw [← hV]; exact decide_eq_false fun e => hne (by subst e; rfl))
    have HYES := Lib.hid (fun (he : A.take A.length = B.take A.length) => show V = true by rw [← hV]; exact decide_eq_true (by rw [List.take_length, hlen, List.take_length] at he; exact he))
    have hlb : (B.length : Int) = (A.length : Int) := by omega
    clear HS1 HS2 hV
    go_enter Try.func42, Try.ntmps42
    go_wp2
    go_loopw [13] (fun i wr => ∃ (j : Nat), j ≤ A.length ∧ i = .int .i64 j ∧ A.take j = B.take j ∧ Below w.heap.size w wr) (fun i _ => A.length - (intOf i).toNat)
    case atStart => exact ⟨0, Nat.zero_le _, rfl, rfl, Below.refl _ _⟩
    case round =>
      obtain ⟨j, hj, rfl, ht, hb⟩ := hrel
      by_cases hjn : j < A.length
      · obtain ⟨b1, o1, rfl, hl1, hc1⟩ := HR1.out j hjn
        obtain ⟨b2, o2, rfl, hl2, hc2⟩ := HR2.out j (by omega)
        have c0 := hc1 wr hb
        have d0 := hc2 wr hb
        have hno := HNO.out j hjn (by omega)
        have HST := Lib.hid (show ∀ (he : A[j] = B[j]'(by omega)), A.take (j + 1) = B.take (j + 1) from fun he => by
          rw [List.take_succ_eq_append_getElem hjn, List.take_succ_eq_append_getElem (show j < B.length by omega), ht, he])
        have HNO2 := Lib.hid hno
        generalize A[j] = x at *
        generalize B[j]'(by omega) = y at *
        have HB := Lib.hid hb
        have hki : (j : Int) < (A.length : Int) := by omega
        have hki2 : (j : Int) < (B.length : Int) := by omega
        clear hb hc1 hc2 ht hno
        by_cases hxy : x = y
        · subst hxy
          have HT := Lib.hid (HST.out rfl)
          clear HST HNO2
          go_wp2
          go_quiet (fail)
          go_wp2
          go_roundw
          case rel => exact ⟨j + 1, by omega, by go_num, HT.out, below_drewN HB.out _⟩
          case measure => simp [intOf]; omega
        · have hv := HNO2.out hxy
          subst hv
          have hn : (x != y) = true := by simpa using hxy
          clear HST HNO2
          go_wp2
          go_quiet (fail)
          go_wp2
          go_ret
          exact ⟨rfl, below_drewN HB.out _⟩
      · have hje : j = A.length := by omega
        subst hje
        have hv := HYES.out ht
        subst hv
        have HB := Lib.hid hb
        have hnj : ¬ ((A.length : Int) < (A.length : Int)) := by omega
        clear hb
        go_wp2
        go_ret
        exact ⟨rfl, HB.out⟩
  · have hv : V = false := by rw [← hV]; exact decide_eq_false fun e => hlen (by rw [e])
    subst hv
    have hlb : ((A.length : Int) != (B.length : Int)) = true := by simp; omega
    clear hV HS1 HS2
    go_enter Try.func42, Try.ntmps42
    go_wp2
    go_ret
    exact ⟨rfl, Below.refl _ _⟩
end Go.Proofs.Ytogmiahkccmfbab
