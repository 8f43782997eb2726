/- What the program's newBuilder and CircuitOk return. No condition. -/
import Derived.Test.YtimjkgciakbolabGtI
import Derived.Test.YtimjkgciakbolabGtS
import Derived.Carry
namespace Go.Proofs.Ytimjkgciakbolab
open Go.ChangeShapes Go.WideShapes Go.ChangeAt Go.RowKit
def NbEnd (I : Int) (L : List GateR) (w : World) (e : Ending) (w' : World) : Prop := Below w.heap.size w w' ∧ ((ccB I L = false ∧ e = .returned (.tuple #[.pointer none, .bool false])) ∨ (ccB I L = true ∧ ∃ B bp, e = .returned (.tuple #[.pointer (some ⟨bp, 0, none⟩), .bool true]) ∧ Bu w.heap.size B bp I ⟨L, false⟩ w'))
set_option maxRecDepth 100000 in
set_option maxHeartbeats 1000000 in
theorem i_new (I : Int) (L : List GateR) (s : Value) (w : World) (hs : Cs.Shows w 0 2 s L.length (GateR.all L)) (hI : -9223372036854775808 ≤ I ∧ I ≤ 9223372036854775807) (hok : ∀ r ∈ L, r.Ok) (hl : L.length ≤ maxLen) :
    Calls Try.prog 34 #[.agg #[.int .i64 I, s]] w (NbEnd I L w) := by
  have hml : maxLen = 9223372036854775807 := rfl
  have hmm := @run_makeMap Try.prog
  have HS := Lib.hid hs
  obtain ⟨_, q, cap, rfl, hcap, _⟩ := hs
  have HX := Lib.hid (below_two (B := w.heap.size + 1) (heap_alloc_new w (.cells #[.int .i64 I, .slice q L.length cap] 29)) (by omega))
  have HB0 := Lib.hid ((Below.refl w.heap.size w).alloc (Nat.le_refl _) (.cells #[.int .i64 I, .slice q L.length cap] 29))
  obtain ⟨w1, hw1⟩ : ∃ w1, w1 = w.alloc (.cells #[.int .i64 I, .slice q L.length cap] 29) := ⟨_, rfl⟩
  have hs1 : w1.heap.size = w.heap.size + 1 := by rw [hw1]; simp
  rw [← hw1] at HX HB0
  obtain ⟨x0, x1⟩ := HX.out w1 (Below.refl _ _)
  by_cases hi0 : I < 0
  · have HV := Lib.hid (cc_out (I := I) (L := L) (.inl hi0))
    clear HX
    subst hw1
    go_enter Try.func34, Try.ntmps34
    go_wp2
    go_ret2
    exact ⟨HB0.out, .inl ⟨HV.out, rfl⟩⟩
  by_cases hi1 : 30 < I
  · have HV := Lib.hid (cc_out (I := I) (L := L) (.inr (.inl hi1)))
    clear HX
    subst hw1
    go_enter Try.func34, Try.ntmps34
    go_wp2
    go_ret2
    exact ⟨HB0.out, .inl ⟨HV.out, rfl⟩⟩
  by_cases hl2 : 360 < L.length
  · have HV := Lib.hid (cc_out (I := I) (L := L) (.inr (.inr hl2)))
    clear HX
    subst hw1
    go_enter Try.func34, Try.ntmps34
    go_wp2
    go_ret2
    exact ⟨HB0.out, .inl ⟨HV.out, rfl⟩⟩
  have HV := Lib.hid (cc_in (L := L) (I := I) (by omega) (by omega) (by omega))
  have HAT := Lib.hid (fun j (h : j < L.length) => gts_at I L j h)
  have HEND := Lib.hid (fun D => gts_end I L D L.length (Nat.le_refl _))
  have HG := Lib.hid (fun j (h : j < L.length) => hok L[j] (List.getElem_mem h))
  have HR : Hid (∀ j, (h : j < L.length) → ∃ b o, q = some ⟨b, o, none⟩ ∧ b < w.heap.size ∧ ∀ W, Below w.heap.size w W → W.cell? ⟨b, o + j * 2, none⟩ = some (.int .i64 L[j].f0) ∧ W.cell? ⟨b, o + j * 2 + 1, none⟩ = some (.int .i64 L[j].f1)) := Lib.hid (fun j h => by
    rcases Cs.shows_cases HS.out with ⟨h0, _⟩ | ⟨_, b, o, c, hq, _, _, hbl, hr⟩
    · omega
    · injection hq with e1 e2 e3
      refine ⟨b, o, e1, hbl, fun W hW => ?_⟩
      have hh := flat_nth GateR.cells 2 (fun _ => rfl) L j h (rangeAt_below hW hr)
      exact ⟨hh 0 _ rfl, hh 1 _ rfl⟩)
  have HTK := Lib.hid (fun j (h : j < L.length) => List.take_succ_eq_append_getElem h)
  clear hok HS
  have KA := Lib.hid (fun B bp N g W (h : Bu w.heap.size B bp I N W) hn hg => i_accepts w.heap.size B bp I N g W h (by omega) hn hg)
  have KP := Lib.hid (fun B bp N g W (h : Bu w.heap.size B bp I N W) hn hg hno => i_put w.heap.size B bp I N g W W h (Below.refl _ _) (by omega) hn hg hno)
  have H1 : Hid (Bu w.heap.size (w.heap.size + 3) (w.heap.size + 2) I ⟨L.take 0, false⟩ ((w1.alloc (.map #[] 0)).alloc (.cells #[.int .i64 I, .slice none 0 0, .map (some (w.heap.size + 1)), .bool false] 70))) := Lib.hid (by
    refine ⟨none, 0, w.heap.size + 1, ?_, World.ownsRow_nil _ _ _ _, ?_, by omega, by omega, by omega, by omega, by simp [hs1]⟩
    · have := heap_alloc_new (w1.alloc (.map #[] 0)) (.cells #[.int .i64 I, .slice none 0 0, .map (some (w.heap.size + 1)), .bool false] 70)
      rw [show (w1.alloc (.map #[] 0)).heap.size = w.heap.size + 2 by simp [hs1]] at this
      exact this
    · have := MpAt.made I w1
      rw [hs1] at this
      exact this.same (((Below.refl _ (w1.alloc (.map #[] 0))).alloc (Nat.le_refl _) _).block (w.heap.size + 1) (by simp [hs1])))
  have HB1 : Hid (Below w.heap.size w ((w1.alloc (.map #[] 0)).alloc (.cells #[.int .i64 I, .slice none 0 0, .map (some (w.heap.size + 1)), .bool false] 70))) := Lib.hid ((HB0.out.alloc (by omega) _).alloc (by simp; omega) _)
  rw [hw1] at x0 x1
  go_enter Try.func34, Try.ntmps34
  go_wp2
  rw [← hw1]
  clear hw1 x0 x1 hmm
  obtain ⟨W0, hW0⟩ : ∃ W0, W0 = (w1.alloc (.map #[] 0)).alloc (.cells #[.int .i64 I, .slice none 0 0, .map (some (w.heap.size + 1)), .bool false] 70) := ⟨_, rfl⟩
  rw [← hW0] at H1 HB1 ⊢
  clear hW0
  go_loopw [29] (fun i wr => ∃ j : Nat, j ≤ L.length ∧ i = .int .i64 j ∧ gtsB I (L.take j) (L.drop j) = ccB I L ∧ Below w.heap.size w wr ∧ Bu w.heap.size (w.heap.size + 3) (w.heap.size + 2) I ⟨L.take j, false⟩ wr) (fun i _ => L.length - (intOf i).toNat)
  case atStart => exact ⟨0, Nat.zero_le _, rfl, by rw [HV.out]; rfl, HB1.out, H1.out⟩
  case round =>
    clear HV H1 HB1
    obtain ⟨j, hj, rfl, hv, hb, hbu⟩ := hrel
    have HV := Lib.hid hv
    have HB := Lib.hid hb
    have HBU := Lib.hid hbu
    clear hv
    by_cases hjn : j < L.length
    · obtain ⟨b, o, rfl, hbl, hcells⟩ := HR.out j hjn
      obtain ⟨c0, c1⟩ := hcells wr hb
      have hg := HG.out j hjn
      have hat := HAT.out j hjn
      have htk := HTK.out j hjn
      have hsz := hb.size
      have hlj : (L.take j).length = j := by rw [List.length_take]; omega
      generalize L[j] = g at *
      clear hcells hb hbu
      have HGO := Lib.hid hg
      have HAJ := Lib.hid hat
      have HTJ := Lib.hid htk
      obtain ⟨a, d⟩ := g
      simp only at c0 c1
      clear hat htk hg
      have hki : decide ((j : Int) < (L.length : Int)) = true := by simp; omega
      have HB2 := Lib.hid ((Below.refl wr.heap.size wr).alloc (Nat.le_refl _) (.cells #[.int .i64 a, .int .i64 d] 48))
      have HY := Lib.hid (below_two (B := wr.heap.size + 1) (heap_alloc_new wr (.cells #[.int .i64 a, .int .i64 d] 48)) (by omega))
      have hlt : b < wr.heap.size := by omega
      obtain ⟨vv, hvv⟩ : ∃ vv, gtB I (L.take j) ⟨a, d⟩ = vv := ⟨_, rfl⟩
      have HVV := Lib.hid hvv
      have KA2 := Lib.hid (KA.out _ _ _ ⟨a, d⟩ _ (HBU.out.keep HB2.out) (by show (L.take j).length ≤ 361; omega) HGO.out)
      simp only [hvv] at KA2
      obtain ⟨W, hW⟩ : ∃ W, W = wr.alloc (.cells #[.int .i64 a, .int .i64 d] 48) := ⟨_, rfl⟩
      have hsW : W.heap.size = wr.heap.size + 1 := by rw [hW]; simp
      rw [← hW] at HB2 HY KA2
      clear hvv
      cases vv with
      | false =>
        have HF := Lib.hid (show ccB I L = false by rw [← HV.out, HAJ.out, HVV.out]; rfl)
        go_wp2_with fail
        rw [← hW]
        clear hW
        refine KA2.out.mono ?_
        rintro e W2 ⟨rfl, hb2⟩
        have HBF := Lib.hid (HB.out.trans ((HB2.out.trans (hb2.mono (by omega))).mono (by omega)))
        clear hb2
        go_wp2
        go_ret2
        exact ⟨HBF.out, .inl ⟨HF.out, rfl⟩⟩
      | true =>
        have HVG := Lib.hid (gt_of HVV.out)
        have HEQ := Lib.hid (show gtsB I (L.take (j + 1)) (L.drop (j + 1)) = ccB I L by rw [← HV.out, HAJ.out, HVV.out]; rfl)
        go_wp2_with fail
        rw [← hW]
        clear hW
        refine KA2.out.mono ?_
        rintro e W2 ⟨rfl, hb2⟩
        have HB5 := Lib.hid (HB2.out.trans (hb2.mono (by omega)))
        obtain ⟨y0, y1⟩ := HY.out W2 (hb2.mono (by omega))
        have HBU5 := Lib.hid (HBU.out.keep HB5.out)
        clear hb2
        have KP2 := Lib.hid (KP.out _ _ _ ⟨a, d⟩ _ HBU5.out (by show (L.take j).length < 360; omega) HGO.out HVG.out.2.2.2)
        have hz5 := HB5.out.size
        go_wp2_with (go_at_call 58; refine KP2.out.mono ?_; rintro e W3 ⟨rfl, hbu3, hb3, _, _⟩)
        have HBU3 := Lib.hid hbu3
        have HB6 := Lib.hid (HB.out.trans ((HB5.out.mono (by omega)).trans hb3))
        go_roundw
        case rel => exact ⟨j + 1, by omega, by go_num, HEQ.out, HB6.out, by rw [HTJ.out]; exact HBU3.out⟩
        case measure => simp [intOf]; omega
    · obtain rfl : j = L.length := by omega
      have hv := HV.out
      rw [HEND.out] at hv
      have hbu2 := HBU.out
      rw [List.take_length] at hbu2
      have HBU2 := Lib.hid hbu2
      have hki : decide ((L.length : Int) < (L.length : Int)) = false := by simp
      clear hbu2 hbu hb
      go_wp2
      go_ret2
      exact ⟨HB.out, .inr ⟨hv.symm, _, _, rfl, HBU2.out⟩⟩
set_option maxRecDepth 100000 in
theorem i_cc (I : Int) (L : List GateR) (s : Value) (w : World) (hs : Cs.Shows w 0 2 s L.length (GateR.all L)) (hI : -9223372036854775808 ≤ I ∧ I ≤ 9223372036854775807) (hok : ∀ r ∈ L, r.Ok) (hl : L.length ≤ maxLen) :
    Calls Try.prog 12 #[.agg #[.int .i64 I, s]] w fun e w' => e = .returned (.bool (ccB I L)) ∧ Below w.heap.size w w' := by
  have KN := Lib.hid (fun W (hb : Below w.heap.size w W) => i_new I L s W (hs.below hb) hI hok hl)
  obtain ⟨_, q, cap, rfl, _⟩ := hs
  have HX := Lib.hid (below_two (B := w.heap.size + 1) (heap_alloc_new w (.cells #[.int .i64 I, .slice q L.length cap] 29)) (by omega))
  have HB0 := Lib.hid ((Below.refl w.heap.size w).alloc (Nat.le_refl _) (.cells #[.int .i64 I, .slice q L.length cap] 29))
  obtain ⟨w1, hw1⟩ : ∃ w1, w1 = w.alloc (.cells #[.int .i64 I, .slice q L.length cap] 29) := ⟨_, rfl⟩
  have hs1 : w1.heap.size = w.heap.size + 1 := by rw [hw1]; simp
  rw [← hw1] at HX HB0
  obtain ⟨x0, x1⟩ := HX.out w1 (Below.refl _ _)
  rw [hw1] at x0 x1
  go_enter Try.func12, Try.ntmps12
  go_wp2_with fail
  rw [← hw1]
  refine (KN.out _ HB0.out).mono ?_
  clear hw1 x0 x1
  rintro e w2 ⟨hb, ⟨hc, rfl⟩ | ⟨hc, B, bp, rfl, _⟩⟩
  all_goals
    have HB := Lib.hid (HB0.out.trans (hb.mono (by omega)))
    have HC := Lib.hid hc
    clear hb hc
    go_wp2
    go_ret
    exact ⟨by rw [HC.out] <;> rfl, HB.out⟩
end Go.Proofs.Ytimjkgciakbolab
