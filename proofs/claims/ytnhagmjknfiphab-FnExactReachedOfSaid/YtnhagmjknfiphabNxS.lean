/- What the specification's NextOf returns. No condition. -/
import Derived.Test.YtnhagmjknfiphabNxM
import Derived.Test.YtnhagmjknfiphabPrS
namespace Go.Proofs.Ytnhagmjknfiphab
open Go.ChangeShapes Go.WideShapes Go.ChangeAt Go.RowKit
theorem nx_lit {V : List Int} {w W : World} (hb : Below w.heap.size w W) (l : List Int) {g n : Nat} {cs : Array Value} (h : V = l) (hg : g = W.heap.size) (hn : n = l.length) (hc : cs = (IntL.all l).toArray) (hl : l.length ≤ maxLen) : NxOwn V w (.returned (.slice (some ⟨g, 0, none⟩) n n)) (W.alloc (.cells cs 3)) := by
  subst h
  subst hg
  subst hn
  subst hc
  have h1 := World.ownsRow_lit (base := w.heap.size) (e := 3) (size := 1) W (IntL.all V).toArray V.length hb.size hl (by simp [IntL.all_len])
  exact ⟨hb.alloc hb.size _, _, _, rfl, h1⟩
set_option maxRecDepth 100000 in
set_option maxHeartbeats 4000000 in
theorem s_next (vw vm vi : Int) (L : List InsR) (s : Value) (pc : Int) (w : World) (hs : Cs.Shows w 0 4 s L.length (InsR.all L)) (hok : ∀ r ∈ L, r.Ok) (hL : L.length ≤ maxLen) :
    Calls Try.prog 8 #[.agg #[.int .i64 vw, .int .i64 vm, .int .i64 vi, s], .int .i64 pc] w (NxOwn (nxL vw vm vi L pc) w) := by
  have hml : maxLen = 9223372036854775807 := rfl
  have HS := Lib.hid hs
  have K1 := Lib.hid (fun W (hb : Below w.heap.size w W) => s_prog vw vm vi L s W (hs.below hb) hok hL)
  obtain ⟨_, q, cap, rfl, _⟩ := hs
  obtain ⟨b1, hb1⟩ : ∃ B, prB vw vm vi L = B := ⟨_, rfl⟩
  rw [hb1] at K1
  obtain ⟨V, hV⟩ : ∃ V, nxL vw vm vi L pc = V := ⟨_, rfl⟩
  rw [hV]
  have HR : Hid (∀ j, (h : j < L.length) → ∃ b o, q = some ⟨b, o, none⟩ ∧ b < w.heap.size ∧ ∀ W, Below w.heap.size w W → W.cell? ⟨b, o + j * 4, none⟩ = some (.int .i64 L[j].f0) ∧ W.cell? ⟨b, o + j * 4 + 1, none⟩ = some (.int .i64 L[j].f1) ∧ W.cell? ⟨b, o + j * 4 + 2, none⟩ = some (.int .i64 L[j].f2) ∧ W.cell? ⟨b, o + j * 4 + 3, none⟩ = some (.int .i64 L[j].f3)) := Lib.hid (fun j h => by
    rcases Cs.shows_cases HS.out with ⟨h0, _⟩ | ⟨_, b, o, c, hq, _, _, hbl, hr⟩
    · omega
    · injection hq with e1 e2 e3
      refine ⟨b, o, e1, hbl, fun W hW => ?_⟩
      have hh := flat_nth InsR.cells 4 (fun _ => rfl) L j h (rangeAt_below hW hr)
      exact ⟨hh 0 _ rfl, hh 1 _ rfl, hh 2 _ rfl, hh 3 _ rfl⟩)
  have HB0 := Lib.hid ((Below.refl w.heap.size w).alloc (Nat.le_refl _) (.cells #[.int .i64 vw, .int .i64 vm, .int .i64 vi, .slice q L.length cap] 30))
  have X0 := Lib.hid (cell4_alloc w 30 (.int .i64 vw) (.int .i64 vm) (.int .i64 vi) (.slice q L.length cap))
  obtain ⟨w0, hw0⟩ : ∃ w0, w0 = w.alloc (.cells #[.int .i64 vw, .int .i64 vm, .int .i64 vi, .slice q L.length cap] 30) := ⟨_, rfl⟩
  have hs0 : w0.heap.size = w.heap.size + 1 := by rw [hw0]; simp
  rw [← hw0] at HB0 X0
  clear HS
  go_enter Try.func8, Try.ntmps8
  go_wp2_with fail
  rw [← hw0]
  clear hw0
  refine (K1.out _ HB0.out).mono ?_
  rintro e w1 ⟨rfl, hb⟩
  have HB1 := Lib.hid (HB0.out.trans (hb.mono HB0.out.size))
  have X1 := Lib.hid (X0.out.below hb)
  have hs1 := hb.size
  have hz0 : w.heap.size < w1.heap.size := by omega
  clear hb
  obtain ⟨x0, x1, x2, x3⟩ := X1.out
  cases b1
  case false =>
    have hv : V = [] := by rw [← hV]; unfold nxL; rw [hb1]; simp
    subst hv
    go_wp2
    go_ret
    exact nx_none rfl HB1.out
  case true =>
    obtain ⟨⟨-, -, -, -, -, -, -, hl1, hl40⟩, hins⟩ := pr_in hb1
    obtain ⟨b2, h2⟩ : ∃ B, (decide (0 ≤ pc) && decide (pc ≤ (L.length : Int) - 1)) = B := ⟨_, rfl⟩
    have K2 := Lib.hid (fun W => s_rng pc 0 ((L.length : Int) - 1) b2 h2 W)
    go_wp2_with fail
    refine (K2.out _).mono ?_
    rintro e wx ⟨rfl, rfl⟩
    cases b2
    case false =>
      have hv : V = [] := by
        rw [← hV]
        unfold nxL
        rw [if_neg]
        rintro ⟨-, h3, h4⟩
        rw [decide_eq_true h3, decide_eq_true (show pc ≤ (L.length : Int) - 1 by omega)] at h2
        cases h2
      subst hv
      go_wp2
      go_ret
      exact nx_none rfl HB1.out
    case true =>
      simp only [Bool.and_eq_true, decide_eq_true_eq] at h2
      obtain ⟨j, rfl⟩ : ∃ j : Nat, pc = j := ⟨pc.toNat, by omega⟩
      have hjn : j < L.length := by omega
      have hv : V = nxR L[j] j := by
        rw [← hV]
        unfold nxL
        rw [if_pos ⟨hb1, by omega, by omega⟩, Int.toNat_natCast, List.getD_eq_getElem?_getD, List.getElem?_eq_getElem hjn, Option.getD_some]
      obtain ⟨bb, o, rfl, hbl, hcells⟩ := HR.out j hjn
      obtain ⟨c0, c1, c2, c3⟩ := hcells w1 HB1.out
      have hij := hins j hjn
      clear hcells hV HR hins
      generalize L[j] = g at *
      obtain ⟨op, a, b, c⟩ := g
      simp only at c0 c1 c2 c3
      have hbw : bb < w1.heap.size := by omega
      have hki : (j : Int) < (L.length : Int) := by omega
      have hkj : decide ((j : Int) < (L.length : Int)) = true := by simp; omega
      have HB2 := Lib.hid (HB1.out.alloc HB1.out.size (.cells #[.int .i64 op, .int .i64 a, .int .i64 b, .int .i64 c] 49))
      by_cases h9 : op = 9
      · subst h9
        go_wp2
        go_ret
        exact nx_lit (HB2.out) [b] (show V = [b] by rw [hv]; simp [nxR]) (by simp) rfl rfl (by simp; omega)
      have n9 : (op == 9) = false := by simpa using h9
      by_cases h12 : op = 12
      · subst h12
        have hv0 : V = [] := by rw [hv]; simp [nxR]
        go_wp2
        go_ret
        exact nx_none hv0 HB2.out
      have n12 : (op == 12) = false := by simpa using h12
      by_cases h14 : op = 14
      · subst h14
        have hv0 : V = [] := by rw [hv]; simp [nxR]
        go_wp2
        go_ret
        exact nx_none hv0 HB2.out
      have n14 : (op == 14) = false := by simpa using h14
      by_cases h10 : op = 10
      · subst h10
        by_cases hlt : b < (j : Int) + 1
        · have hv0 : V = [b, (j : Int) + 1] := by rw [hv]; unfold nxR; simp [hlt]
          go_wp2
          go_ret
          exact nx_lit (HB2.out) [b, (j : Int) + 1] hv0 (by simp) rfl rfl (by simp; omega)
        · by_cases hgt : (j : Int) + 1 < b
          · have hv0 : V = [(j : Int) + 1, b] := by rw [hv]; unfold nxR; simp [hlt, hgt]
            go_wp2
            go_ret
            exact nx_lit (HB2.out) [(j : Int) + 1, b] hv0 (by simp) rfl rfl (by simp; omega)
          · have hv0 : V = [(j : Int) + 1] := by rw [hv]; unfold nxR; simp [hlt, hgt]
            go_wp2
            go_ret
            exact nx_lit (HB2.out) [(j : Int) + 1] hv0 (by simp) rfl rfl (by simp; omega)
      have n10 : (op == 10) = false := by simpa using h10
      by_cases h11 : op = 11
      · subst h11
        by_cases hlt : b < (j : Int) + 1
        · have hv0 : V = [b, (j : Int) + 1] := by rw [hv]; unfold nxR; simp [hlt]
          go_wp2
          go_ret
          exact nx_lit (HB2.out) [b, (j : Int) + 1] hv0 (by simp) rfl rfl (by simp; omega)
        · by_cases hgt : (j : Int) + 1 < b
          · have hv0 : V = [(j : Int) + 1, b] := by rw [hv]; unfold nxR; simp [hlt, hgt]
            go_wp2
            go_ret
            exact nx_lit (HB2.out) [(j : Int) + 1, b] hv0 (by simp) rfl rfl (by simp; omega)
          · have hv0 : V = [(j : Int) + 1] := by rw [hv]; unfold nxR; simp [hlt, hgt]
            go_wp2
            go_ret
            exact nx_lit (HB2.out) [(j : Int) + 1] hv0 (by simp) rfl rfl (by simp; omega)
      have n11 : (op == 11) = false := by simpa using h11
      have hv0 : V = [(j : Int) + 1] := by rw [hv]; simp [nxR, h9, h12, h14, h10, h11]
      go_wp2
      go_ret
      exact nx_lit (HB2.out) [(j : Int) + 1] hv0 (by simp) rfl rfl (by simp; omega)
end Go.Proofs.Ytnhagmjknfiphab
