/- Contracts of ValuesOk and its model: both say whether a list is one of values. -/
import Derived.Test.YtkoeegeplginkaaFlValue
import Derived.Test.YtkoeegeplginkaaWk
import Derived.Test.YtkoeegeplginkaaNm
import Derived.WalkSpells
namespace Go.Proofs.Ytkoeegeplginkaa
open Go.ChangeShapes Go.WideShapes Go.ChangeAt Go.RowKit
open ValueR (all costs)
def VlGood (L : List ValueR) (j : Nat) : Prop := ∀ r, L[j]? = some r → nmB r.f0 = true ∧ wkB r.f1 r.f2 = true ∧ ∀ i p, j = i + 1 → L[i]? = some p → Op.bytesLess p.f0.toList r.f0.toList = true
def VlOk (L : List ValueR) : Prop := L.length ≤ 30 ∧ ∀ j, VlGood L j
open Classical in
noncomputable def vlB (L : List ValueR) : Bool := decide (VlOk L)
theorem vlB_true {L : List ValueR} (h : VlOk L) : vlB L = true := by simp [vlB, h]
theorem vlB_false {L : List ValueR} (h : ¬ VlOk L) : vlB L = false := by simp [vlB, h]
theorem vlB_bad {L : List ValueR} {j : Nat} {r : ValueR} (hr : L[j]? = some r) (h : nmB r.f0 = false ∨ wkB r.f1 r.f2 = false) : vlB L = false := vlB_false fun hk => by
  obtain ⟨h1, h2, _⟩ := hk.2 j r hr
  rcases h with h | h
  · rw [h] at h1; cases h1
  · rw [h] at h2; cases h2
theorem vlB_down {L : List ValueR} {i : Nat} {p r : ValueR} (hp : L[i]? = some p) (hr : L[i + 1]? = some r) (h : Op.bytesLess p.f0.toList r.f0.toList = false) : vlB L = false := vlB_false fun hk => by
  have := (hk.2 (i + 1) r hr).2.2 i p rfl hp
  rw [h] at this; cases this
theorem good0 {L : List ValueR} {r : ValueR} (hr : L[0]? = some r) (h1 : nmB r.f0 = true) (h2 : wkB r.f1 r.f2 = true) : VlGood L 0 := fun r' hr' => by
  rw [hr] at hr'; cases hr'
  exact ⟨h1, h2, fun i p e => by cases e⟩
theorem good1 {L : List ValueR} {i : Nat} {p r : ValueR} (hp : L[i]? = some p) (hr : L[i + 1]? = some r) (h1 : nmB r.f0 = true) (h2 : wkB r.f1 r.f2 = true) (h3 : Op.bytesLess p.f0.toList r.f0.toList = true) : VlGood L (i + 1) := fun r' hr' => by
  rw [hr] at hr'; cases hr'
  exact ⟨h1, h2, fun j q e hq => by cases e; rw [hp] at hq; cases hq; exact h3⟩
def GoodTo (L : List ValueR) (k : Nat) : Prop := ∀ j, j < k → VlGood L j
theorem GoodTo.succ {L : List ValueR} {k : Nat} (h : GoodTo L k) (hg : VlGood L k) : GoodTo L (k + 1) := fun j hj => by
  by_cases e : j = k
  · subst e; exact hg
  · exact h j (by omega)
theorem good_all {L : List ValueR} (h : GoodTo L L.length) (hl : L.length ≤ 30) : vlB L = true := vlB_true ⟨hl, fun j => by
  by_cases hj : j < L.length
  · exact h j hj
  · intro r hr; rw [List.getElem?_eq_none (by omega)] at hr; cases hr⟩
set_option maxRecDepth 100000 in
set_option maxHeartbeats 4000000 in
theorem s_valuesOk (L : List ValueR) (v : Value) (w : World) (hv : Cs.Shows w 0 3 v L.length (all L)) (hn : L.length ≤ 1048576) (hs : ∀ r ∈ L, r.f0.size ≤ 1048576) :
    Calls Try.prog 66 #[v] w fun e w' => e = .returned (.bool (vlB L)) ∧ Below w.heap.size w w' := by
  rcases Cs.shows_cases hv with ⟨h0, q, cap, rfl⟩ | ⟨hpos, b, o, cap, rfl, _, _, hbl, hr⟩
  · have hL : L = [] := List.length_eq_zero_iff.1 h0
    subst hL
    have HT := Lib.hid (good_all (L := []) (fun j hj => absurd hj (Nat.not_lt_zero _)) (by simp))
    clear hv hn h0 hs
    go_enter Try.func66, Try.ntmps66
    go_wp2
    refine wp_loop_rounds 1 ?_
    rw [rounds_succ]
    go_wp2
    go_ret
    exact ⟨by rw [HT.out]; rfl, Below.refl _ _⟩
  · have HR := Lib.hid hr
    have HS := Lib.hid hs
    clear hr hs hv
    go_enter Try.func66, Try.ntmps66
    go_wp2
    go_loopw [7] (fun i wr => ∃ (j : Nat), j ≤ L.length ∧ i = .int .i64 j ∧ GoodTo L j ∧ Below w.heap.size w wr) (fun i _ => L.length - (intOf i).toNat)
    case atStart => exact ⟨0, Nat.zero_le _, rfl, fun j hj => absurd hj (Nat.not_lt_zero _), Below.refl _ _⟩
    case round =>
      obtain ⟨j, hj, rfl, hgood, hb⟩ := hrel
      have HG := Lib.hid hgood
      clear hgood
      by_cases hjn : j < L.length
      · have hrr := rangeAt_below hb (flat_nth ValueR.cells 3 (fun r => rfl) L j hjn HR.out)
        have hs1 := HS.out L[j] (List.getElem_mem hjn)
        have HX := Lib.hid (List.getElem?_eq_getElem hjn)
        generalize L[j] = r at *
        have c0 : wr.cell? ⟨b, o + j * 3, none⟩ = some (.string r.f0) := hrr 0 _ rfl
        have c1 : wr.cell? ⟨b, o + j * 3 + 1, none⟩ = some (.int .i64 r.f1) := hrr 1 _ rfl
        have c2 : wr.cell? ⟨b, o + j * 3 + 2, none⟩ = some (.int .i64 r.f2) := hrr 2 _ rfl
        have HB := Lib.hid hb
        have hki : (j : Int) < (L.length : Int) := by omega
        have hsz := hb.size
        have hbr : b < wr.heap.size := Nat.lt_of_lt_of_le hbl hsz
        have HBA := Lib.hid (HB.out.alloc hsz (.cells #[.string r.f0, .int .i64 r.f1, .int .i64 r.f2] 95))
        have KN := Lib.hid (fun W => s_isName r.f0 hs1 W)
        have KW := Lib.hid (fun W => s_wk r.f1 r.f2 W)
        clear hb hrr
        by_cases h1 : nmB r.f0 = true
        · rw [h1] at KN
          by_cases h2 : wkB r.f1 r.f2 = true
          · rw [h2] at KW
            have H12 := Lib.hid (And.intro h1 h2)
            clear h1 h2
            by_cases h3 : 0 < j
            · obtain ⟨i, rfl⟩ : ∃ i, j = i + 1 := ⟨j - 1, by omega⟩
              have hil : i < L.length := by omega
              have hrp := rangeAt_below HB.out (flat_nth ValueR.cells 3 (fun r => rfl) L i hil HR.out)
              have HY := Lib.hid (List.getElem?_eq_getElem hil)
              generalize L[i] = p at *
              have d0 : wr.cell? ⟨b, o + i * 3, none⟩ = some (.string p.f0) := hrp 0 _ rfl
              have hi0 : (0 : Int) ≤ (i : Int) := by omega
              have hi1 : (i : Int) < (L.length : Int) := by omega
              clear hrp
              by_cases h4 : Op.bytesLess p.f0.toList r.f0.toList = true
              · have HG1 := Lib.hid (HG.out.succ (good1 HY.out HX.out H12.out.1 H12.out.2 h4))
                have h4n : (!Op.bytesLess p.f0.toList r.f0.toList) = false := by rw [h4]; rfl
                go_wp2
                have hwi : IntKind.i64.wrap (i : Int) = (i : Int) := IntWalk.i64_in _ (by omega)
                go_quiet ((first | (go_at_call 137; exact quiet_eq (KN.out _)) | (go_at_call 138; exact quiet_eq (KW.out _))))
                clear hwi
                go_wp2
                go_roundw
                case rel => exact ⟨i + 1 + 1, by omega, by go_num, HG1.out, below_drewN HBA.out _⟩
                case measure => simp [intOf]; omega
              · have h4f : Op.bytesLess p.f0.toList r.f0.toList = false := by simpa using h4
                have HF := Lib.hid (vlB_down HY.out HX.out h4f)
                have h4n : (!Op.bytesLess p.f0.toList r.f0.toList) = true := by rw [h4f]; rfl
                clear h4
                go_wp2
                have hwi : IntKind.i64.wrap (i : Int) = (i : Int) := IntWalk.i64_in _ (by omega)
                go_quiet ((first | (go_at_call 137; exact quiet_eq (KN.out _)) | (go_at_call 138; exact quiet_eq (KW.out _))))
                clear hwi
                go_wp2
                go_ret
                exact ⟨by rw [HF.out]; rfl, below_drewN HBA.out _⟩
            · have e : j = 0 := by omega
              subst e
              have HG1 := Lib.hid (HG.out.succ (good0 HX.out H12.out.1 H12.out.2))
              have hz0 : decide ((0 : Int) < 0) = false := by decide
              rw [Nat.zero_mul, Nat.add_zero] at c0
              rw [Nat.zero_mul, Nat.add_zero] at c1
              rw [Nat.zero_mul, Nat.add_zero] at c2
              go_wp2
              go_quiet ((first | (go_at_call 137; exact quiet_eq (KN.out _)) | (go_at_call 138; exact quiet_eq (KW.out _))))
              go_wp2
              go_roundw
              case rel => exact ⟨1, by omega, rfl, HG1.out, below_drewN HBA.out _⟩
              case measure => simp [intOf]; omega
          · have h2 : wkB r.f1 r.f2 = false := by simpa using h2
            rw [h2] at KW
            have HF := Lib.hid (vlB_bad HX.out (.inr h2))
            clear h1 h2
            go_wp2
            go_quiet ((first | (go_at_call 137; exact quiet_eq (KN.out _)) | (go_at_call 138; exact quiet_eq (KW.out _))))
            go_wp2
            go_ret
            exact ⟨by rw [HF.out]; rfl, below_drewN HBA.out _⟩
        · have h1 : nmB r.f0 = false := by simpa using h1
          rw [h1] at KN
          have HF := Lib.hid (vlB_bad HX.out (.inl h1))
          clear h1
          go_wp2
          go_quiet ((first | (go_at_call 137; exact quiet_eq (KN.out _))))
          go_wp2
          go_ret
          exact ⟨by rw [HF.out]; rfl, below_drewN HBA.out _⟩
      · have ej : j = L.length := by omega
        have HB := Lib.hid hb
        have hnj : ¬ ((j : Int) < (L.length : Int)) := by omega
        clear hb
        by_cases h30 : L.length ≤ 30
        · have HT := Lib.hid (good_all (ej ▸ HG.out) h30)
          have h30i : decide ((L.length : Int) ≤ 30) = true := by simp; omega
          go_wp2
          go_ret
          exact ⟨by rw [HT.out]; first | rfl | (simp; done) | (simp; omega), HB.out⟩
        · have HF := Lib.hid (vlB_false (L := L) (fun h => h30 h.1))
          have h30i : decide ((L.length : Int) ≤ 30) = false := by simp; omega
          clear h30
          go_wp2
          go_ret
          exact ⟨by rw [HF.out]; first | rfl | (simp; done) | (simp; omega), HB.out⟩
set_option maxRecDepth 100000 in
set_option maxHeartbeats 4000000 in
theorem i_valuesOk (L : List ValueR) (v : Value) (w : World) (hv : Cs.Shows w 0 3 v L.length (all L)) (hn : L.length ≤ 1048576) (hs : ∀ r ∈ L, r.f0.size ≤ 1048576) :
    Calls Try.prog 71 #[v] w fun e w' => e = .returned (.bool (vlB L)) ∧ Below w.heap.size w w' := by
  rcases Cs.shows_cases hv with ⟨h0, q, cap, rfl⟩ | ⟨hpos, b, o, cap, rfl, _, _, hbl, hr⟩
  · have hL : L = [] := List.length_eq_zero_iff.1 h0
    subst hL
    have HT := Lib.hid (good_all (L := []) (fun j hj => absurd hj (Nat.not_lt_zero _)) (by simp))
    clear hv hn h0 hs
    go_enter Try.func71, Try.ntmps71
    go_wp2
    refine wp_loop_rounds 1 ?_
    rw [rounds_succ]
    go_wp2
    go_ret
    exact ⟨by rw [HT.out]; rfl, Below.refl _ _⟩
  · have HR := Lib.hid hr
    have HS := Lib.hid hs
    clear hr hs hv
    by_cases h30 : L.length ≤ 30
    · have h30i : (L.length : Int) ≤ 30 := by omega
      go_enter Try.func71, Try.ntmps71
      go_wp2
      go_loopw [10] (fun i wr => ∃ (j : Nat), j ≤ L.length ∧ i = .int .i64 j ∧ GoodTo L j ∧ Below w.heap.size w wr) (fun i _ => L.length - (intOf i).toNat)
      case atStart => exact ⟨0, Nat.zero_le _, rfl, fun j hj => absurd hj (Nat.not_lt_zero _), Below.refl _ _⟩
      case round =>
        obtain ⟨j, hj, rfl, hgood, hb⟩ := hrel
        have HG := Lib.hid hgood
        clear hgood
        by_cases hjn : j < L.length
        · have hrr := rangeAt_below hb (flat_nth ValueR.cells 3 (fun r => rfl) L j hjn HR.out)
          have hs1 := HS.out L[j] (List.getElem_mem hjn)
          have HX := Lib.hid (List.getElem?_eq_getElem hjn)
          generalize L[j] = r at *
          have c0 : wr.cell? ⟨b, o + j * 3, none⟩ = some (.string r.f0) := hrr 0 _ rfl
          have c1 : wr.cell? ⟨b, o + j * 3 + 1, none⟩ = some (.int .i64 r.f1) := hrr 1 _ rfl
          have c2 : wr.cell? ⟨b, o + j * 3 + 2, none⟩ = some (.int .i64 r.f2) := hrr 2 _ rfl
          have HB := Lib.hid hb
          have hki : (j : Int) < (L.length : Int) := by omega
          have hsz := hb.size
          have hbr : b < wr.heap.size := Nat.lt_of_lt_of_le hbl hsz
          have HBA := Lib.hid (HB.out.alloc hsz (.cells #[.string r.f0, .int .i64 r.f1, .int .i64 r.f2] 95))
          have KN := Lib.hid (fun W => i_isName r.f0 hs1 W)
          have KW := Lib.hid (fun W => i_wk r.f1 r.f2 W)
          clear hb hrr
          by_cases h1 : nmB r.f0 = true
          · rw [h1] at KN
            by_cases h2 : wkB r.f1 r.f2 = true
            · rw [h2] at KW
              have H12 := Lib.hid (And.intro h1 h2)
              clear h1 h2
              by_cases h3 : 0 < j
              · obtain ⟨i, rfl⟩ : ∃ i, j = i + 1 := ⟨j - 1, by omega⟩
                have hil : i < L.length := by omega
                have hrp := rangeAt_below HB.out (flat_nth ValueR.cells 3 (fun r => rfl) L i hil HR.out)
                have HY := Lib.hid (List.getElem?_eq_getElem hil)
                generalize L[i] = p at *
                have d0 : wr.cell? ⟨b, o + i * 3, none⟩ = some (.string p.f0) := hrp 0 _ rfl
                have hi0 : (0 : Int) ≤ (i : Int) := by omega
                have hi1 : (i : Int) < (L.length : Int) := by omega
                clear hrp
                by_cases h4 : Op.bytesLess p.f0.toList r.f0.toList = true
                · have HG1 := Lib.hid (HG.out.succ (good1 HY.out HX.out H12.out.1 H12.out.2 h4))
                  have h4n : (!Op.bytesLess p.f0.toList r.f0.toList) = false := by rw [h4]; rfl
                  go_wp2_with (first | (go_at_call 140; refine (KN.out _).mono ?_; rintro e w1 ⟨rfl, hb1⟩; have HB1 := Lib.hid (HBA.out.trans (hb1.mono HBA.out.size)); obtain ⟨hc, hf⟩ := bcell hb1; have hsz1 : wr.heap.size < w1.heap.size := (by have := hb1.size; simp at this; omega); clear hb1) | (go_at_call 141; refine (KW.out _).mono ?_; rintro e w1x ⟨rfl, rfl⟩))
                  have hwi : IntKind.i64.wrap (i : Int) = (i : Int) := IntWalk.i64_in _ (by omega)
                  go_quiet (fail)
                  clear hwi
                  go_wp2
                  go_roundw
                  case rel => exact ⟨i + 1 + 1, by omega, by go_num, HG1.out, below_drewN HB1.out _⟩
                  case measure => simp [intOf]; omega
                · have h4f : Op.bytesLess p.f0.toList r.f0.toList = false := by simpa using h4
                  have HF := Lib.hid (vlB_down HY.out HX.out h4f)
                  have h4n : (!Op.bytesLess p.f0.toList r.f0.toList) = true := by rw [h4f]; rfl
                  clear h4
                  go_wp2_with (first | (go_at_call 140; refine (KN.out _).mono ?_; rintro e w1 ⟨rfl, hb1⟩; have HB1 := Lib.hid (HBA.out.trans (hb1.mono HBA.out.size)); obtain ⟨hc, hf⟩ := bcell hb1; have hsz1 : wr.heap.size < w1.heap.size := (by have := hb1.size; simp at this; omega); clear hb1) | (go_at_call 141; refine (KW.out _).mono ?_; rintro e w1x ⟨rfl, rfl⟩))
                  have hwi : IntKind.i64.wrap (i : Int) = (i : Int) := IntWalk.i64_in _ (by omega)
                  go_quiet (fail)
                  clear hwi
                  go_wp2
                  go_ret
                  exact ⟨by rw [HF.out]; rfl, below_drewN HB1.out _⟩
              · have e : j = 0 := by omega
                subst e
                have HG1 := Lib.hid (HG.out.succ (good0 HX.out H12.out.1 H12.out.2))
                have hz0 : decide ((0 : Int) < 0) = false := by decide
                rw [Nat.zero_mul, Nat.add_zero] at c0
                rw [Nat.zero_mul, Nat.add_zero] at c1
                rw [Nat.zero_mul, Nat.add_zero] at c2
                go_wp2_with (first | (go_at_call 140; refine (KN.out _).mono ?_; rintro e w1 ⟨rfl, hb1⟩; have HB1 := Lib.hid (HBA.out.trans (hb1.mono HBA.out.size)); obtain ⟨hc, hf⟩ := bcell hb1; have hsz1 : wr.heap.size < w1.heap.size := (by have := hb1.size; simp at this; omega); clear hb1) | (go_at_call 141; refine (KW.out _).mono ?_; rintro e w1x ⟨rfl, rfl⟩))
                go_quiet (fail)
                go_wp2
                go_roundw
                case rel => exact ⟨1, by omega, rfl, HG1.out, below_drewN HB1.out _⟩
                case measure => simp [intOf]; omega
            · have h2 : wkB r.f1 r.f2 = false := by simpa using h2
              rw [h2] at KW
              have HF := Lib.hid (vlB_bad HX.out (.inr h2))
              clear h1 h2
              go_wp2_with (first | (go_at_call 140; refine (KN.out _).mono ?_; rintro e w1 ⟨rfl, hb1⟩; have HB1 := Lib.hid (HBA.out.trans (hb1.mono HBA.out.size)); obtain ⟨hc, hf⟩ := bcell hb1; have hsz1 : wr.heap.size < w1.heap.size := (by have := hb1.size; simp at this; omega); clear hb1) | (go_at_call 141; refine (KW.out _).mono ?_; rintro e w1x ⟨rfl, rfl⟩))
              go_ret
              exact ⟨by rw [HF.out]; rfl, HB1.out⟩
          · have h1 : nmB r.f0 = false := by simpa using h1
            rw [h1] at KN
            have HF := Lib.hid (vlB_bad HX.out (.inl h1))
            clear h1
            go_wp2_with (first | (go_at_call 140; refine (KN.out _).mono ?_; rintro e w1 ⟨rfl, hb1⟩; have HB1 := Lib.hid (HBA.out.trans (hb1.mono HBA.out.size)); obtain ⟨hc, hf⟩ := bcell hb1; have hsz1 : wr.heap.size < w1.heap.size := (by have := hb1.size; simp at this; omega); clear hb1))
            go_ret
            exact ⟨by rw [HF.out]; rfl, HB1.out⟩
        · have ej : j = L.length := by omega
          have HB := Lib.hid hb
          have hnj : ¬ ((j : Int) < (L.length : Int)) := by omega
          clear hb
          have HT := Lib.hid (good_all (ej ▸ HG.out) h30)
          go_wp2
          go_ret
          exact ⟨by rw [HT.out]; rfl, HB.out⟩
    · have HF := Lib.hid (vlB_false (L := L) (fun h => h30 h.1))
      have h30i : (30 : Int) < (L.length : Int) := by omega
      clear h30
      go_enter Try.func71, Try.ntmps71
      go_wp2
      go_ret
      exact ⟨by rw [HF.out]; rfl, Below.refl _ _⟩
end Go.Proofs.Ytkoeegeplginkaa
