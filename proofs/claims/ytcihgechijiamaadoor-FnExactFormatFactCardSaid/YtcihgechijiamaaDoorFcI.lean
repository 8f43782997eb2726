/- What the program's FactOk returns, where the table of forms lies as the program lays it. -/
import Derived.Test.YtcihgechijiamaaDoorFcM
import Derived.Test.YtcihgechijiamaaDoorFcT
import Derived.Test.YtcihgechijiamaaDoorPrI
import Derived.Deep.QuietTactic
import Derived.BigQuiet
import Derived.BigRegion
namespace Go.Proofs.YtcihgechijiamaaDoor
open Go.ChangeShapes Go.WideShapes Go.ChangeAt Go.RowKit
theorem qi_left {P : Program} {f : FuncId} {args : Array Value} {w : World} {n : Nat} {v : Value} (h : Calls P f args (w.drewN n) fun e w' => e = .returned v ∧ w.drewN n = w') : Calls P f args (w.drewN n) fun e w'' => e = .returned v ∧ ∃ m, w'' = w.drewN m :=
  h.mono fun _ _ ⟨he, hm⟩ => ⟨he, n, hm.symm⟩
theorem qi_add {P : Program} {f : FuncId} {args : Array Value} {w : World} {a n : Nat} {v : Value} (h : Calls P f args (w.drewN (a + n)) fun e w' => e = .returned v ∧ w.drewN (a + n) = w') : Calls P f args (w.drewN (a + n)) fun e w'' => e = .returned v ∧ ∃ m, w'' = w.drewN (a + m) :=
  h.mono fun _ _ ⟨he, hm⟩ => ⟨he, n, hm.symm⟩
theorem belowI_drewN {B : Nat} {a w : World} (h : Below B a w) (q : Nat) : Below B a (w.drewN q) := ⟨h.os, h.tape, h.output, h.size, h.block⟩
set_option maxRecDepth 100000 in
theorem i_ones (x : Int) (h1 : 1 ≤ x) (h2 : x ≤ 16) (w : World) : Calls Tryd.prog 37 #[.int .i64 x] w fun e w' => e = .returned (.int .i64 (2 ^ x.toNat - 1)) ∧ w = w' := by
  obtain ⟨hp1, hp2⟩ := pw x h1 h2
  go_enter Tryd.func37, Tryd.ntmps37
  go_wp2
  go_ret
  exact ⟨by first | rfl | simp, rfl⟩
set_option maxRecDepth 100000 in
set_option maxHeartbeats 8000000 in
theorem i_fact1 (vw vm vi : Int) (L : List InsR) (a b n : Int) (s : Value) (w : World) (hs : Cs.Shows w 0 4 s L.length (InsR.all L)) (hok : ∀ r ∈ L, r.Ok) (hL : L.length ≤ maxLen) (hvar : w.var? Tryd.prog "loop.example/g03219/impl.factForms" = some fmCells) :
    Calls Tryd.prog 11 #[.agg #[.int .i64 vw, .int .i64 vm, .int .i64 vi, s], .agg #[.int .i64 1, .int .i64 a, .int .i64 b, .int .i64 n]] w fun e w' => e = .returned (.bool (fcB vw vm vi L 1 a b n)) ∧ Below w.heap.size w w' := by
  have hml : maxLen = 9223372036854775807 := rfl
  have K1 := Lib.hid (fun W (hb : Below w.heap.size w W) => i_prog vw vm vi L s W (hs.below hb) hok hL)
  obtain ⟨_, q, cap, rfl, _⟩ := hs
  obtain ⟨V, hV⟩ : ∃ V, fcB vw vm vi L 1 a b n = V := ⟨_, rfl⟩
  rw [hV]
  have HV := Lib.hid hV
  clear hV
  have HB0 := Lib.hid (((Below.refl w.heap.size w).alloc (Nat.le_refl _) (.cells #[.int .i64 vw, .int .i64 vm, .int .i64 vi, .slice q L.length cap] 31)).alloc (by simp) (.cells #[.int .i64 1, .int .i64 a, .int .i64 b, .int .i64 n] 33))
  have X0 := Lib.hid ((cell4_alloc w 31 (.int .i64 vw) (.int .i64 vm) (.int .i64 vi) (.slice q L.length cap)).below ((Below.refl _ _).alloc (Nat.le_refl _) (.cells #[.int .i64 1, .int .i64 a, .int .i64 b, .int .i64 n] 33)))
  have Y0 := Lib.hid (cell4_alloc (w.alloc (.cells #[.int .i64 vw, .int .i64 vm, .int .i64 vi, .slice q L.length cap] 31)) 33 (.int .i64 1) (.int .i64 a) (.int .i64 b) (.int .i64 n))
  rw [show (w.alloc (.cells #[.int .i64 vw, .int .i64 vm, .int .i64 vi, .slice q L.length cap] 31)).heap.size = w.heap.size + 1 by simp] at Y0
  obtain ⟨w0, hw0⟩ : ∃ w0, w0 = (w.alloc (.cells #[.int .i64 vw, .int .i64 vm, .int .i64 vi, .slice q L.length cap] 31)).alloc (.cells #[.int .i64 1, .int .i64 a, .int .i64 b, .int .i64 n] 33) := ⟨_, rfl⟩
  have hs0 : w0.heap.size = w.heap.size + 2 := by rw [hw0]; simp
  rw [← hw0] at HB0 X0 Y0
  have HVR := Lib.hid (fun W (hb : Below w.heap.size w W) => forms_below hb hvar)
  clear hvar
  obtain ⟨x0, x1, x2, x3⟩ := X0.out
  obtain ⟨y0, y1, y2, y3⟩ := Y0.out
  rw [hw0] at x0 x1 x2 x3 y0 y1 y2 y3
  go_enter Tryd.func11, Tryd.ntmps11
  go_wp2_with fail
  rw [← hw0] at x0 x1 x2 x3 y0 y1 y2 y3 ⊢
  clear hw0
  refine (K1.out _ HB0.out).mono ?_
  rintro e w1 ⟨rfl, hb⟩
  have HB1 := Lib.hid (HB0.out.trans (hb.mono HB0.out.size))
  have X1 := Lib.hid (X0.out.below hb)
  have Y1 := Lib.hid (Y0.out.below hb)
  have hsz := hb.size
  clear hb x0 x1 x2 x3 y0 y1 y2 y3
  obtain ⟨x0, x1, x2, x3⟩ := X1.out
  obtain ⟨y0, y1, y2, y3⟩ := Y1.out
  cases hp : prB vw vm vi L
  case false =>
    have hv : V = false := by rw [← HV.out]; exact fc_bad hp
    subst hv
    go_wp2
    go_ret
    exact ⟨rfl, HB1.out⟩
  case true =>
    have g0 : w1.cell? ⟨0, 3, none⟩ = some (.string ⟨#[105, 115]⟩) := form_cells (HVR.out _ HB1.out) 3 (by omega)
    have g1 : w1.cell? ⟨0, 4, none⟩ = some (.int .i64 0) := form_cells (HVR.out _ HB1.out) 4 (by omega)
    have g2 : w1.cell? ⟨0, 5, none⟩ = some (.int .i64 2) := form_cells (HVR.out _ HB1.out) 5 (by omega)
    have hz1 : w.heap.size < w1.heap.size := by omega
    have hz2 : w.heap.size + 1 < w1.heap.size := by omega
    have hzg : 0 < w1.heap.size := World.block_lt_of_cell? _ _ g0
    have HH := Lib.hid ((fc_in (k := 1) (a := a) (b := b) (n := n) hp (by omega) (by omega)).symm.trans HV.out)
    have HW := Lib.hid (show 2 ≤ vw ∧ vw ≤ 8 from ⟨(pr_in hp).1.1, (pr_in hp).1.2.1⟩)
    have KA := Lib.hid (fun W => i_acc 1 a vw L.length (by omega) W)
    have KB := Lib.hid (fun W => i_acc 0 b vw L.length (by omega) W)
    have KN := Lib.hid (fun W => i_acc 2 n vw L.length (by omega) W)
    have HH := Lib.hid (show (opB 1 a vw L.length && (opB 0 b vw L.length && (opB 2 n vw L.length && true))) = V from HH.out)
    generalize opB 1 a vw L.length = QA at *
    generalize opB 0 b vw L.length = QB at *
    generalize opB 2 n vw L.length = QN at *
    clear HV hp K1 HVR HB0 X0 Y0
    go_wp2
    go_region
    obtain ⟨w2, hw2⟩ : ∃ x, x = (w1.alloc (.cells #[.string ⟨#[105, 115]⟩, .int .i64 0, .int .i64 2] 63)).drew := ⟨_, rfl⟩
    have hb2 : Below w1.heap.size w1 w2 := by rw [hw2]; exact ((Below.refl _ _).alloc (Nat.le_refl _) _).drew
    have HB2 := Lib.hid (HB1.out.trans (hb2.mono HB1.out.size))
    have X2 := Lib.hid (X1.out.below hb2)
    have Y2 := Lib.hid (Y1.out.below hb2)
    have Z := Lib.hid (show ∀ j, w2.cell? ⟨w1.heap.size, j, none⟩ = #[(.string ⟨#[105, 115]⟩ : Value), (.int .i64 0 : Value), (.int .i64 2 : Value)][j]? from fun j => by rw [hw2]; exact cell_of_row _ w1.heap.size j _ 63 (0, 0) (heap_alloc_new w1 _))
    have z1 : w2.cell? ⟨w1.heap.size, 1, none⟩ = some (.int .i64 0) := Z.out 1
    have z2 : w2.cell? ⟨w1.heap.size, 2, none⟩ = some (.int .i64 2) := Z.out 2
    clear x0 x1 x2 x3 y0 y1 y2 y3 g0 g1 g2 hb2
    rw [← hw2]
    clear hw2
    obtain ⟨x0, x1, x2, x3⟩ := X2.out
    obtain ⟨y0, y1, y2, y3⟩ := Y2.out
    go_wp2_with fail
    refine (KA.out _).mono ?_
    rintro e w3 ⟨rfl, rfl⟩
    cases QA
    case false =>
      have hv : V = false := by exact HH.out.symm.trans (by first | rfl | (simp [*]; done) | simp_all)
      subst hv
      go_wp2
      go_ret
      exact ⟨rfl, HB2.out⟩
    case true =>
      go_wp2_with fail
      refine (KB.out _).mono ?_
      rintro e w3 ⟨rfl, rfl⟩
      cases QB
      case false =>
        have hv : V = false := by exact HH.out.symm.trans (by first | rfl | (simp [*]; done) | simp_all)
        subst hv
        go_wp2
        go_ret
        exact ⟨rfl, HB2.out⟩
      case true =>
        go_wp2_with fail
        refine (KN.out _).mono ?_
        rintro e w3 ⟨rfl, rfl⟩
        cases QN
        case false =>
          have hv : V = false := by exact HH.out.symm.trans (by first | rfl | (simp [*]; done) | simp_all)
          subst hv
          go_wp2
          go_ret
          exact ⟨rfl, HB2.out⟩
        case true =>
          have hv : V = true := by exact HH.out.symm.trans (by first | rfl | (simp [*]; done) | simp_all)
          subst hv
          go_wp2
          go_ret
          exact ⟨rfl, HB2.out⟩
set_option maxRecDepth 100000 in
set_option maxHeartbeats 8000000 in
theorem i_fact2 (vw vm vi : Int) (L : List InsR) (a b n : Int) (s : Value) (w : World) (hs : Cs.Shows w 0 4 s L.length (InsR.all L)) (hok : ∀ r ∈ L, r.Ok) (hL : L.length ≤ maxLen) (hvar : w.var? Tryd.prog "loop.example/g03219/impl.factForms" = some fmCells) :
    Calls Tryd.prog 11 #[.agg #[.int .i64 vw, .int .i64 vm, .int .i64 vi, s], .agg #[.int .i64 2, .int .i64 a, .int .i64 b, .int .i64 n]] w fun e w' => e = .returned (.bool (fcB vw vm vi L 2 a b n)) ∧ Below w.heap.size w w' := by
  have hml : maxLen = 9223372036854775807 := rfl
  have K1 := Lib.hid (fun W (hb : Below w.heap.size w W) => i_prog vw vm vi L s W (hs.below hb) hok hL)
  obtain ⟨_, q, cap, rfl, _⟩ := hs
  obtain ⟨V, hV⟩ : ∃ V, fcB vw vm vi L 2 a b n = V := ⟨_, rfl⟩
  rw [hV]
  have HV := Lib.hid hV
  clear hV
  have HB0 := Lib.hid (((Below.refl w.heap.size w).alloc (Nat.le_refl _) (.cells #[.int .i64 vw, .int .i64 vm, .int .i64 vi, .slice q L.length cap] 31)).alloc (by simp) (.cells #[.int .i64 2, .int .i64 a, .int .i64 b, .int .i64 n] 33))
  have X0 := Lib.hid ((cell4_alloc w 31 (.int .i64 vw) (.int .i64 vm) (.int .i64 vi) (.slice q L.length cap)).below ((Below.refl _ _).alloc (Nat.le_refl _) (.cells #[.int .i64 2, .int .i64 a, .int .i64 b, .int .i64 n] 33)))
  have Y0 := Lib.hid (cell4_alloc (w.alloc (.cells #[.int .i64 vw, .int .i64 vm, .int .i64 vi, .slice q L.length cap] 31)) 33 (.int .i64 2) (.int .i64 a) (.int .i64 b) (.int .i64 n))
  rw [show (w.alloc (.cells #[.int .i64 vw, .int .i64 vm, .int .i64 vi, .slice q L.length cap] 31)).heap.size = w.heap.size + 1 by simp] at Y0
  obtain ⟨w0, hw0⟩ : ∃ w0, w0 = (w.alloc (.cells #[.int .i64 vw, .int .i64 vm, .int .i64 vi, .slice q L.length cap] 31)).alloc (.cells #[.int .i64 2, .int .i64 a, .int .i64 b, .int .i64 n] 33) := ⟨_, rfl⟩
  have hs0 : w0.heap.size = w.heap.size + 2 := by rw [hw0]; simp
  rw [← hw0] at HB0 X0 Y0
  have HVR := Lib.hid (fun W (hb : Below w.heap.size w W) => forms_below hb hvar)
  clear hvar
  obtain ⟨x0, x1, x2, x3⟩ := X0.out
  obtain ⟨y0, y1, y2, y3⟩ := Y0.out
  rw [hw0] at x0 x1 x2 x3 y0 y1 y2 y3
  go_enter Tryd.func11, Tryd.ntmps11
  go_wp2_with fail
  rw [← hw0] at x0 x1 x2 x3 y0 y1 y2 y3 ⊢
  clear hw0
  refine (K1.out _ HB0.out).mono ?_
  rintro e w1 ⟨rfl, hb⟩
  have HB1 := Lib.hid (HB0.out.trans (hb.mono HB0.out.size))
  have X1 := Lib.hid (X0.out.below hb)
  have Y1 := Lib.hid (Y0.out.below hb)
  have hsz := hb.size
  clear hb x0 x1 x2 x3 y0 y1 y2 y3
  obtain ⟨x0, x1, x2, x3⟩ := X1.out
  obtain ⟨y0, y1, y2, y3⟩ := Y1.out
  cases hp : prB vw vm vi L
  case false =>
    have hv : V = false := by rw [← HV.out]; exact fc_bad hp
    subst hv
    go_wp2
    go_ret
    exact ⟨rfl, HB1.out⟩
  case true =>
    have g0 : w1.cell? ⟨0, 6, none⟩ = some (.string ⟨#[115, 97, 109, 101]⟩) := form_cells (HVR.out _ HB1.out) 6 (by omega)
    have g1 : w1.cell? ⟨0, 7, none⟩ = some (.int .i64 1) := form_cells (HVR.out _ HB1.out) 7 (by omega)
    have g2 : w1.cell? ⟨0, 8, none⟩ = some (.int .i64 0) := form_cells (HVR.out _ HB1.out) 8 (by omega)
    have hz1 : w.heap.size < w1.heap.size := by omega
    have hz2 : w.heap.size + 1 < w1.heap.size := by omega
    have hzg : 0 < w1.heap.size := World.block_lt_of_cell? _ _ g0
    have HH := Lib.hid ((fc_in (k := 2) (a := a) (b := b) (n := n) hp (by omega) (by omega)).symm.trans HV.out)
    have HW := Lib.hid (show 2 ≤ vw ∧ vw ≤ 8 from ⟨(pr_in hp).1.1, (pr_in hp).1.2.1⟩)
    have KA := Lib.hid (fun W => i_acc 1 a vw L.length (by omega) W)
    have KB := Lib.hid (fun W => i_acc 1 b vw L.length (by omega) W)
    have KN := Lib.hid (fun W => i_acc 0 n vw L.length (by omega) W)
    have HH := Lib.hid (show (opB 1 a vw L.length && (opB 1 b vw L.length && (opB 0 n vw L.length && decide (a < b)))) = V from HH.out)
    generalize opB 1 a vw L.length = QA at *
    generalize opB 1 b vw L.length = QB at *
    generalize opB 0 n vw L.length = QN at *
    clear HV hp K1 HVR HB0 X0 Y0
    go_wp2
    go_region
    obtain ⟨w2, hw2⟩ : ∃ x, x = (w1.alloc (.cells #[.string ⟨#[115, 97, 109, 101]⟩, .int .i64 1, .int .i64 0] 63)).drew := ⟨_, rfl⟩
    have hb2 : Below w1.heap.size w1 w2 := by rw [hw2]; exact ((Below.refl _ _).alloc (Nat.le_refl _) _).drew
    have HB2 := Lib.hid (HB1.out.trans (hb2.mono HB1.out.size))
    have X2 := Lib.hid (X1.out.below hb2)
    have Y2 := Lib.hid (Y1.out.below hb2)
    have Z := Lib.hid (show ∀ j, w2.cell? ⟨w1.heap.size, j, none⟩ = #[(.string ⟨#[115, 97, 109, 101]⟩ : Value), (.int .i64 1 : Value), (.int .i64 0 : Value)][j]? from fun j => by rw [hw2]; exact cell_of_row _ w1.heap.size j _ 63 (0, 0) (heap_alloc_new w1 _))
    have z1 : w2.cell? ⟨w1.heap.size, 1, none⟩ = some (.int .i64 1) := Z.out 1
    have z2 : w2.cell? ⟨w1.heap.size, 2, none⟩ = some (.int .i64 0) := Z.out 2
    clear x0 x1 x2 x3 y0 y1 y2 y3 g0 g1 g2 hb2
    rw [← hw2]
    clear hw2
    obtain ⟨x0, x1, x2, x3⟩ := X2.out
    obtain ⟨y0, y1, y2, y3⟩ := Y2.out
    go_wp2_with fail
    refine (KA.out _).mono ?_
    rintro e w3 ⟨rfl, rfl⟩
    cases QA
    case false =>
      have hv : V = false := by exact HH.out.symm.trans (by first | rfl | (simp [*]; done) | simp_all)
      subst hv
      go_wp2
      go_ret
      exact ⟨rfl, HB2.out⟩
    case true =>
      go_wp2_with fail
      refine (KB.out _).mono ?_
      rintro e w3 ⟨rfl, rfl⟩
      cases QB
      case false =>
        have hv : V = false := by exact HH.out.symm.trans (by first | rfl | (simp [*]; done) | simp_all)
        subst hv
        go_wp2
        go_ret
        exact ⟨rfl, HB2.out⟩
      case true =>
        go_wp2_with fail
        refine (KN.out _).mono ?_
        rintro e w3 ⟨rfl, rfl⟩
        cases QN
        case false =>
          have hv : V = false := by exact HH.out.symm.trans (by first | rfl | (simp [*]; done) | simp_all)
          subst hv
          go_wp2
          go_ret
          exact ⟨rfl, HB2.out⟩
        case true =>
          rcases Decidable.em (a < b) with hc | hc
          case inl =>
            have gd : decide (a < b) = true := decide_eq_true hc
            have hv : V = true := by exact HH.out.symm.trans (by first | rfl | (simp [*]; done) | simp_all)
            subst hv
            go_wp2
            go_ret
            exact ⟨rfl, HB2.out⟩
          case inr =>
            have gd : decide (a < b) = false := decide_eq_false hc
            have hv : V = false := by exact HH.out.symm.trans (by first | rfl | (simp [*]; done) | simp_all)
            subst hv
            go_wp2
            go_ret
            exact ⟨rfl, HB2.out⟩
set_option maxRecDepth 100000 in
set_option maxHeartbeats 8000000 in
theorem i_fact3 (vw vm vi : Int) (L : List InsR) (a b n : Int) (s : Value) (w : World) (hs : Cs.Shows w 0 4 s L.length (InsR.all L)) (hok : ∀ r ∈ L, r.Ok) (hL : L.length ≤ maxLen) (hvar : w.var? Tryd.prog "loop.example/g03219/impl.factForms" = some fmCells) :
    Calls Tryd.prog 11 #[.agg #[.int .i64 vw, .int .i64 vm, .int .i64 vi, s], .agg #[.int .i64 3, .int .i64 a, .int .i64 b, .int .i64 n]] w fun e w' => e = .returned (.bool (fcB vw vm vi L 3 a b n)) ∧ Below w.heap.size w w' := by
  have hml : maxLen = 9223372036854775807 := rfl
  have K1 := Lib.hid (fun W (hb : Below w.heap.size w W) => i_prog vw vm vi L s W (hs.below hb) hok hL)
  obtain ⟨_, q, cap, rfl, _⟩ := hs
  obtain ⟨V, hV⟩ : ∃ V, fcB vw vm vi L 3 a b n = V := ⟨_, rfl⟩
  rw [hV]
  have HV := Lib.hid hV
  clear hV
  have HB0 := Lib.hid (((Below.refl w.heap.size w).alloc (Nat.le_refl _) (.cells #[.int .i64 vw, .int .i64 vm, .int .i64 vi, .slice q L.length cap] 31)).alloc (by simp) (.cells #[.int .i64 3, .int .i64 a, .int .i64 b, .int .i64 n] 33))
  have X0 := Lib.hid ((cell4_alloc w 31 (.int .i64 vw) (.int .i64 vm) (.int .i64 vi) (.slice q L.length cap)).below ((Below.refl _ _).alloc (Nat.le_refl _) (.cells #[.int .i64 3, .int .i64 a, .int .i64 b, .int .i64 n] 33)))
  have Y0 := Lib.hid (cell4_alloc (w.alloc (.cells #[.int .i64 vw, .int .i64 vm, .int .i64 vi, .slice q L.length cap] 31)) 33 (.int .i64 3) (.int .i64 a) (.int .i64 b) (.int .i64 n))
  rw [show (w.alloc (.cells #[.int .i64 vw, .int .i64 vm, .int .i64 vi, .slice q L.length cap] 31)).heap.size = w.heap.size + 1 by simp] at Y0
  obtain ⟨w0, hw0⟩ : ∃ w0, w0 = (w.alloc (.cells #[.int .i64 vw, .int .i64 vm, .int .i64 vi, .slice q L.length cap] 31)).alloc (.cells #[.int .i64 3, .int .i64 a, .int .i64 b, .int .i64 n] 33) := ⟨_, rfl⟩
  have hs0 : w0.heap.size = w.heap.size + 2 := by rw [hw0]; simp
  rw [← hw0] at HB0 X0 Y0
  have HVR := Lib.hid (fun W (hb : Below w.heap.size w W) => forms_below hb hvar)
  clear hvar
  obtain ⟨x0, x1, x2, x3⟩ := X0.out
  obtain ⟨y0, y1, y2, y3⟩ := Y0.out
  rw [hw0] at x0 x1 x2 x3 y0 y1 y2 y3
  go_enter Tryd.func11, Tryd.ntmps11
  go_wp2_with fail
  rw [← hw0] at x0 x1 x2 x3 y0 y1 y2 y3 ⊢
  clear hw0
  refine (K1.out _ HB0.out).mono ?_
  rintro e w1 ⟨rfl, hb⟩
  have HB1 := Lib.hid (HB0.out.trans (hb.mono HB0.out.size))
  have X1 := Lib.hid (X0.out.below hb)
  have Y1 := Lib.hid (Y0.out.below hb)
  have hsz := hb.size
  clear hb x0 x1 x2 x3 y0 y1 y2 y3
  obtain ⟨x0, x1, x2, x3⟩ := X1.out
  obtain ⟨y0, y1, y2, y3⟩ := Y1.out
  cases hp : prB vw vm vi L
  case false =>
    have hv : V = false := by rw [← HV.out]; exact fc_bad hp
    subst hv
    go_wp2
    go_ret
    exact ⟨rfl, HB1.out⟩
  case true =>
    have g0 : w1.cell? ⟨0, 9, none⟩ = some (.string ⟨#[109, 111, 115, 116]⟩) := form_cells (HVR.out _ HB1.out) 9 (by omega)
    have g1 : w1.cell? ⟨0, 10, none⟩ = some (.int .i64 0) := form_cells (HVR.out _ HB1.out) 10 (by omega)
    have g2 : w1.cell? ⟨0, 11, none⟩ = some (.int .i64 2) := form_cells (HVR.out _ HB1.out) 11 (by omega)
    have hz1 : w.heap.size < w1.heap.size := by omega
    have hz2 : w.heap.size + 1 < w1.heap.size := by omega
    have hzg : 0 < w1.heap.size := World.block_lt_of_cell? _ _ g0
    have HH := Lib.hid ((fc_in (k := 3) (a := a) (b := b) (n := n) hp (by omega) (by omega)).symm.trans HV.out)
    have HW := Lib.hid (show 2 ≤ vw ∧ vw ≤ 8 from ⟨(pr_in hp).1.1, (pr_in hp).1.2.1⟩)
    have KA := Lib.hid (fun W => i_acc 1 a vw L.length (by omega) W)
    have KB := Lib.hid (fun W => i_acc 0 b vw L.length (by omega) W)
    have KN := Lib.hid (fun W => i_acc 2 n vw L.length (by omega) W)
    have HH := Lib.hid (show (opB 1 a vw L.length && (opB 0 b vw L.length && (opB 2 n vw L.length && decide (n < 2 ^ vw.toNat - 1)))) = V from HH.out)
    generalize opB 1 a vw L.length = QA at *
    generalize opB 0 b vw L.length = QB at *
    generalize opB 2 n vw L.length = QN at *
    clear HV hp K1 HVR HB0 X0 Y0
    go_wp2
    go_region
    obtain ⟨w2, hw2⟩ : ∃ x, x = (w1.alloc (.cells #[.string ⟨#[109, 111, 115, 116]⟩, .int .i64 0, .int .i64 2] 63)).drew := ⟨_, rfl⟩
    have hb2 : Below w1.heap.size w1 w2 := by rw [hw2]; exact ((Below.refl _ _).alloc (Nat.le_refl _) _).drew
    have HB2 := Lib.hid (HB1.out.trans (hb2.mono HB1.out.size))
    have X2 := Lib.hid (X1.out.below hb2)
    have Y2 := Lib.hid (Y1.out.below hb2)
    have Z := Lib.hid (show ∀ j, w2.cell? ⟨w1.heap.size, j, none⟩ = #[(.string ⟨#[109, 111, 115, 116]⟩ : Value), (.int .i64 0 : Value), (.int .i64 2 : Value)][j]? from fun j => by rw [hw2]; exact cell_of_row _ w1.heap.size j _ 63 (0, 0) (heap_alloc_new w1 _))
    have z1 : w2.cell? ⟨w1.heap.size, 1, none⟩ = some (.int .i64 0) := Z.out 1
    have z2 : w2.cell? ⟨w1.heap.size, 2, none⟩ = some (.int .i64 2) := Z.out 2
    clear x0 x1 x2 x3 y0 y1 y2 y3 g0 g1 g2 hb2
    rw [← hw2]
    clear hw2
    obtain ⟨x0, x1, x2, x3⟩ := X2.out
    obtain ⟨y0, y1, y2, y3⟩ := Y2.out
    go_wp2_with fail
    refine (KA.out _).mono ?_
    rintro e w3 ⟨rfl, rfl⟩
    cases QA
    case false =>
      have hv : V = false := by exact HH.out.symm.trans (by first | rfl | (simp [*]; done) | simp_all)
      subst hv
      go_wp2
      go_ret
      exact ⟨rfl, HB2.out⟩
    case true =>
      go_wp2_with fail
      refine (KB.out _).mono ?_
      rintro e w3 ⟨rfl, rfl⟩
      cases QB
      case false =>
        have hv : V = false := by exact HH.out.symm.trans (by first | rfl | (simp [*]; done) | simp_all)
        subst hv
        go_wp2
        go_ret
        exact ⟨rfl, HB2.out⟩
      case true =>
        go_wp2_with fail
        refine (KN.out _).mono ?_
        rintro e w3 ⟨rfl, rfl⟩
        cases QN
        case false =>
          have hv : V = false := by exact HH.out.symm.trans (by first | rfl | (simp [*]; done) | simp_all)
          subst hv
          go_wp2
          go_ret
          exact ⟨rfl, HB2.out⟩
        case true =>
          obtain ⟨hw2, hw8⟩ := HW.out
          have KO := Lib.hid (fun W => i_ones vw (by omega) (by omega) W)
          obtain ⟨hp1, hp2⟩ := pw vw (by omega) (by omega)
          rcases Decidable.em (n < 2 ^ vw.toNat - 1) with hc | hc
          case inl =>
            have gd : decide (n < 2 ^ vw.toNat - 1) = true := decide_eq_true hc
            have hv : V = true := by exact HH.out.symm.trans (by first | rfl | (simp [*]; done) | simp_all)
            subst hv
            go_wp2
            go_quiet ((go_at_call 37; first | exact qi_left (KO.out _) | exact qi_add (KO.out _)))
            go_wp2
            go_ret
            exact ⟨rfl, belowI_drewN HB2.out _⟩
          case inr =>
            have gd : decide (n < 2 ^ vw.toNat - 1) = false := decide_eq_false hc
            have hv : V = false := by exact HH.out.symm.trans (by first | rfl | (simp [*]; done) | simp_all)
            subst hv
            go_wp2
            go_quiet ((go_at_call 37; first | exact qi_left (KO.out _) | exact qi_add (KO.out _)))
            go_wp2
            go_ret
            exact ⟨rfl, belowI_drewN HB2.out _⟩
set_option maxRecDepth 100000 in
set_option maxHeartbeats 8000000 in
theorem i_fact4 (vw vm vi : Int) (L : List InsR) (a b n : Int) (s : Value) (w : World) (hs : Cs.Shows w 0 4 s L.length (InsR.all L)) (hok : ∀ r ∈ L, r.Ok) (hL : L.length ≤ maxLen) (hvar : w.var? Tryd.prog "loop.example/g03219/impl.factForms" = some fmCells) :
    Calls Tryd.prog 11 #[.agg #[.int .i64 vw, .int .i64 vm, .int .i64 vi, s], .agg #[.int .i64 4, .int .i64 a, .int .i64 b, .int .i64 n]] w fun e w' => e = .returned (.bool (fcB vw vm vi L 4 a b n)) ∧ Below w.heap.size w w' := by
  have hml : maxLen = 9223372036854775807 := rfl
  have K1 := Lib.hid (fun W (hb : Below w.heap.size w W) => i_prog vw vm vi L s W (hs.below hb) hok hL)
  obtain ⟨_, q, cap, rfl, _⟩ := hs
  obtain ⟨V, hV⟩ : ∃ V, fcB vw vm vi L 4 a b n = V := ⟨_, rfl⟩
  rw [hV]
  have HV := Lib.hid hV
  clear hV
  have HB0 := Lib.hid (((Below.refl w.heap.size w).alloc (Nat.le_refl _) (.cells #[.int .i64 vw, .int .i64 vm, .int .i64 vi, .slice q L.length cap] 31)).alloc (by simp) (.cells #[.int .i64 4, .int .i64 a, .int .i64 b, .int .i64 n] 33))
  have X0 := Lib.hid ((cell4_alloc w 31 (.int .i64 vw) (.int .i64 vm) (.int .i64 vi) (.slice q L.length cap)).below ((Below.refl _ _).alloc (Nat.le_refl _) (.cells #[.int .i64 4, .int .i64 a, .int .i64 b, .int .i64 n] 33)))
  have Y0 := Lib.hid (cell4_alloc (w.alloc (.cells #[.int .i64 vw, .int .i64 vm, .int .i64 vi, .slice q L.length cap] 31)) 33 (.int .i64 4) (.int .i64 a) (.int .i64 b) (.int .i64 n))
  rw [show (w.alloc (.cells #[.int .i64 vw, .int .i64 vm, .int .i64 vi, .slice q L.length cap] 31)).heap.size = w.heap.size + 1 by simp] at Y0
  obtain ⟨w0, hw0⟩ : ∃ w0, w0 = (w.alloc (.cells #[.int .i64 vw, .int .i64 vm, .int .i64 vi, .slice q L.length cap] 31)).alloc (.cells #[.int .i64 4, .int .i64 a, .int .i64 b, .int .i64 n] 33) := ⟨_, rfl⟩
  have hs0 : w0.heap.size = w.heap.size + 2 := by rw [hw0]; simp
  rw [← hw0] at HB0 X0 Y0
  have HVR := Lib.hid (fun W (hb : Below w.heap.size w W) => forms_below hb hvar)
  clear hvar
  obtain ⟨x0, x1, x2, x3⟩ := X0.out
  obtain ⟨y0, y1, y2, y3⟩ := Y0.out
  rw [hw0] at x0 x1 x2 x3 y0 y1 y2 y3
  go_enter Tryd.func11, Tryd.ntmps11
  go_wp2_with fail
  rw [← hw0] at x0 x1 x2 x3 y0 y1 y2 y3 ⊢
  clear hw0
  refine (K1.out _ HB0.out).mono ?_
  rintro e w1 ⟨rfl, hb⟩
  have HB1 := Lib.hid (HB0.out.trans (hb.mono HB0.out.size))
  have X1 := Lib.hid (X0.out.below hb)
  have Y1 := Lib.hid (Y0.out.below hb)
  have hsz := hb.size
  clear hb x0 x1 x2 x3 y0 y1 y2 y3
  obtain ⟨x0, x1, x2, x3⟩ := X1.out
  obtain ⟨y0, y1, y2, y3⟩ := Y1.out
  cases hp : prB vw vm vi L
  case false =>
    have hv : V = false := by rw [← HV.out]; exact fc_bad hp
    subst hv
    go_wp2
    go_ret
    exact ⟨rfl, HB1.out⟩
  case true =>
    have g0 : w1.cell? ⟨0, 12, none⟩ = some (.string ⟨#[98, 105, 116]⟩) := form_cells (HVR.out _ HB1.out) 12 (by omega)
    have g1 : w1.cell? ⟨0, 13, none⟩ = some (.int .i64 2) := form_cells (HVR.out _ HB1.out) 13 (by omega)
    have g2 : w1.cell? ⟨0, 14, none⟩ = some (.int .i64 2) := form_cells (HVR.out _ HB1.out) 14 (by omega)
    have hz1 : w.heap.size < w1.heap.size := by omega
    have hz2 : w.heap.size + 1 < w1.heap.size := by omega
    have hzg : 0 < w1.heap.size := World.block_lt_of_cell? _ _ g0
    have HH := Lib.hid ((fc_in (k := 4) (a := a) (b := b) (n := n) hp (by omega) (by omega)).symm.trans HV.out)
    have HW := Lib.hid (show 2 ≤ vw ∧ vw ≤ 8 from ⟨(pr_in hp).1.1, (pr_in hp).1.2.1⟩)
    have KA := Lib.hid (fun W => i_acc 1 a vw L.length (by omega) W)
    have KB := Lib.hid (fun W => i_acc 2 b vw L.length (by omega) W)
    have KN := Lib.hid (fun W => i_acc 2 n vw L.length (by omega) W)
    have HH := Lib.hid (show (opB 1 a vw L.length && (opB 2 b vw L.length && (opB 2 n vw L.length && (decide (b < vw) && decide (n ≤ 1))))) = V from HH.out)
    generalize opB 1 a vw L.length = QA at *
    generalize opB 2 b vw L.length = QB at *
    generalize opB 2 n vw L.length = QN at *
    clear HV hp K1 HVR HB0 X0 Y0
    go_wp2
    go_region
    obtain ⟨w2, hw2⟩ : ∃ x, x = (w1.alloc (.cells #[.string ⟨#[98, 105, 116]⟩, .int .i64 2, .int .i64 2] 63)).drew := ⟨_, rfl⟩
    have hb2 : Below w1.heap.size w1 w2 := by rw [hw2]; exact ((Below.refl _ _).alloc (Nat.le_refl _) _).drew
    have HB2 := Lib.hid (HB1.out.trans (hb2.mono HB1.out.size))
    have X2 := Lib.hid (X1.out.below hb2)
    have Y2 := Lib.hid (Y1.out.below hb2)
    have Z := Lib.hid (show ∀ j, w2.cell? ⟨w1.heap.size, j, none⟩ = #[(.string ⟨#[98, 105, 116]⟩ : Value), (.int .i64 2 : Value), (.int .i64 2 : Value)][j]? from fun j => by rw [hw2]; exact cell_of_row _ w1.heap.size j _ 63 (0, 0) (heap_alloc_new w1 _))
    have z1 : w2.cell? ⟨w1.heap.size, 1, none⟩ = some (.int .i64 2) := Z.out 1
    have z2 : w2.cell? ⟨w1.heap.size, 2, none⟩ = some (.int .i64 2) := Z.out 2
    clear x0 x1 x2 x3 y0 y1 y2 y3 g0 g1 g2 hb2
    rw [← hw2]
    clear hw2
    obtain ⟨x0, x1, x2, x3⟩ := X2.out
    obtain ⟨y0, y1, y2, y3⟩ := Y2.out
    go_wp2_with fail
    refine (KA.out _).mono ?_
    rintro e w3 ⟨rfl, rfl⟩
    cases QA
    case false =>
      have hv : V = false := by exact HH.out.symm.trans (by first | rfl | (simp [*]; done) | simp_all)
      subst hv
      go_wp2
      go_ret
      exact ⟨rfl, HB2.out⟩
    case true =>
      go_wp2_with fail
      refine (KB.out _).mono ?_
      rintro e w3 ⟨rfl, rfl⟩
      cases QB
      case false =>
        have hv : V = false := by exact HH.out.symm.trans (by first | rfl | (simp [*]; done) | simp_all)
        subst hv
        go_wp2
        go_ret
        exact ⟨rfl, HB2.out⟩
      case true =>
        go_wp2_with fail
        refine (KN.out _).mono ?_
        rintro e w3 ⟨rfl, rfl⟩
        cases QN
        case false =>
          have hv : V = false := by exact HH.out.symm.trans (by first | rfl | (simp [*]; done) | simp_all)
          subst hv
          go_wp2
          go_ret
          exact ⟨rfl, HB2.out⟩
        case true =>
          rcases Decidable.em (b < vw) with hc | hc
          case inl =>
            have gd : decide (b < vw) = true := decide_eq_true hc
            rcases Decidable.em (n ≤ 1) with hc1 | hc1
            case inl =>
              have gd1 : decide (n ≤ 1) = true := decide_eq_true hc1
              have hv : V = true := by exact HH.out.symm.trans (by first | rfl | (simp [*]; done) | simp_all)
              subst hv
              go_wp2
              go_ret
              exact ⟨rfl, HB2.out⟩
            case inr =>
              have gd1 : decide (n ≤ 1) = false := decide_eq_false hc1
              have hv : V = false := by exact HH.out.symm.trans (by first | rfl | (simp [*]; done) | simp_all)
              subst hv
              go_wp2
              go_ret
              exact ⟨rfl, HB2.out⟩
          case inr =>
            have gd : decide (b < vw) = false := decide_eq_false hc
            have hv : V = false := by exact HH.out.symm.trans (by first | rfl | (simp [*]; done) | simp_all)
            subst hv
            go_wp2
            go_ret
            exact ⟨rfl, HB2.out⟩
set_option maxRecDepth 100000 in
set_option maxHeartbeats 8000000 in
theorem i_fact5 (vw vm vi : Int) (L : List InsR) (a b n : Int) (s : Value) (w : World) (hs : Cs.Shows w 0 4 s L.length (InsR.all L)) (hok : ∀ r ∈ L, r.Ok) (hL : L.length ≤ maxLen) (hvar : w.var? Tryd.prog "loop.example/g03219/impl.factForms" = some fmCells) :
    Calls Tryd.prog 11 #[.agg #[.int .i64 vw, .int .i64 vm, .int .i64 vi, s], .agg #[.int .i64 5, .int .i64 a, .int .i64 b, .int .i64 n]] w fun e w' => e = .returned (.bool (fcB vw vm vi L 5 a b n)) ∧ Below w.heap.size w w' := by
  have hml : maxLen = 9223372036854775807 := rfl
  have K1 := Lib.hid (fun W (hb : Below w.heap.size w W) => i_prog vw vm vi L s W (hs.below hb) hok hL)
  obtain ⟨_, q, cap, rfl, _⟩ := hs
  obtain ⟨V, hV⟩ : ∃ V, fcB vw vm vi L 5 a b n = V := ⟨_, rfl⟩
  rw [hV]
  have HV := Lib.hid hV
  clear hV
  have HB0 := Lib.hid (((Below.refl w.heap.size w).alloc (Nat.le_refl _) (.cells #[.int .i64 vw, .int .i64 vm, .int .i64 vi, .slice q L.length cap] 31)).alloc (by simp) (.cells #[.int .i64 5, .int .i64 a, .int .i64 b, .int .i64 n] 33))
  have X0 := Lib.hid ((cell4_alloc w 31 (.int .i64 vw) (.int .i64 vm) (.int .i64 vi) (.slice q L.length cap)).below ((Below.refl _ _).alloc (Nat.le_refl _) (.cells #[.int .i64 5, .int .i64 a, .int .i64 b, .int .i64 n] 33)))
  have Y0 := Lib.hid (cell4_alloc (w.alloc (.cells #[.int .i64 vw, .int .i64 vm, .int .i64 vi, .slice q L.length cap] 31)) 33 (.int .i64 5) (.int .i64 a) (.int .i64 b) (.int .i64 n))
  rw [show (w.alloc (.cells #[.int .i64 vw, .int .i64 vm, .int .i64 vi, .slice q L.length cap] 31)).heap.size = w.heap.size + 1 by simp] at Y0
  obtain ⟨w0, hw0⟩ : ∃ w0, w0 = (w.alloc (.cells #[.int .i64 vw, .int .i64 vm, .int .i64 vi, .slice q L.length cap] 31)).alloc (.cells #[.int .i64 5, .int .i64 a, .int .i64 b, .int .i64 n] 33) := ⟨_, rfl⟩
  have hs0 : w0.heap.size = w.heap.size + 2 := by rw [hw0]; simp
  rw [← hw0] at HB0 X0 Y0
  have HVR := Lib.hid (fun W (hb : Below w.heap.size w W) => forms_below hb hvar)
  clear hvar
  obtain ⟨x0, x1, x2, x3⟩ := X0.out
  obtain ⟨y0, y1, y2, y3⟩ := Y0.out
  rw [hw0] at x0 x1 x2 x3 y0 y1 y2 y3
  go_enter Tryd.func11, Tryd.ntmps11
  go_wp2_with fail
  rw [← hw0] at x0 x1 x2 x3 y0 y1 y2 y3 ⊢
  clear hw0
  refine (K1.out _ HB0.out).mono ?_
  rintro e w1 ⟨rfl, hb⟩
  have HB1 := Lib.hid (HB0.out.trans (hb.mono HB0.out.size))
  have X1 := Lib.hid (X0.out.below hb)
  have Y1 := Lib.hid (Y0.out.below hb)
  have hsz := hb.size
  clear hb x0 x1 x2 x3 y0 y1 y2 y3
  obtain ⟨x0, x1, x2, x3⟩ := X1.out
  obtain ⟨y0, y1, y2, y3⟩ := Y1.out
  cases hp : prB vw vm vi L
  case false =>
    have hv : V = false := by rw [← HV.out]; exact fc_bad hp
    subst hv
    go_wp2
    go_ret
    exact ⟨rfl, HB1.out⟩
  case true =>
    have g0 : w1.cell? ⟨0, 15, none⟩ = some (.string ⟨#[115, 117, 109]⟩) := form_cells (HVR.out _ HB1.out) 15 (by omega)
    have g1 : w1.cell? ⟨0, 16, none⟩ = some (.int .i64 1) := form_cells (HVR.out _ HB1.out) 16 (by omega)
    have g2 : w1.cell? ⟨0, 17, none⟩ = some (.int .i64 2) := form_cells (HVR.out _ HB1.out) 17 (by omega)
    have hz1 : w.heap.size < w1.heap.size := by omega
    have hz2 : w.heap.size + 1 < w1.heap.size := by omega
    have hzg : 0 < w1.heap.size := World.block_lt_of_cell? _ _ g0
    have HH := Lib.hid ((fc_in (k := 5) (a := a) (b := b) (n := n) hp (by omega) (by omega)).symm.trans HV.out)
    have HW := Lib.hid (show 2 ≤ vw ∧ vw ≤ 8 from ⟨(pr_in hp).1.1, (pr_in hp).1.2.1⟩)
    have KA := Lib.hid (fun W => i_acc 1 a vw L.length (by omega) W)
    have KB := Lib.hid (fun W => i_acc 1 b vw L.length (by omega) W)
    have KN := Lib.hid (fun W => i_acc 2 n vw L.length (by omega) W)
    have HH := Lib.hid (show (opB 1 a vw L.length && (opB 1 b vw L.length && (opB 2 n vw L.length && decide (a < b)))) = V from HH.out)
    generalize opB 1 a vw L.length = QA at *
    generalize opB 1 b vw L.length = QB at *
    generalize opB 2 n vw L.length = QN at *
    clear HV hp K1 HVR HB0 X0 Y0
    go_wp2
    go_region
    obtain ⟨w2, hw2⟩ : ∃ x, x = (w1.alloc (.cells #[.string ⟨#[115, 117, 109]⟩, .int .i64 1, .int .i64 2] 63)).drew := ⟨_, rfl⟩
    have hb2 : Below w1.heap.size w1 w2 := by rw [hw2]; exact ((Below.refl _ _).alloc (Nat.le_refl _) _).drew
    have HB2 := Lib.hid (HB1.out.trans (hb2.mono HB1.out.size))
    have X2 := Lib.hid (X1.out.below hb2)
    have Y2 := Lib.hid (Y1.out.below hb2)
    have Z := Lib.hid (show ∀ j, w2.cell? ⟨w1.heap.size, j, none⟩ = #[(.string ⟨#[115, 117, 109]⟩ : Value), (.int .i64 1 : Value), (.int .i64 2 : Value)][j]? from fun j => by rw [hw2]; exact cell_of_row _ w1.heap.size j _ 63 (0, 0) (heap_alloc_new w1 _))
    have z1 : w2.cell? ⟨w1.heap.size, 1, none⟩ = some (.int .i64 1) := Z.out 1
    have z2 : w2.cell? ⟨w1.heap.size, 2, none⟩ = some (.int .i64 2) := Z.out 2
    clear x0 x1 x2 x3 y0 y1 y2 y3 g0 g1 g2 hb2
    rw [← hw2]
    clear hw2
    obtain ⟨x0, x1, x2, x3⟩ := X2.out
    obtain ⟨y0, y1, y2, y3⟩ := Y2.out
    go_wp2_with fail
    refine (KA.out _).mono ?_
    rintro e w3 ⟨rfl, rfl⟩
    cases QA
    case false =>
      have hv : V = false := by exact HH.out.symm.trans (by first | rfl | (simp [*]; done) | simp_all)
      subst hv
      go_wp2
      go_ret
      exact ⟨rfl, HB2.out⟩
    case true =>
      go_wp2_with fail
      refine (KB.out _).mono ?_
      rintro e w3 ⟨rfl, rfl⟩
      cases QB
      case false =>
        have hv : V = false := by exact HH.out.symm.trans (by first | rfl | (simp [*]; done) | simp_all)
        subst hv
        go_wp2
        go_ret
        exact ⟨rfl, HB2.out⟩
      case true =>
        go_wp2_with fail
        refine (KN.out _).mono ?_
        rintro e w3 ⟨rfl, rfl⟩
        cases QN
        case false =>
          have hv : V = false := by exact HH.out.symm.trans (by first | rfl | (simp [*]; done) | simp_all)
          subst hv
          go_wp2
          go_ret
          exact ⟨rfl, HB2.out⟩
        case true =>
          rcases Decidable.em (a < b) with hc | hc
          case inl =>
            have gd : decide (a < b) = true := decide_eq_true hc
            have hv : V = true := by exact HH.out.symm.trans (by first | rfl | (simp [*]; done) | simp_all)
            subst hv
            go_wp2
            go_ret
            exact ⟨rfl, HB2.out⟩
          case inr =>
            have gd : decide (a < b) = false := decide_eq_false hc
            have hv : V = false := by exact HH.out.symm.trans (by first | rfl | (simp [*]; done) | simp_all)
            subst hv
            go_wp2
            go_ret
            exact ⟨rfl, HB2.out⟩
set_option maxRecDepth 100000 in
set_option maxHeartbeats 8000000 in
theorem i_fact6 (vw vm vi : Int) (L : List InsR) (a b n : Int) (s : Value) (w : World) (hs : Cs.Shows w 0 4 s L.length (InsR.all L)) (hok : ∀ r ∈ L, r.Ok) (hL : L.length ≤ maxLen) (hvar : w.var? Tryd.prog "loop.example/g03219/impl.factForms" = some fmCells) :
    Calls Tryd.prog 11 #[.agg #[.int .i64 vw, .int .i64 vm, .int .i64 vi, s], .agg #[.int .i64 6, .int .i64 a, .int .i64 b, .int .i64 n]] w fun e w' => e = .returned (.bool (fcB vw vm vi L 6 a b n)) ∧ Below w.heap.size w w' := by
  have hml : maxLen = 9223372036854775807 := rfl
  have K1 := Lib.hid (fun W (hb : Below w.heap.size w W) => i_prog vw vm vi L s W (hs.below hb) hok hL)
  obtain ⟨_, q, cap, rfl, _⟩ := hs
  obtain ⟨V, hV⟩ : ∃ V, fcB vw vm vi L 6 a b n = V := ⟨_, rfl⟩
  rw [hV]
  have HV := Lib.hid hV
  clear hV
  have HB0 := Lib.hid (((Below.refl w.heap.size w).alloc (Nat.le_refl _) (.cells #[.int .i64 vw, .int .i64 vm, .int .i64 vi, .slice q L.length cap] 31)).alloc (by simp) (.cells #[.int .i64 6, .int .i64 a, .int .i64 b, .int .i64 n] 33))
  have X0 := Lib.hid ((cell4_alloc w 31 (.int .i64 vw) (.int .i64 vm) (.int .i64 vi) (.slice q L.length cap)).below ((Below.refl _ _).alloc (Nat.le_refl _) (.cells #[.int .i64 6, .int .i64 a, .int .i64 b, .int .i64 n] 33)))
  have Y0 := Lib.hid (cell4_alloc (w.alloc (.cells #[.int .i64 vw, .int .i64 vm, .int .i64 vi, .slice q L.length cap] 31)) 33 (.int .i64 6) (.int .i64 a) (.int .i64 b) (.int .i64 n))
  rw [show (w.alloc (.cells #[.int .i64 vw, .int .i64 vm, .int .i64 vi, .slice q L.length cap] 31)).heap.size = w.heap.size + 1 by simp] at Y0
  obtain ⟨w0, hw0⟩ : ∃ w0, w0 = (w.alloc (.cells #[.int .i64 vw, .int .i64 vm, .int .i64 vi, .slice q L.length cap] 31)).alloc (.cells #[.int .i64 6, .int .i64 a, .int .i64 b, .int .i64 n] 33) := ⟨_, rfl⟩
  have hs0 : w0.heap.size = w.heap.size + 2 := by rw [hw0]; simp
  rw [← hw0] at HB0 X0 Y0
  have HVR := Lib.hid (fun W (hb : Below w.heap.size w W) => forms_below hb hvar)
  clear hvar
  obtain ⟨x0, x1, x2, x3⟩ := X0.out
  obtain ⟨y0, y1, y2, y3⟩ := Y0.out
  rw [hw0] at x0 x1 x2 x3 y0 y1 y2 y3
  go_enter Tryd.func11, Tryd.ntmps11
  go_wp2_with fail
  rw [← hw0] at x0 x1 x2 x3 y0 y1 y2 y3 ⊢
  clear hw0
  refine (K1.out _ HB0.out).mono ?_
  rintro e w1 ⟨rfl, hb⟩
  have HB1 := Lib.hid (HB0.out.trans (hb.mono HB0.out.size))
  have X1 := Lib.hid (X0.out.below hb)
  have Y1 := Lib.hid (Y0.out.below hb)
  have hsz := hb.size
  clear hb x0 x1 x2 x3 y0 y1 y2 y3
  obtain ⟨x0, x1, x2, x3⟩ := X1.out
  obtain ⟨y0, y1, y2, y3⟩ := Y1.out
  cases hp : prB vw vm vi L
  case false =>
    have hv : V = false := by rw [← HV.out]; exact fc_bad hp
    subst hv
    go_wp2
    go_ret
    exact ⟨rfl, HB1.out⟩
  case true =>
    have g0 : w1.cell? ⟨0, 18, none⟩ = some (.string ⟨#[111, 114, 100, 101, 114]⟩) := form_cells (HVR.out _ HB1.out) 18 (by omega)
    have g1 : w1.cell? ⟨0, 19, none⟩ = some (.int .i64 1) := form_cells (HVR.out _ HB1.out) 19 (by omega)
    have g2 : w1.cell? ⟨0, 20, none⟩ = some (.int .i64 0) := form_cells (HVR.out _ HB1.out) 20 (by omega)
    have hz1 : w.heap.size < w1.heap.size := by omega
    have hz2 : w.heap.size + 1 < w1.heap.size := by omega
    have hzg : 0 < w1.heap.size := World.block_lt_of_cell? _ _ g0
    have HH := Lib.hid ((fc_in (k := 6) (a := a) (b := b) (n := n) hp (by omega) (by omega)).symm.trans HV.out)
    have HW := Lib.hid (show 2 ≤ vw ∧ vw ≤ 8 from ⟨(pr_in hp).1.1, (pr_in hp).1.2.1⟩)
    have KA := Lib.hid (fun W => i_acc 1 a vw L.length (by omega) W)
    have KB := Lib.hid (fun W => i_acc 1 b vw L.length (by omega) W)
    have KN := Lib.hid (fun W => i_acc 0 n vw L.length (by omega) W)
    have HH := Lib.hid (show (opB 1 a vw L.length && (opB 1 b vw L.length && (opB 0 n vw L.length && decide (a ≠ b)))) = V from HH.out)
    generalize opB 1 a vw L.length = QA at *
    generalize opB 1 b vw L.length = QB at *
    generalize opB 0 n vw L.length = QN at *
    clear HV hp K1 HVR HB0 X0 Y0
    go_wp2
    go_region
    obtain ⟨w2, hw2⟩ : ∃ x, x = (w1.alloc (.cells #[.string ⟨#[111, 114, 100, 101, 114]⟩, .int .i64 1, .int .i64 0] 63)).drew := ⟨_, rfl⟩
    have hb2 : Below w1.heap.size w1 w2 := by rw [hw2]; exact ((Below.refl _ _).alloc (Nat.le_refl _) _).drew
    have HB2 := Lib.hid (HB1.out.trans (hb2.mono HB1.out.size))
    have X2 := Lib.hid (X1.out.below hb2)
    have Y2 := Lib.hid (Y1.out.below hb2)
    have Z := Lib.hid (show ∀ j, w2.cell? ⟨w1.heap.size, j, none⟩ = #[(.string ⟨#[111, 114, 100, 101, 114]⟩ : Value), (.int .i64 1 : Value), (.int .i64 0 : Value)][j]? from fun j => by rw [hw2]; exact cell_of_row _ w1.heap.size j _ 63 (0, 0) (heap_alloc_new w1 _))
    have z1 : w2.cell? ⟨w1.heap.size, 1, none⟩ = some (.int .i64 1) := Z.out 1
    have z2 : w2.cell? ⟨w1.heap.size, 2, none⟩ = some (.int .i64 0) := Z.out 2
    clear x0 x1 x2 x3 y0 y1 y2 y3 g0 g1 g2 hb2
    rw [← hw2]
    clear hw2
    obtain ⟨x0, x1, x2, x3⟩ := X2.out
    obtain ⟨y0, y1, y2, y3⟩ := Y2.out
    go_wp2_with fail
    refine (KA.out _).mono ?_
    rintro e w3 ⟨rfl, rfl⟩
    cases QA
    case false =>
      have hv : V = false := by exact HH.out.symm.trans (by first | rfl | (simp [*]; done) | simp_all)
      subst hv
      go_wp2
      go_ret
      exact ⟨rfl, HB2.out⟩
    case true =>
      go_wp2_with fail
      refine (KB.out _).mono ?_
      rintro e w3 ⟨rfl, rfl⟩
      cases QB
      case false =>
        have hv : V = false := by exact HH.out.symm.trans (by first | rfl | (simp [*]; done) | simp_all)
        subst hv
        go_wp2
        go_ret
        exact ⟨rfl, HB2.out⟩
      case true =>
        go_wp2_with fail
        refine (KN.out _).mono ?_
        rintro e w3 ⟨rfl, rfl⟩
        cases QN
        case false =>
          have hv : V = false := by exact HH.out.symm.trans (by first | rfl | (simp [*]; done) | simp_all)
          subst hv
          go_wp2
          go_ret
          exact ⟨rfl, HB2.out⟩
        case true =>
          rcases Decidable.em (a ≠ b) with hc | hc
          case inl =>
            have gd : (a != b) = true := by simpa using hc
            have hv : V = true := by exact HH.out.symm.trans (by first | rfl | (simp [*]; done) | simp_all)
            subst hv
            go_wp2
            go_ret
            exact ⟨rfl, HB2.out⟩
          case inr =>
            have gd : (a != b) = false := by simpa using hc
            have hv : V = false := by exact HH.out.symm.trans (by first | rfl | (simp [*]; done) | simp_all)
            subst hv
            go_wp2
            go_ret
            exact ⟨rfl, HB2.out⟩
set_option maxRecDepth 100000 in
set_option maxHeartbeats 8000000 in
theorem i_fact0 (vw vm vi : Int) (L : List InsR) (k a b n : Int) (s : Value) (w : World) (hs : Cs.Shows w 0 4 s L.length (InsR.all L)) (hok : ∀ r ∈ L, r.Ok) (hL : L.length ≤ maxLen) (hk : k < 1 ∨ 6 < k) :
    Calls Tryd.prog 11 #[.agg #[.int .i64 vw, .int .i64 vm, .int .i64 vi, s], .agg #[.int .i64 k, .int .i64 a, .int .i64 b, .int .i64 n]] w fun e w' => e = .returned (.bool (fcB vw vm vi L k a b n)) ∧ Below w.heap.size w w' := by
  have hml : maxLen = 9223372036854775807 := rfl
  have K1 := Lib.hid (fun W (hb : Below w.heap.size w W) => i_prog vw vm vi L s W (hs.below hb) hok hL)
  obtain ⟨_, q, cap, rfl, _⟩ := hs
  obtain ⟨V, hV⟩ : ∃ V, fcB vw vm vi L k a b n = V := ⟨_, rfl⟩
  rw [hV]
  have HV := Lib.hid hV
  clear hV
  have HB0 := Lib.hid (((Below.refl w.heap.size w).alloc (Nat.le_refl _) (.cells #[.int .i64 vw, .int .i64 vm, .int .i64 vi, .slice q L.length cap] 31)).alloc (by simp) (.cells #[.int .i64 k, .int .i64 a, .int .i64 b, .int .i64 n] 33))
  have X0 := Lib.hid ((cell4_alloc w 31 (.int .i64 vw) (.int .i64 vm) (.int .i64 vi) (.slice q L.length cap)).below ((Below.refl _ _).alloc (Nat.le_refl _) (.cells #[.int .i64 k, .int .i64 a, .int .i64 b, .int .i64 n] 33)))
  have Y0 := Lib.hid (cell4_alloc (w.alloc (.cells #[.int .i64 vw, .int .i64 vm, .int .i64 vi, .slice q L.length cap] 31)) 33 (.int .i64 k) (.int .i64 a) (.int .i64 b) (.int .i64 n))
  rw [show (w.alloc (.cells #[.int .i64 vw, .int .i64 vm, .int .i64 vi, .slice q L.length cap] 31)).heap.size = w.heap.size + 1 by simp] at Y0
  obtain ⟨w0, hw0⟩ : ∃ w0, w0 = (w.alloc (.cells #[.int .i64 vw, .int .i64 vm, .int .i64 vi, .slice q L.length cap] 31)).alloc (.cells #[.int .i64 k, .int .i64 a, .int .i64 b, .int .i64 n] 33) := ⟨_, rfl⟩
  have hs0 : w0.heap.size = w.heap.size + 2 := by rw [hw0]; simp
  rw [← hw0] at HB0 X0 Y0
  obtain ⟨x0, x1, x2, x3⟩ := X0.out
  obtain ⟨y0, y1, y2, y3⟩ := Y0.out
  rw [hw0] at x0 x1 x2 x3 y0 y1 y2 y3
  go_enter Tryd.func11, Tryd.ntmps11
  go_wp2_with fail
  rw [← hw0] at x0 x1 x2 x3 y0 y1 y2 y3 ⊢
  clear hw0
  refine (K1.out _ HB0.out).mono ?_
  rintro e w1 ⟨rfl, hb⟩
  have HB1 := Lib.hid (HB0.out.trans (hb.mono HB0.out.size))
  have X1 := Lib.hid (X0.out.below hb)
  have Y1 := Lib.hid (Y0.out.below hb)
  have hsz := hb.size
  clear hb x0 x1 x2 x3 y0 y1 y2 y3
  obtain ⟨x0, x1, x2, x3⟩ := X1.out
  obtain ⟨y0, y1, y2, y3⟩ := Y1.out
  cases hp : prB vw vm vi L
  case false =>
    have hv : V = false := by rw [← HV.out]; exact fc_bad hp
    subst hv
    go_wp2
    go_ret
    exact ⟨rfl, HB1.out⟩
  case true =>
    have hv : V = false := by rw [← HV.out]; exact fc_out hk
    subst hv
    rcases hk with hk | hk
    · go_wp2
      go_ret
      exact ⟨rfl, HB1.out⟩
    · have hk2 : ¬ k < 1 := by omega
      have hk3 : decide (k < 1) = false := decide_eq_false hk2
      have hk4 : decide (6 < k) = true := decide_eq_true hk
      go_wp2
      go_ret
      exact ⟨rfl, HB1.out⟩
theorem i_fact (vw vm vi : Int) (L : List InsR) (k a b n : Int) (s : Value) (w : World) (hs : Cs.Shows w 0 4 s L.length (InsR.all L)) (hok : ∀ r ∈ L, r.Ok) (hL : L.length ≤ maxLen) (hvar : w.var? Tryd.prog "loop.example/g03219/impl.factForms" = some fmCells) :
    Calls Tryd.prog 11 #[.agg #[.int .i64 vw, .int .i64 vm, .int .i64 vi, s], .agg #[.int .i64 k, .int .i64 a, .int .i64 b, .int .i64 n]] w fun e w' => e = .returned (.bool (fcB vw vm vi L k a b n)) ∧ Below w.heap.size w w' := by
  rcases fk_cases k with rfl | rfl | rfl | rfl | rfl | rfl | hk
  · exact i_fact1 vw vm vi L a b n s w hs hok hL hvar
  · exact i_fact2 vw vm vi L a b n s w hs hok hL hvar
  · exact i_fact3 vw vm vi L a b n s w hs hok hL hvar
  · exact i_fact4 vw vm vi L a b n s w hs hok hL hvar
  · exact i_fact5 vw vm vi L a b n s w hs hok hL hvar
  · exact i_fact6 vw vm vi L a b n s w hs hok hL hvar
  · exact i_fact0 vw vm vi L k a b n s w hs hok hL hk
end Go.Proofs.YtcihgechijiamaaDoor
