/- What the program's checks of operands, instructions and programs return. No condition. -/
import Derived.Test.YthmababifgaejaaGreatDoorEmGTmM
import Derived.Test.YthmababifgaejaaGreatDoorEmGInb
import Derived.Test.YthmababifgaejaaGreatDoorEmGSzI
import Derived.WalkSpells
import Derived.Laws.EntriesVeiled
namespace Go.Proofs.YthmababifgaejaaGreatDoor
open Go.ChangeShapes Go.WideShapes Go.ChangeAt Go.RowKit
set_option maxRecDepth 100000 in
theorem i_mw (x : Int) (w : World) : Calls Tryz.prog 89 #[.int .i64 x] w fun e w' => e = .returned (.bool (decide (2 ≤ x) && decide (x ≤ 8))) ∧ w = w' := by
  by_cases h1 : 2 ≤ x
  · by_cases h2 : x ≤ 8
    · go_enter Tryz.func89, Tryz.ntmps89
      go_wp2
      go_ret
      exact ⟨by simp [h1, h2], rfl⟩
    · go_enter Tryz.func89, Tryz.ntmps89
      go_wp2
      go_ret
      exact ⟨by simp [h2], rfl⟩
  · go_enter Tryz.func89, Tryz.ntmps89
    go_wp2
    go_ret
    exact ⟨by rw [show decide (2 ≤ x) = false from by simp; omega]; rfl, rfl⟩
set_option maxRecDepth 100000 in
theorem i_size (x : Int) (w : World) : Calls Tryz.prog 91 #[.int .i64 x] w fun e w' => e = .returned (.bool (decide (1 ≤ x) && decide (x ≤ 40))) ∧ w = w' := by
  by_cases h1 : 1 ≤ x
  · by_cases h2 : x ≤ 40
    · go_enter Tryz.func91, Tryz.ntmps91
      go_wp2
      go_ret
      exact ⟨by simp [h1, h2], rfl⟩
    · go_enter Tryz.func91, Tryz.ntmps91
      go_wp2
      go_ret
      exact ⟨by simp [h2], rfl⟩
  · go_enter Tryz.func91, Tryz.ntmps91
    go_wp2
    go_ret
    exact ⟨by rw [show decide (1 ≤ x) = false from by simp; omega]; rfl, rfl⟩
set_option maxRecDepth 100000 in
theorem i_isbin (x : Int) (w : World) : Calls Tryz.prog 110 #[.int .i64 x] w fun e w' => e = .returned (.bool (decide (3 ≤ x) && decide (x ≤ 16))) ∧ w = w' := by
  by_cases h1 : 3 ≤ x
  · by_cases h2 : x ≤ 16
    · go_enter Tryz.func110, Tryz.ntmps110
      go_wp2
      go_ret
      exact ⟨by simp [h1, h2], rfl⟩
    · go_enter Tryz.func110, Tryz.ntmps110
      go_wp2
      go_ret
      exact ⟨by simp [h2], rfl⟩
  · go_enter Tryz.func110, Tryz.ntmps110
    go_wp2
    go_ret
    exact ⟨by rw [show decide (3 ≤ x) = false from by simp; omega]; rfl, rfl⟩
set_option maxRecDepth 100000 in
set_option maxHeartbeats 2000000 in
theorem i_acc (o n wd size : Int) (ho : o = 0 ∨ o = 1 ∨ o = 2 ∨ o = 3 ∨ o = 4) (w : World) : Calls Tryz.prog 85 #[.int .i64 o, .int .i64 n, .int .i64 wd, .int .i64 size] w fun e w' => e = .returned (.bool (opB o n wd size)) ∧ w = w' := by
  rcases ho with rfl | rfl | rfl | rfl | rfl
  · rw [opB_none]
    by_cases h : n = 0
    · subst h
      go_enter Tryz.func85, Tryz.ntmps85
      go_wp2
      go_ret
      exact ⟨by simp, rfl⟩
    · have hf : (n == 0) = false := by simpa using h
      go_enter Tryz.func85, Tryz.ntmps85
      go_wp2
      go_ret
      exact ⟨by simp [h], rfl⟩
  · rw [opB_reg]
    by_cases h1 : 0 ≤ n
    · by_cases h2 : n ≤ 3
      · have h3 : n < 4 := by omega
        go_enter Tryz.func85, Tryz.ntmps85
        go_wp2
        go_ret
        exact ⟨by simp [h1, h2], rfl⟩
      · have h3 : ¬ n < 4 := by omega
        go_enter Tryz.func85, Tryz.ntmps85
        go_wp2
        go_ret
        exact ⟨by simp [h2], rfl⟩
    · go_enter Tryz.func85, Tryz.ntmps85
      go_wp2
      go_ret
      exact ⟨by rw [show decide (0 ≤ n) = false from by simp; omega]; rfl, rfl⟩
  · rw [opB_word]
    have K := Lib.hid (fun W => i_wk wd n W)
    generalize wkB wd n = c at *
    go_enter Tryz.func85, Tryz.ntmps85
    go_wp2_with (go_at_call 90; refine (K.out _).mono ?_; rintro e w2 ⟨rfl, rfl⟩)
    go_ret
    exact ⟨rfl, rfl⟩
  · rw [opB_place]
    by_cases h1 : 0 ≤ n
    · by_cases h2 : n ≤ size
      · go_enter Tryz.func85, Tryz.ntmps85
        go_wp2
        go_ret
        exact ⟨by simp [h1, h2], rfl⟩
      · have h3 : decide (n ≤ size) = false := by simp; omega
        go_enter Tryz.func85, Tryz.ntmps85
        go_wp2
        go_ret
        exact ⟨by simp, rfl⟩
    · go_enter Tryz.func85, Tryz.ntmps85
      go_wp2
      go_ret
      exact ⟨by rw [show decide (0 ≤ n) = false from by simp; omega]; rfl, rfl⟩
  · rw [opB_oper]
    have K := Lib.hid (fun W => i_isbin n W)
    generalize (decide (3 ≤ n) && decide (n ≤ 16)) = c at *
    go_enter Tryz.func85, Tryz.ntmps85
    go_wp2_with (go_at_call 110; refine (K.out _).mono ?_; rintro e w2 ⟨rfl, rfl⟩)
    go_ret
    exact ⟨rfl, rfl⟩
/-- the form of an instruction: its name, the kinds of its operands, whether it leaves, what does it -/
def formV (op : Int) : Value :=
  if op = 1 then .agg #[.string { data := #[115, 101, 116] }, .int .i64 1, .int .i64 2, .int .i64 0, .bool false, .func (.func 118) #[] #[]] else if op = 2 then .agg #[.string { data := #[109, 111, 118, 101] }, .int .i64 1, .int .i64 1, .int .i64 0, .bool false, .func (.func 119) #[] #[]] else if op = 3 then .agg #[.string { data := #[] }, .int .i64 1, .int .i64 1, .int .i64 4, .bool false, .func (.func 120) #[] #[]] else if op = 4 then .agg #[.string { data := #[110, 111, 116] }, .int .i64 1, .int .i64 0, .int .i64 0, .bool false, .func (.func 121) #[] #[]] else if op = 5 then .agg #[.string { data := #[105, 110] }, .int .i64 1, .int .i64 0, .int .i64 0, .bool false, .func (.func 122) #[] #[]] else if op = 6 then .agg #[.string { data := #[111, 117, 116] }, .int .i64 1, .int .i64 0, .int .i64 0, .bool false, .func (.func 123) #[] #[]] else if op = 7 then .agg #[.string { data := #[108, 111, 97, 100] }, .int .i64 1, .int .i64 1, .int .i64 0, .bool false, .func (.func 124) #[] #[]] else if op = 8 then .agg #[.string { data := #[115, 116, 111, 114, 101] }, .int .i64 1, .int .i64 1, .int .i64 0, .bool false, .func (.func 125) #[] #[]] else if op = 9 then .agg #[.string { data := #[106, 117, 109, 112] }, .int .i64 0, .int .i64 3, .int .i64 0, .bool true, .func (.func 126) #[] #[]] else if op = 10 then .agg #[.string { data := #[122, 101, 114, 111] }, .int .i64 1, .int .i64 3, .int .i64 0, .bool false, .func (.func 127) #[] #[]] else if op = 11 then .agg #[.string { data := #[99, 97, 108, 108] }, .int .i64 0, .int .i64 3, .int .i64 0, .bool false, .func (.func 128) #[] #[]] else if op = 12 then .agg #[.string { data := #[114, 101, 116] }, .int .i64 0, .int .i64 0, .int .i64 0, .bool true, .func (.func 129) #[] #[]] else if op = 13 then .agg #[.string { data := #[99, 104, 101, 99, 107] }, .int .i64 1, .int .i64 0, .int .i64 0, .bool false, .func (.func 130) #[] #[]] else if op = 14 then .agg #[.string { data := #[104, 97, 108, 116] }, .int .i64 0, .int .i64 0, .int .i64 0, .bool true, .func (.func 131) #[] #[]] else .agg #[.string { data := #[] }, .int .i64 0, .int .i64 0, .int .i64 0, .bool false, .nilFunc]
set_option maxRecDepth 100000 in
set_option maxHeartbeats 2000000 in
theorem i_form (op : Int) (w : World) : Calls Tryz.prog 113 #[.int .i64 op] w fun e w' => e = .returned (formV op) ∧ Below w.heap.size w w' := by
  rcases op_cases op with rfl | rfl | rfl | rfl | rfl | rfl | rfl | rfl | rfl | rfl | rfl | rfl | rfl | rfl | hop
  all_goals
    go_enter Tryz.func113, Tryz.ntmps113
  case' inr.inr.inr.inr.inr.inr.inr.inr.inr.inr.inr.inr.inr.inr =>
    have n1 : (op == 1) = false := by simp; omega
    have n2 : (op == 2) = false := by simp; omega
    have n3 : (op == 3) = false := by simp; omega
    have n4 : (op == 4) = false := by simp; omega
    have n5 : (op == 5) = false := by simp; omega
    have n6 : (op == 6) = false := by simp; omega
    have n7 : (op == 7) = false := by simp; omega
    have n8 : (op == 8) = false := by simp; omega
    have n9 : (op == 9) = false := by simp; omega
    have n10 : (op == 10) = false := by simp; omega
    have n11 : (op == 11) = false := by simp; omega
    have n12 : (op == 12) = false := by simp; omega
    have n13 : (op == 13) = false := by simp; omega
    have n14 : (op == 14) = false := by simp; omega
    go_wp2
    refine bodyPost_ret (v := .agg #[.string { data := #[] }, .int .i64 0, .int .i64 0, .int .i64 0, .bool false, .nilFunc]) (by simp [results, Tryz.results113, go_sem]) rfl ?_
    refine ⟨?_, (Below.refl _ _).alloc (Nat.le_refl _) _⟩
    unfold formV
    repeat (rw [if_neg (by omega)])
  all_goals
    go_wp2
    refine bodyPost_ret (v := formV _) (by simp [results, Tryz.results113, go_sem, formV]) rfl ⟨rfl, (Below.refl _ _).alloc (Nat.le_refl _) _⟩
theorem form_in {op : Int} (h1 : 1 ≤ op) (h2 : op ≤ 14) : ∃ nm F, formV op = .agg #[.string nm, .int .i64 (fA op), .int .i64 (fB op), .int .i64 (fC op), .bool (fL op), .func (.func F) #[] #[]] := by
  rcases op_cases op with rfl | rfl | rfl | rfl | rfl | rfl | rfl | rfl | rfl | rfl | rfl | rfl | rfl | rfl | hop
  any_goals exact ⟨_, _, rfl⟩
  omega
theorem form_out {op : Int} (h : op < 1 ∨ 14 < op) : formV op = .agg #[.string { data := #[] }, .int .i64 0, .int .i64 0, .int .i64 0, .bool false, .nilFunc] := by
  unfold formV
  repeat (rw [if_neg (by omega)])
theorem fA_kind (op : Int) : fA op = 0 ∨ fA op = 1 ∨ fA op = 2 ∨ fA op = 3 ∨ fA op = 4 := by
  unfold fA
  split <;> simp
theorem fB_kind (op : Int) : fB op = 0 ∨ fB op = 1 ∨ fB op = 2 ∨ fB op = 3 ∨ fB op = 4 := by
  unfold fB
  split
  · simp
  · split
    · simp
    · split <;> simp
theorem fC_kind (op : Int) : fC op = 0 ∨ fC op = 1 ∨ fC op = 2 ∨ fC op = 3 ∨ fC op = 4 := by
  unfold fC
  split <;> simp
set_option maxRecDepth 100000 in
set_option maxHeartbeats 2000000 in
theorem i_ins (op a b c wd size : Int) (w : World) : Calls Tryz.prog 92 #[.agg #[.int .i64 op, .int .i64 a, .int .i64 b, .int .i64 c], .int .i64 wd, .int .i64 size] w fun e w' => e = .returned (.bool (insB ⟨op, a, b, c⟩ wd size)) ∧ Below w.heap.size w w' := by
  have HB0 := Lib.hid ((Below.refl w.heap.size w).alloc (Nat.le_refl _) (.cells #[.int .i64 op, .int .i64 a, .int .i64 b, .int .i64 c] 82))
  have X0 := Lib.hid (cell4_alloc w 82 (.int .i64 op) (.int .i64 a) (.int .i64 b) (.int .i64 c))
  obtain ⟨w0, hw0⟩ : ∃ w0, w0 = w.alloc (.cells #[.int .i64 op, .int .i64 a, .int .i64 b, .int .i64 c] 82) := ⟨_, rfl⟩
  rw [← hw0] at HB0 X0
  have KF := Lib.hid (fun W => i_form op W)
  by_cases hop : op < 1 ∨ 14 < op
  · rw [ins_out (r := ⟨op, a, b, c⟩) hop]
    rw [form_out hop] at KF
    have hrun : ∀ W, Sem.run Tryz.prog (binOp BinOp.neq 127 Value.nilFunc Value.nilFunc) W = .ok (.bool false) W := fun W => by kernel_rfl
    go_enter Tryz.func92, Tryz.ntmps92
    go_wp2_with fail
    rw [← hw0]
    clear hw0
    refine (KF.out _).mono ?_
    rintro e w1 ⟨rfl, hb⟩
    have HB1 := Lib.hid (HB0.out.trans (hb.mono HB0.out.size))
    clear hb
    go_wp2
    go_ret
    exact ⟨rfl, HB1.out.alloc HB1.out.size _⟩
  · rw [ins_in (r := ⟨op, a, b, c⟩) (show 1 ≤ op by omega) (show op ≤ 14 by omega)]
    obtain ⟨nm, F, hF⟩ := form_in (op := op) (by omega) (by omega)
    rw [hF] at KF
    have KA := Lib.hid (fun W => i_acc (fA op) a wd size (fA_kind op) W)
    have KB := Lib.hid (fun W => i_acc (fB op) b wd size (fB_kind op) W)
    have KC := Lib.hid (fun W => i_acc (fC op) c wd size (fC_kind op) W)
    show Calls _ _ _ _ fun e w' => e = .returned (.bool (opB (fA op) a wd size && (opB (fB op) b wd size && opB (fC op) c wd size))) ∧ _
    generalize opB (fA op) a wd size = QA at *
    generalize opB (fB op) b wd size = QB at *
    generalize opB (fC op) c wd size = QC at *
    generalize fA op = ka at *
    generalize fB op = kb at *
    generalize fC op = kc at *
    generalize fL op = kl at *
    clear hF hop
    have hrun : ∀ W, Sem.run Tryz.prog (binOp BinOp.neq 127 (Value.func (Fn.func F) #[] #[]) Value.nilFunc) W = .ok (.bool true) W := fun W => by kernel_rfl
    go_enter Tryz.func92, Tryz.ntmps92
    go_wp2_with fail
    rw [← hw0]
    clear hw0
    refine (KF.out _).mono ?_
    rintro e w1 ⟨rfl, hb⟩
    have HB1 := Lib.hid (HB0.out.trans (hb.mono HB0.out.size))
    have hlt := hb.size
    have hlw : w.heap.size < w1.heap.size := Nat.lt_of_lt_of_le (World.block_lt_of_cell? _ _ X0.out.1) hlt
    obtain ⟨x0, x1, x2, x3⟩ := X0.out.below hb
    clear hb
    have HB2 := Lib.hid (HB1.out.alloc HB1.out.size (.cells #[.string nm, .int .i64 ka, .int .i64 kb, .int .i64 kc, .bool kl, .func (.func F) #[] #[]] 129))
    go_wp2_with fail
    refine (KA.out _).mono ?_
    rintro e w2 ⟨rfl, rfl⟩
    cases QA
    case false =>
      go_wp2
      go_ret
      exact ⟨rfl, HB2.out⟩
    case true =>
      go_wp2_with fail
      refine (KB.out _).mono ?_
      rintro e w2 ⟨rfl, rfl⟩
      cases QB
      case false =>
        go_wp2
        go_ret
        exact ⟨rfl, HB2.out⟩
      case true =>
        go_wp2_with fail
        refine (KC.out _).mono ?_
        rintro e w2 ⟨rfl, rfl⟩
        go_wp2
        go_ret
        exact ⟨rfl, HB2.out⟩
set_option maxRecDepth 100000 in
set_option maxHeartbeats 4000000 in
theorem i_prog (vw vm vi : Int) (L : List InsR) (s : Value) (w : World) (hs : Cs.Shows w 0 4 s L.length (InsR.all L)) (_hok : ∀ r ∈ L, r.Ok) (hl : L.length ≤ maxLen) :
    Calls Tryz.prog 66 #[.agg #[.int .i64 vw, .int .i64 vm, .int .i64 vi, s]] w fun e w' => e = .returned (.bool (prB vw vm vi L)) ∧ Below w.heap.size w w' := by
  have hml : maxLen = 9223372036854775807 := rfl
  have HS := Lib.hid hs
  obtain ⟨_, q, cap, rfl, hcap, _⟩ := hs
  have HB0 := Lib.hid ((Below.refl w.heap.size w).alloc (Nat.le_refl _) (.cells #[.int .i64 vw, .int .i64 vm, .int .i64 vi, .slice q L.length cap] 37))
  have X0 := Lib.hid (cell4_alloc w 37 (.int .i64 vw) (.int .i64 vm) (.int .i64 vi) (.slice q L.length cap))
  obtain ⟨w0, hw0⟩ : ∃ w0, w0 = w.alloc (.cells #[.int .i64 vw, .int .i64 vm, .int .i64 vi, .slice q L.length cap] 37) := ⟨_, rfl⟩
  have hs0 : w0.heap.size = w.heap.size + 1 := by rw [hw0]; simp
  rw [← hw0] at HB0 X0
  obtain ⟨b1, h1⟩ : ∃ c, (decide (2 ≤ vw) && decide (vw ≤ 8)) = c := ⟨_, rfl⟩
  obtain ⟨b2, h2⟩ : ∃ c, (decide (1 ≤ vm) && decide (vm ≤ 6)) = c := ⟨_, rfl⟩
  obtain ⟨b3, h3⟩ : ∃ c, wkB vw vm = c := ⟨_, rfl⟩
  obtain ⟨b4, h4⟩ : ∃ c, (decide (0 ≤ vi) && decide (vi ≤ 3)) = c := ⟨_, rfl⟩
  obtain ⟨b5, h5⟩ : ∃ c, (decide (1 ≤ (L.length : Int)) && decide ((L.length : Int) ≤ 40)) = c := ⟨_, rfl⟩
  have K1 := Lib.hid (fun W => i_mw vw W)
  rw [h1] at K1
  have K3 := Lib.hid (fun W => i_wk vw vm W)
  rw [h3] at K3
  have K5 := Lib.hid (fun W => i_size L.length W)
  rw [h5] at K5
  obtain ⟨V, hV⟩ : ∃ V, prB vw vm vi L = V := ⟨_, rfl⟩
  rw [hV]
  by_cases hall : b1 = true ∧ b2 = true ∧ b3 = true ∧ b4 = true ∧ b5 = true
  · obtain ⟨rfl, rfl, rfl, rfl, rfl⟩ := hall
    simp only [Bool.and_eq_true, decide_eq_true_eq] at h1 h2 h4 h5
    have HAT := Lib.hid (fun j (h : j < L.length) (hi : insB L[j] vw L.length = false) => show V = false by rw [← hV]; exact pr_bad h hi)
    have HEND := Lib.hid (fun (h : ∀ j (hj : j < L.length), insB L[j] vw L.length = true) => show V = true by rw [← hV]; exact pr_ok h1.1 h1.2 h2.1 h2.2 h3 h4.1 h4.2 (by omega) (by omega) h)
    have HR : Hid (∀ j, (h : j < L.length) → ∃ b o, q = some ⟨b, o, none⟩ ∧ b < w.heap.size ∧ ∀ W, Below w.heap.size w W → W.cell? ⟨b, o + j * 4, none⟩ = some (.int .i64 L[j].f0) ∧ W.cell? ⟨b, o + j * 4 + 1, none⟩ = some (.int .i64 L[j].f1) ∧ W.cell? ⟨b, o + j * 4 + 2, none⟩ = some (.int .i64 L[j].f2) ∧ W.cell? ⟨b, o + j * 4 + 3, none⟩ = some (.int .i64 L[j].f3)) := Lib.hid (fun j h => by
      rcases Cs.shows_cases HS.out with ⟨h0, _⟩ | ⟨_, b, o, c, hq, _, _, hbl, hr⟩
      · omega
      · injection hq with e1 e2 e3
        refine ⟨b, o, e1, hbl, fun W hW => ?_⟩
        have hh := flat_nth InsR.cells 4 (fun _ => rfl) L j h (rangeAt_below hW hr)
        exact ⟨hh 0 _ rfl, hh 1 _ rfl, hh 2 _ rfl, hh 3 _ rfl⟩)
    obtain ⟨hm1, hm6⟩ := h2
    obtain ⟨hi0, hi3⟩ := h4
    have hl40 : (L.length : Int) ≤ 40 := h5.2
    have hl0 : 1 ≤ L.length := by omega
    clear h1 h3 h5 hV _hok HS
    obtain ⟨x0, x1, x2, x3⟩ := X0.out
    rw [hw0] at x0 x1 x2 x3
    go_enter Tryz.func66, Tryz.ntmps66
    go_wp2_with fail
    rw [← hw0] at x0 x1 x2 x3 ⊢
    clear hw0
    refine (K1.out _).mono ?_
    rintro e w2 ⟨rfl, rfl⟩
    go_wp2_with fail
    refine (K3.out _).mono ?_
    rintro e w2 ⟨rfl, rfl⟩
    go_wp2_with fail
    refine (K5.out _).mono ?_
    rintro e w2 ⟨rfl, rfl⟩
    go_wp2
    clear x0 x1 x2 x3 K1 K3 K5
    go_loopw [45] (fun i wr => ∃ j : Nat, j ≤ L.length ∧ i = .int .i64 j ∧ (∀ t (ht : t < L.length), t < j → insB L[t] vw L.length = true) ∧ Below w0.heap.size w0 wr) (fun i _ => L.length - (intOf i).toNat)
    case atStart => exact ⟨0, Nat.zero_le _, rfl, fun t _ h => absurd h (Nat.not_lt_zero _), Below.refl _ _⟩
    case round =>
      obtain ⟨j, hj, rfl, hv, hb⟩ := hrel
      have HV := Lib.hid hv
      have HB := Lib.hid hb
      have hsz := hb.size
      clear hv
      obtain ⟨x0, x1, x2, x3⟩ := X0.out.below hb
      by_cases hjn : j < L.length
      · obtain ⟨b, o, rfl, hbl, hcells⟩ := HR.out j hjn
        obtain ⟨c0, c1, c2, c3⟩ := hcells wr (HB0.out.trans (hb.mono (by omega)))
        clear hcells hb
        have hat := HAT.out j hjn
        have HN := Lib.hid (show ∀ (hv : insB L[j] vw L.length = true) t (ht : t < L.length), t < j + 1 → insB L[t] vw L.length = true from fun hv t ht h => by
          by_cases e : t = j
          · subst e; exact hv
          · exact HV.out t ht (by omega))
        generalize L[j] = g at *
        obtain ⟨op, a, b', c⟩ := g
        simp only at c0 c1 c2 c3
        have KX := Lib.hid (fun W => i_ins op a b' c vw L.length W)
        obtain ⟨B, hB⟩ : ∃ B, insB ⟨op, a, b', c⟩ vw L.length = B := ⟨_, rfl⟩
        rw [hB] at KX hat
        have HAT2 := Lib.hid hat
        have HN2 := Lib.hid (fun e => HN.out (hB.trans e))
        clear hat hB HN
        have hki : decide ((j : Int) < (L.length : Int)) = true := by simp; omega
        have hlt : w.heap.size < wr.heap.size := by omega
        have hbw : b < wr.heap.size := by omega
        go_wp2_with fail
        refine (KX.out _).mono ?_
        rintro e w2 ⟨rfl, hb2⟩
        have HB2 := Lib.hid ((HB.out.alloc hsz _).trans (hb2.mono (by simp; omega)))
        clear hb2 c0 c1 c2 c3 x0 x1 x2 x3
        cases B
        case false =>
          have hv := HAT2.out rfl
          subst hv
          go_wp2
          go_ret
          exact ⟨rfl, HB0.out.trans (HB2.out.mono (by omega))⟩
        case true =>
          go_wp2
          first
            | (refine ⟨⟨j + 1, by omega, by go_num, HN2.out (by trivial), HB2.out⟩, ?_⟩; simp [intOf]; omega)
            | (go_roundw
               case rel => exact ⟨j + 1, by omega, by go_num, HN2.out (by trivial), HB2.out⟩
               case measure => simp [intOf]; omega)
      · have hje : j = L.length := by omega
        subst hje
        have hv := HEND.out (fun t ht => HV.out t ht ht)
        subst hv
        have hki : decide ((L.length : Int) < (L.length : Int)) = false := by simp
        go_wp2
        go_ret
        exact ⟨rfl, HB0.out.trans (HB.out.mono (by omega))⟩
  · have hv : V = false := by
      rw [← hV]
      refine pr_out fun hh => hall ?_
      obtain ⟨g1, g2, g3, g4, g5, g6, g7, g8, g9⟩ := hh
      refine ⟨h1.symm.trans ?_, h2.symm.trans ?_, h3.symm.trans g5, h4.symm.trans ?_, h5.symm.trans ?_⟩
      all_goals (rw [Bool.and_eq_true]; exact ⟨decide_eq_true (by omega), decide_eq_true (by omega)⟩)
    subst hv
    clear h1 h3 h5 hV HS _hok
    obtain ⟨x0, x1, x2, x3⟩ := X0.out
    rw [hw0] at x0 x1 x2 x3
    go_enter Tryz.func66, Tryz.ntmps66
    go_wp2_with fail
    rw [← hw0] at x0 x1 x2 x3 ⊢
    clear hw0
    refine (K1.out _).mono ?_
    rintro e w2 ⟨rfl, rfl⟩
    cases b1
    case false =>
      go_wp2
      go_ret
      exact ⟨rfl, HB0.out⟩
    case true =>
      by_cases hm1 : 1 ≤ vm
      · by_cases hm6 : vm ≤ 6
        · go_wp2_with fail
          refine (K3.out _).mono ?_
          rintro e w2 ⟨rfl, rfl⟩
          cases b3
          case false =>
            go_wp2
            go_ret
            exact ⟨rfl, HB0.out⟩
          case true =>
            by_cases hi0 : 0 ≤ vi
            · by_cases hi3 : vi ≤ 3
              · go_wp2_with fail
                refine (K5.out _).mono ?_
                rintro e w2 ⟨rfl, rfl⟩
                cases b5
                case false =>
                  go_wp2
                  go_ret
                  exact ⟨rfl, HB0.out⟩
                case true =>
                  exact absurd ⟨by trivial, h2.symm.trans (by simp [hm1, hm6]), by trivial, h4.symm.trans (by simp [hi0, hi3]), by trivial⟩ hall
              · have nhi3 : 3 < vi := by omega
                go_wp2
                go_ret
                exact ⟨rfl, HB0.out⟩
            · have nhi0 : vi < 0 := by omega
              go_wp2
              go_ret
              exact ⟨rfl, HB0.out⟩
        · have nhm6 : 6 < vm := by omega
          go_wp2
          go_ret
          exact ⟨rfl, HB0.out⟩
      · have nhm1 : vm < 1 := by omega
        go_wp2
        go_ret
        exact ⟨rfl, HB0.out⟩
end Go.Proofs.YthmababifgaejaaGreatDoor
