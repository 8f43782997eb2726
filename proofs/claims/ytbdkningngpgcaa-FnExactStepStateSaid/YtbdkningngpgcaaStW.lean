/- Why the specification's machine cannot do an instruction. No condition. -/
import Derived.Test.YtbdkningngpgcaaStO
import Derived.WalkSpells
import Derived.Deep.RegionWith
namespace Go.Proofs.Ytbdkningngpgcaa
open Go.ChangeShapes Go.WideShapes Go.ChangeAt Go.RowKit
/-- the element of a row of registers that an operand names -/
theorem reg_at {x : StR} {gr : Nat} {w : World} {a vw n : Int} (hR : x.R.length = 4) (hc : ∀ k (hk : k < x.R.length), w.cell? ⟨gr, k, none⟩ = some (.int .i64 x.R[k])) (ha : opB 1 a vw n = true) : ∃ k : Nat, a = k ∧ k < 4 ∧ w.cell? ⟨gr, k, none⟩ = some (.int .i64 (atI x.R a)) := by
  have h := reg_of ha
  obtain ⟨k, rfl⟩ : ∃ k : Nat, a = k := ⟨a.toNat, by omega⟩
  exact ⟨k, rfl, by omega, by rw [atI_nat x.R k (by omega)]; exact hc k (by omega)⟩
set_option maxRecDepth 100000 in
set_option maxHeartbeats 8000000 in
theorem s_why (vw vm vi n : Int) (qL : Option Addr) (nL cL : Nat) (x : StR) (gr rc : Nat) (mq : Option Addr) (mn mc : Nat) (sq oq : Option Addr) (sc oc : Nat) (op a b c : Int) (w : World) (hR : x.R.length = 4) (hgr : gr < w.heap.size) (hc : ∀ k (hk : k < x.R.length), w.cell? ⟨gr, k, none⟩ = some (.int .i64 x.R[k])) (hi : insB ⟨op, a, b, c⟩ vw n = true) :
    Calls Try.prog 89 #[.agg #[.int .i64 vw, .int .i64 vm, .int .i64 vi, .slice qL nL cL], .agg #[.int .i64 x.pc, .slice (some ⟨gr, 0, none⟩) 4 rc, .slice mq mn mc, .slice sq x.S.length sc, .int .i64 x.inn, .slice oq x.O.length oc, .int .i64 x.cd, .int .i64 x.st], .agg #[.int .i64 op, .int .i64 a, .int .i64 b, .int .i64 c]] w fun e w' => e = .returned (.int .i64 (whyV vm vi x ⟨op, a, b, c⟩)) ∧ Below w.heap.size w w' := by
  obtain ⟨hop, hA, hB, hC⟩ := ins_parts hi
  simp only at hop hA hB hC
  clear hi
  rcases op_cases op with rfl | rfl | rfl | rfl | rfl | rfl | rfl | rfl | rfl | rfl | rfl | rfl | rfl | rfl | hbad
  case inr.inr.inr.inr.inr.inr.inr.inr.inr.inr.inr.inr.inr.inr => omega
  · -- 1
    have HB := Lib.hid (show Below w.heap.size w (((w.alloc (.cells #[.int .i64 vw, .int .i64 vm, .int .i64 vi, .slice qL nL cL] 30)).alloc (.cells #[.int .i64 x.pc, .slice (some ⟨gr, 0, none⟩) 4 rc, .slice mq mn mc, .slice sq x.S.length sc, .int .i64 x.inn, .slice oq x.O.length oc, .int .i64 x.cd, .int .i64 x.st] 41)).alloc (.cells #[.int .i64 1, .int .i64 a, .int .i64 b, .int .i64 c] 97)) from (((Below.refl _ _).alloc (Nat.le_refl _) _).alloc (by simp) _).alloc (by simp; omega) _)
    have hv : whyV vm vi x ⟨1, a, b, c⟩ = 0 := rfl
    rw [hv]
    clear hv hA hB hC hc hR
    go_enter Try.func89, Try.ntmps89
    go_wp2
    go_ret
    first | exact ⟨rfl, HB.out⟩ | exact ⟨rfl, HB.out.drew⟩
  · -- 2
    have HB := Lib.hid (show Below w.heap.size w (((w.alloc (.cells #[.int .i64 vw, .int .i64 vm, .int .i64 vi, .slice qL nL cL] 30)).alloc (.cells #[.int .i64 x.pc, .slice (some ⟨gr, 0, none⟩) 4 rc, .slice mq mn mc, .slice sq x.S.length sc, .int .i64 x.inn, .slice oq x.O.length oc, .int .i64 x.cd, .int .i64 x.st] 41)).alloc (.cells #[.int .i64 2, .int .i64 a, .int .i64 b, .int .i64 c] 97)) from (((Below.refl _ _).alloc (Nat.le_refl _) _).alloc (by simp) _).alloc (by simp; omega) _)
    have hv : whyV vm vi x ⟨2, a, b, c⟩ = 0 := rfl
    rw [hv]
    clear hv hA hB hC hc hR
    go_enter Try.func89, Try.ntmps89
    go_wp2
    go_ret
    first | exact ⟨rfl, HB.out⟩ | exact ⟨rfl, HB.out.drew⟩
  · -- 3
    have HB := Lib.hid (show Below w.heap.size w (((w.alloc (.cells #[.int .i64 vw, .int .i64 vm, .int .i64 vi, .slice qL nL cL] 30)).alloc (.cells #[.int .i64 x.pc, .slice (some ⟨gr, 0, none⟩) 4 rc, .slice mq mn mc, .slice sq x.S.length sc, .int .i64 x.inn, .slice oq x.O.length oc, .int .i64 x.cd, .int .i64 x.st] 41)).alloc (.cells #[.int .i64 3, .int .i64 a, .int .i64 b, .int .i64 c] 97)) from (((Below.refl _ _).alloc (Nat.le_refl _) _).alloc (by simp) _).alloc (by simp; omega) _)
    have hv : whyV vm vi x ⟨3, a, b, c⟩ = if (c = 6 ∨ c = 7) ∧ atI x.R b = 0 then 6 else 0 := rfl
    rw [hv]
    clear hv
    obtain ⟨k, rfl, hk, hck⟩ := reg_at hR hc hB
    have hk4 : (k : Int) < 4 := by omega
    have hck3 := (HB.out.cell (p := ⟨gr, k, none⟩) hgr).trans hck
    clear hck
    generalize atI x.R (k : Int) = y at *
    clear hc hR hA hC
    by_cases h6 : c = 6
    · subst h6
      by_cases h : y = 0
      · rw [if_pos ⟨by simp, h⟩]
        have hq : (y == 0) = true := by simpa using h
        clear h
        go_enter Try.func89, Try.ntmps89
        go_wp2
        go_ret
        first | exact ⟨rfl, HB.out⟩ | exact ⟨rfl, HB.out.drew⟩
      · rw [if_neg (fun q => h q.2)]
        have hq : (y == 0) = false := by simpa using h
        clear h
        go_enter Try.func89, Try.ntmps89
        go_wp2
        go_ret
        first | exact ⟨rfl, HB.out⟩ | exact ⟨rfl, HB.out.drew⟩
    · have q6 : (c == 6) = false := by simpa using h6
      by_cases h7 : c = 7
      · subst h7
        by_cases h : y = 0
        · rw [if_pos ⟨by simp, h⟩]
          have hq : (y == 0) = true := by simpa using h
          clear h
          go_enter Try.func89, Try.ntmps89
          go_wp2
          go_ret
          first | exact ⟨rfl, HB.out⟩ | exact ⟨rfl, HB.out.drew⟩
        · rw [if_neg (fun q => h q.2)]
          have hq : (y == 0) = false := by simpa using h
          clear h
          go_enter Try.func89, Try.ntmps89
          go_wp2
          go_ret
          first | exact ⟨rfl, HB.out⟩ | exact ⟨rfl, HB.out.drew⟩
      · have q7 : (c == 7) = false := by simpa using h7
        rw [if_neg (fun q => q.1.elim h6 h7)]
        clear h6 h7
        go_enter Try.func89, Try.ntmps89
        go_wp2
        go_ret
        first | exact ⟨rfl, HB.out⟩ | exact ⟨rfl, HB.out.drew⟩
  · -- 4
    have HB := Lib.hid (show Below w.heap.size w (((w.alloc (.cells #[.int .i64 vw, .int .i64 vm, .int .i64 vi, .slice qL nL cL] 30)).alloc (.cells #[.int .i64 x.pc, .slice (some ⟨gr, 0, none⟩) 4 rc, .slice mq mn mc, .slice sq x.S.length sc, .int .i64 x.inn, .slice oq x.O.length oc, .int .i64 x.cd, .int .i64 x.st] 41)).alloc (.cells #[.int .i64 4, .int .i64 a, .int .i64 b, .int .i64 c] 97)) from (((Below.refl _ _).alloc (Nat.le_refl _) _).alloc (by simp) _).alloc (by simp; omega) _)
    have hv : whyV vm vi x ⟨4, a, b, c⟩ = 0 := rfl
    rw [hv]
    clear hv hA hB hC hc hR
    go_enter Try.func89, Try.ntmps89
    go_wp2
    go_ret
    first | exact ⟨rfl, HB.out⟩ | exact ⟨rfl, HB.out.drew⟩
  · -- 5
    have HB := Lib.hid (show Below w.heap.size w (((w.alloc (.cells #[.int .i64 vw, .int .i64 vm, .int .i64 vi, .slice qL nL cL] 30)).alloc (.cells #[.int .i64 x.pc, .slice (some ⟨gr, 0, none⟩) 4 rc, .slice mq mn mc, .slice sq x.S.length sc, .int .i64 x.inn, .slice oq x.O.length oc, .int .i64 x.cd, .int .i64 x.st] 41)).alloc (.cells #[.int .i64 5, .int .i64 a, .int .i64 b, .int .i64 c] 97)) from (((Below.refl _ _).alloc (Nat.le_refl _) _).alloc (by simp) _).alloc (by simp; omega) _)
    have hv : whyV vm vi x ⟨5, a, b, c⟩ = if x.inn = vi then 3 else 0 := rfl
    rw [hv]
    clear hv hA hB hC hc hR
    by_cases h : x.inn = vi
    · rw [if_pos h]
      have hq : (x.inn == vi) = true := by simpa using h
      clear h
      go_enter Try.func89, Try.ntmps89
      go_wp2
      go_ret
      first | exact ⟨rfl, HB.out⟩ | exact ⟨rfl, HB.out.drew⟩
    · rw [if_neg h]
      have hq : (x.inn == vi) = false := by simpa using h
      clear h
      go_enter Try.func89, Try.ntmps89
      go_wp2
      go_ret
      first | exact ⟨rfl, HB.out⟩ | exact ⟨rfl, HB.out.drew⟩
  · -- 6
    have HB := Lib.hid (show Below w.heap.size w (((w.alloc (.cells #[.int .i64 vw, .int .i64 vm, .int .i64 vi, .slice qL nL cL] 30)).alloc (.cells #[.int .i64 x.pc, .slice (some ⟨gr, 0, none⟩) 4 rc, .slice mq mn mc, .slice sq x.S.length sc, .int .i64 x.inn, .slice oq x.O.length oc, .int .i64 x.cd, .int .i64 x.st] 41)).alloc (.cells #[.int .i64 6, .int .i64 a, .int .i64 b, .int .i64 c] 97)) from (((Below.refl _ _).alloc (Nat.le_refl _) _).alloc (by simp) _).alloc (by simp; omega) _)
    have hv : whyV vm vi x ⟨6, a, b, c⟩ = if x.O.length = 6 then 4 else 0 := rfl
    rw [hv]
    clear hv hA hB hC hc hR
    by_cases h : x.O.length = 6
    · rw [if_pos h]
      have hq : ((x.O.length : Int) == 6) = true := by simp; omega
      clear h
      go_enter Try.func89, Try.ntmps89
      go_wp2
      go_ret
      first | exact ⟨rfl, HB.out⟩ | exact ⟨rfl, HB.out.drew⟩
    · rw [if_neg h]
      have hq : ((x.O.length : Int) == 6) = false := by simp; omega
      clear h
      go_enter Try.func89, Try.ntmps89
      go_wp2
      go_ret
      first | exact ⟨rfl, HB.out⟩ | exact ⟨rfl, HB.out.drew⟩
  · -- 7
    have HB := Lib.hid (show Below w.heap.size w (((w.alloc (.cells #[.int .i64 vw, .int .i64 vm, .int .i64 vi, .slice qL nL cL] 30)).alloc (.cells #[.int .i64 x.pc, .slice (some ⟨gr, 0, none⟩) 4 rc, .slice mq mn mc, .slice sq x.S.length sc, .int .i64 x.inn, .slice oq x.O.length oc, .int .i64 x.cd, .int .i64 x.st] 41)).alloc (.cells #[.int .i64 7, .int .i64 a, .int .i64 b, .int .i64 c] 97)) from (((Below.refl _ _).alloc (Nat.le_refl _) _).alloc (by simp) _).alloc (by simp; omega) _)
    have hv : whyV vm vi x ⟨7, a, b, c⟩ = if vm ≤ atI x.R b then 5 else 0 := rfl
    rw [hv]
    clear hv
    obtain ⟨k, rfl, hk, hck⟩ := reg_at hR hc hB
    have hk4 : (k : Int) < 4 := by omega
    have hck3 := (HB.out.cell (p := ⟨gr, k, none⟩) hgr).trans hck
    clear hck
    generalize atI x.R (k : Int) = y at *
    clear hc hR
    by_cases h : vm ≤ y
    · rw [if_pos h]
      have hq : decide (vm ≤ y) = true := decide_eq_true h
      go_enter Try.func89, Try.ntmps89
      go_wp2
      go_region
      go_wp2
      go_ret
      first | exact ⟨rfl, HB.out⟩ | exact ⟨rfl, HB.out.drew⟩
    · rw [if_neg h]
      have hq : decide (vm ≤ y) = false := decide_eq_false h
      have hq2 : y < vm := by omega
      go_enter Try.func89, Try.ntmps89
      go_wp2
      go_region
      go_wp2
      go_ret
      first | exact ⟨rfl, HB.out⟩ | exact ⟨rfl, HB.out.drew⟩
  · -- 8
    have HB := Lib.hid (show Below w.heap.size w (((w.alloc (.cells #[.int .i64 vw, .int .i64 vm, .int .i64 vi, .slice qL nL cL] 30)).alloc (.cells #[.int .i64 x.pc, .slice (some ⟨gr, 0, none⟩) 4 rc, .slice mq mn mc, .slice sq x.S.length sc, .int .i64 x.inn, .slice oq x.O.length oc, .int .i64 x.cd, .int .i64 x.st] 41)).alloc (.cells #[.int .i64 8, .int .i64 a, .int .i64 b, .int .i64 c] 97)) from (((Below.refl _ _).alloc (Nat.le_refl _) _).alloc (by simp) _).alloc (by simp; omega) _)
    have hv : whyV vm vi x ⟨8, a, b, c⟩ = if vm ≤ atI x.R a then 5 else 0 := rfl
    rw [hv]
    clear hv
    obtain ⟨k, rfl, hk, hck⟩ := reg_at hR hc hA
    have hk4 : (k : Int) < 4 := by omega
    have hck3 := (HB.out.cell (p := ⟨gr, k, none⟩) hgr).trans hck
    clear hck
    generalize atI x.R (k : Int) = y at *
    clear hc hR
    by_cases h : vm ≤ y
    · rw [if_pos h]
      have hq : decide (vm ≤ y) = true := decide_eq_true h
      go_enter Try.func89, Try.ntmps89
      go_wp2
      go_region
      go_wp2
      go_ret
      first | exact ⟨rfl, HB.out⟩ | exact ⟨rfl, HB.out.drew⟩
    · rw [if_neg h]
      have hq : decide (vm ≤ y) = false := decide_eq_false h
      have hq2 : y < vm := by omega
      go_enter Try.func89, Try.ntmps89
      go_wp2
      go_region
      go_wp2
      go_ret
      first | exact ⟨rfl, HB.out⟩ | exact ⟨rfl, HB.out.drew⟩
  · -- 9
    have HB := Lib.hid (show Below w.heap.size w (((w.alloc (.cells #[.int .i64 vw, .int .i64 vm, .int .i64 vi, .slice qL nL cL] 30)).alloc (.cells #[.int .i64 x.pc, .slice (some ⟨gr, 0, none⟩) 4 rc, .slice mq mn mc, .slice sq x.S.length sc, .int .i64 x.inn, .slice oq x.O.length oc, .int .i64 x.cd, .int .i64 x.st] 41)).alloc (.cells #[.int .i64 9, .int .i64 a, .int .i64 b, .int .i64 c] 97)) from (((Below.refl _ _).alloc (Nat.le_refl _) _).alloc (by simp) _).alloc (by simp; omega) _)
    have hv : whyV vm vi x ⟨9, a, b, c⟩ = 0 := rfl
    rw [hv]
    clear hv hA hB hC hc hR
    go_enter Try.func89, Try.ntmps89
    go_wp2
    go_ret
    first | exact ⟨rfl, HB.out⟩ | exact ⟨rfl, HB.out.drew⟩
  · -- 10
    have HB := Lib.hid (show Below w.heap.size w (((w.alloc (.cells #[.int .i64 vw, .int .i64 vm, .int .i64 vi, .slice qL nL cL] 30)).alloc (.cells #[.int .i64 x.pc, .slice (some ⟨gr, 0, none⟩) 4 rc, .slice mq mn mc, .slice sq x.S.length sc, .int .i64 x.inn, .slice oq x.O.length oc, .int .i64 x.cd, .int .i64 x.st] 41)).alloc (.cells #[.int .i64 10, .int .i64 a, .int .i64 b, .int .i64 c] 97)) from (((Below.refl _ _).alloc (Nat.le_refl _) _).alloc (by simp) _).alloc (by simp; omega) _)
    have hv : whyV vm vi x ⟨10, a, b, c⟩ = 0 := rfl
    rw [hv]
    clear hv hA hB hC hc hR
    go_enter Try.func89, Try.ntmps89
    go_wp2
    go_ret
    first | exact ⟨rfl, HB.out⟩ | exact ⟨rfl, HB.out.drew⟩
  · -- 11
    have HB := Lib.hid (show Below w.heap.size w (((w.alloc (.cells #[.int .i64 vw, .int .i64 vm, .int .i64 vi, .slice qL nL cL] 30)).alloc (.cells #[.int .i64 x.pc, .slice (some ⟨gr, 0, none⟩) 4 rc, .slice mq mn mc, .slice sq x.S.length sc, .int .i64 x.inn, .slice oq x.O.length oc, .int .i64 x.cd, .int .i64 x.st] 41)).alloc (.cells #[.int .i64 11, .int .i64 a, .int .i64 b, .int .i64 c] 97)) from (((Below.refl _ _).alloc (Nat.le_refl _) _).alloc (by simp) _).alloc (by simp; omega) _)
    have hv : whyV vm vi x ⟨11, a, b, c⟩ = if x.S.length = 3 then 7 else 0 := rfl
    rw [hv]
    clear hv hA hB hC hc hR
    by_cases h : x.S.length = 3
    · rw [if_pos h]
      have hq : ((x.S.length : Int) == 3) = true := by simp; omega
      clear h
      go_enter Try.func89, Try.ntmps89
      go_wp2
      go_ret
      first | exact ⟨rfl, HB.out⟩ | exact ⟨rfl, HB.out.drew⟩
    · rw [if_neg h]
      have hq : ((x.S.length : Int) == 3) = false := by simp; omega
      clear h
      go_enter Try.func89, Try.ntmps89
      go_wp2
      go_ret
      first | exact ⟨rfl, HB.out⟩ | exact ⟨rfl, HB.out.drew⟩
  · -- 12
    have HB := Lib.hid (show Below w.heap.size w (((w.alloc (.cells #[.int .i64 vw, .int .i64 vm, .int .i64 vi, .slice qL nL cL] 30)).alloc (.cells #[.int .i64 x.pc, .slice (some ⟨gr, 0, none⟩) 4 rc, .slice mq mn mc, .slice sq x.S.length sc, .int .i64 x.inn, .slice oq x.O.length oc, .int .i64 x.cd, .int .i64 x.st] 41)).alloc (.cells #[.int .i64 12, .int .i64 a, .int .i64 b, .int .i64 c] 97)) from (((Below.refl _ _).alloc (Nat.le_refl _) _).alloc (by simp) _).alloc (by simp; omega) _)
    have hv : whyV vm vi x ⟨12, a, b, c⟩ = if x.S.length = 0 then 7 else 0 := rfl
    rw [hv]
    clear hv hA hB hC hc hR
    by_cases h : x.S.length = 0
    · rw [if_pos h]
      have hq : ((x.S.length : Int) == 0) = true := by rw [h]; rfl
      clear h
      go_enter Try.func89, Try.ntmps89
      go_wp2
      go_ret
      first | exact ⟨rfl, HB.out⟩ | exact ⟨rfl, HB.out.drew⟩
    · rw [if_neg h]
      have hq : ((x.S.length : Int) == 0) = false := beq_eq_false_iff_ne.2 (by omega)
      clear h
      go_enter Try.func89, Try.ntmps89
      go_wp2
      go_ret
      first | exact ⟨rfl, HB.out⟩ | exact ⟨rfl, HB.out.drew⟩
  · -- 13
    have HB := Lib.hid (show Below w.heap.size w (((w.alloc (.cells #[.int .i64 vw, .int .i64 vm, .int .i64 vi, .slice qL nL cL] 30)).alloc (.cells #[.int .i64 x.pc, .slice (some ⟨gr, 0, none⟩) 4 rc, .slice mq mn mc, .slice sq x.S.length sc, .int .i64 x.inn, .slice oq x.O.length oc, .int .i64 x.cd, .int .i64 x.st] 41)).alloc (.cells #[.int .i64 13, .int .i64 a, .int .i64 b, .int .i64 c] 97)) from (((Below.refl _ _).alloc (Nat.le_refl _) _).alloc (by simp) _).alloc (by simp; omega) _)
    have hv : whyV vm vi x ⟨13, a, b, c⟩ = if atI x.R a = 0 then 8 else 0 := rfl
    rw [hv]
    clear hv
    obtain ⟨k, rfl, hk, hck⟩ := reg_at hR hc hA
    have hk4 : (k : Int) < 4 := by omega
    have hck3 := (HB.out.cell (p := ⟨gr, k, none⟩) hgr).trans hck
    clear hck
    generalize atI x.R (k : Int) = y at *
    clear hc hR
    by_cases h : y = 0
    · rw [if_pos h]
      have hq : (y == 0) = true := by simpa using h
      clear h
      go_enter Try.func89, Try.ntmps89
      go_wp2
      go_ret
      first | exact ⟨rfl, HB.out⟩ | exact ⟨rfl, HB.out.drew⟩
    · rw [if_neg h]
      have hq : (y == 0) = false := by simpa using h
      clear h
      go_enter Try.func89, Try.ntmps89
      go_wp2
      go_ret
      first | exact ⟨rfl, HB.out⟩ | exact ⟨rfl, HB.out.drew⟩
  · -- 14
    have HB := Lib.hid (show Below w.heap.size w (((w.alloc (.cells #[.int .i64 vw, .int .i64 vm, .int .i64 vi, .slice qL nL cL] 30)).alloc (.cells #[.int .i64 x.pc, .slice (some ⟨gr, 0, none⟩) 4 rc, .slice mq mn mc, .slice sq x.S.length sc, .int .i64 x.inn, .slice oq x.O.length oc, .int .i64 x.cd, .int .i64 x.st] 41)).alloc (.cells #[.int .i64 14, .int .i64 a, .int .i64 b, .int .i64 c] 97)) from (((Below.refl _ _).alloc (Nat.le_refl _) _).alloc (by simp) _).alloc (by simp; omega) _)
    have hv : whyV vm vi x ⟨14, a, b, c⟩ = 1 := rfl
    rw [hv]
    clear hv hA hB hC hc hR
    go_enter Try.func89, Try.ntmps89
    go_wp2
    go_ret
    first | exact ⟨rfl, HB.out⟩ | exact ⟨rfl, HB.out.drew⟩
end Go.Proofs.Ytbdkningngpgcaa
