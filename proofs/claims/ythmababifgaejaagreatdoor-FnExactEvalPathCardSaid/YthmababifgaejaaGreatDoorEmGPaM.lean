/- The model of PathOk. No condition. The model of what are inputs of a program, and of what is a state of it. No condition. The model of the operations on two words. No condition. -/
import Derived.Test.YthmababifgaejaaGreatDoorEmPath
import Derived.Test.YthmababifgaejaaGreatDoorEmGTmM
import Derived.Test.YthmababifgaejaaGreatDoorEmGDat
import Derived.Test.YthmababifgaejaaGreatDoorEmGWk
import Derived.BigQuiet
import Derived.WalkSpells
namespace Go.Proofs.YthmababifgaejaaGreatDoor
open Go.ChangeShapes Go.WideShapes Go.ChangeAt Go.RowKit
def rgB (lo hi : Int) (l : List Int) : Bool := l.all fun x => decide (lo ≤ x) && decide (x ≤ hi)
theorem rg_bad {lo hi : Int} {l : List Int} {j : Nat} (h : j < l.length) (hb : (decide (lo ≤ l[j]) && decide (l[j] ≤ hi)) = false) : rgB lo hi l = false := by
  refine Bool.eq_false_iff.2 fun hh => ?_
  have := List.all_eq_true.1 hh _ (List.getElem_mem h)
  rw [hb] at this
  cases this
theorem rg_ok {lo hi : Int} {l : List Int} (h : ∀ j (hj : j < l.length), (decide (lo ≤ l[j]) && decide (l[j] ≤ hi)) = true) : rgB lo hi l = true := by
  unfold rgB
  rw [List.all_eq_true]
  intro x hx
  obtain ⟨j, hj, rfl⟩ := List.getElem_of_mem hx
  exact h j hj
noncomputable def paB (vw vm vi : Int) (L : List InsR) (x : PaR) : Bool :=
  prB vw vm vi L && ((decide (0 ≤ x.pc) && decide (x.pc ≤ L.length)) && (decide ((x.R.len : Int) = 4) && (decide ((x.M.len : Int) = vm) && (decide ((x.S.length : Int) ≤ 3) && ((decide (0 ≤ x.inn) && decide (x.inn ≤ vi)) && (decide ((x.O.len : Int) ≤ 6) &&
    ((decide (0 ≤ x.cd) && decide (x.cd ≤ 9)) && ((decide (0 ≤ x.st) && decide (x.st ≤ 400)) && (decide ((x.C.len : Int) ≤ 60) && (decide ((x.U.length : Int) ≤ 60) && (rgB 0 L.length x.S && (rgB 0 1 x.U && (tmB x.R vw && (tmB x.M vw && (tmB x.O vw && tmB x.C 1)))))))))))))))
end Go.Proofs.YthmababifgaejaaGreatDoor
namespace Go.Proofs.YthmababifgaejaaGreatDoor
open Go.ChangeShapes Go.WideShapes Go.ChangeAt Go.RowKit
/-- all are operands of one kind -/
def oprB (o w size : Int) (l : List Int) : Bool := l.all fun n => opB o n w size
theorem oprB_ok {o w size : Int} {l : List Int} (h : ∀ j (hj : j < l.length), opB o l[j] w size = true) : oprB o w size l = true := by
  unfold oprB
  rw [List.all_eq_true]
  intro r hr
  obtain ⟨j, hj, rfl⟩ := List.getElem_of_mem hr
  exact h j hj
theorem oprB_bad {o w size : Int} {l : List Int} {j : Nat} (hj : j < l.length) (h : opB o l[j] w size = false) : oprB o w size l = false := by
  refine Bool.eq_false_iff.2 fun hh => ?_
  unfold oprB at hh
  have := List.all_eq_true.1 hh _ (List.getElem_mem hj)
  rw [h] at this
  cases this
/-- the list is inputs of the program -/
def inB (vw vm vi : Int) (L : List InsR) (l : List Int) : Bool := prB vw vm vi L && (decide ((l.length : Int) = vi) && oprB 2 vw L.length l)
end Go.Proofs.YthmababifgaejaaGreatDoor
namespace Go.Proofs.YthmababifgaejaaGreatDoor
open Go.ChangeShapes Go.WideShapes Go.ChangeAt Go.RowKit
theorem high_bit (w a : Int) (h1 : 1 ≤ w) (h2 : w ≤ 16) (h3 : 0 ≤ a) (h4 : a ≤ 2 ^ w.toNat - 1) : ((a / 2 ^ (w.toNat - 1) == 0) = true ∧ (a / 2 ^ (w.toNat - 1) == 1) = false) ∨ ((a / 2 ^ (w.toNat - 1) == 0) = false ∧ (a / 2 ^ (w.toNat - 1) == 1) = true) := by
  have e : (2 : Int) ^ w.toNat = 2 * 2 ^ (w.toNat - 1) := by
    have : w.toNat = (w.toNat - 1) + 1 := by omega
    rw [this, Int.pow_succ]; simp; omega
  have hp : 0 < (2 : Int) ^ (w.toNat - 1) := Int.pow_pos (by decide)
  rw [e] at h4
  generalize (2 : Int) ^ (w.toNat - 1) = p at *
  have hd : a / p = 0 ∨ a / p = 1 := by
    have q1 : 0 ≤ a / p := Int.ediv_nonneg h3 (by omega)
    have q2 : a / p < 2 := Int.ediv_lt_of_lt_mul hp (by omega)
    omega
  rcases hd with h | h <;> rw [h] <;> simp
/-- the low bits of a number -/
def mask (w n : Int) : Int := bits .and .i64 n (2 ^ w.toNat - 1)
/-- the number that a word stands for, in two's complement -/
def sgM (w a : Int) : Int := if (a / 2 ^ (w.toNat - 1) == 1) = true then a - 2 ^ w.toNat else a
def binM (op w a b : Int) : Int :=
  if op = 3 then mask w (a + b) else if op = 4 then mask w (a - b) else if op = 5 then mask w (wrap64 (a * b))
  else if op = 6 then (if b = 0 then 2 ^ w.toNat - 1 else a / b) else if op = 7 then (if b = 0 then a else a % b)
  else if op = 8 then bits .and .i64 a b else if op = 9 then bits .or .i64 a b else if op = 10 then bits .xor .i64 a b
  else if op = 11 then (if b < w then mask w (wrap64 (a * 2 ^ b.toNat)) else 0) else if op = 12 then (if b < w then a / 2 ^ b.toNat else 0)
  else if op = 13 then mask w (sgM w a / 2 ^ (if b < w then b.toNat else w.toNat - 1))
  else if op = 14 then (if a = b then 1 else 0) else if op = 15 then (if a < b then 1 else 0) else (if sgM w a < sgM w b then 1 else 0)
section
variable (w a b : Int)
theorem sg_p (h : (a / 2 ^ (w.toNat - 1) == 1) = false) : sgM w a = a := by unfold sgM; rw [if_neg (by rw [h]; decide)]
theorem sg_m (h : (a / 2 ^ (w.toNat - 1) == 1) = true) : sgM w a = a - 2 ^ w.toNat := by unfold sgM; rw [if_pos h]
theorem bin_6z (h : b = 0) : binM 6 w a b = 2 ^ w.toNat - 1 := by show (if b = 0 then _ else _) = _; rw [if_pos h]
theorem bin_6n (h : ¬ b = 0) : binM 6 w a b = a / b := by show (if b = 0 then _ else _) = _; rw [if_neg h]
theorem bin_7z (h : b = 0) : binM 7 w a b = a := by show (if b = 0 then _ else _) = _; rw [if_pos h]
theorem bin_7n (h : ¬ b = 0) : binM 7 w a b = a % b := by show (if b = 0 then _ else _) = _; rw [if_neg h]
theorem bin_11l (h : b < w) : binM 11 w a b = mask w (wrap64 (a * 2 ^ b.toNat)) := by show (if b < w then _ else _) = _; rw [if_pos h]
theorem bin_11g (h : ¬ b < w) : binM 11 w a b = 0 := by show (if b < w then _ else _) = _; rw [if_neg h]
theorem bin_12l (h : b < w) : binM 12 w a b = a / 2 ^ b.toNat := by show (if b < w then _ else _) = _; rw [if_pos h]
theorem bin_12g (h : ¬ b < w) : binM 12 w a b = 0 := by show (if b < w then _ else _) = _; rw [if_neg h]
theorem bin_13lp (h : b < w) (k : (a / 2 ^ (w.toNat - 1) == 1) = false) : binM 13 w a b = mask w (a / 2 ^ b.toNat) := by show mask w (sgM w a / 2 ^ (if b < w then b.toNat else w.toNat - 1)) = _; rw [if_pos h, sg_p w a k]
theorem bin_13gp (h : ¬ b < w) (k : (a / 2 ^ (w.toNat - 1) == 1) = false) : binM 13 w a b = mask w (a / 2 ^ (w.toNat - 1)) := by show mask w (sgM w a / 2 ^ (if b < w then b.toNat else w.toNat - 1)) = _; rw [if_neg h, sg_p w a k]
theorem bin_13lm (h : b < w) (k : (a / 2 ^ (w.toNat - 1) == 1) = true) : binM 13 w a b = mask w ((a - 2 ^ w.toNat) / 2 ^ b.toNat) := by show mask w (sgM w a / 2 ^ (if b < w then b.toNat else w.toNat - 1)) = _; rw [if_pos h, sg_m w a k]
theorem bin_13gm (h : ¬ b < w) (k : (a / 2 ^ (w.toNat - 1) == 1) = true) : binM 13 w a b = mask w ((a - 2 ^ w.toNat) / 2 ^ (w.toNat - 1)) := by show mask w (sgM w a / 2 ^ (if b < w then b.toNat else w.toNat - 1)) = _; rw [if_neg h, sg_m w a k]
theorem bin_14e (h : a = b) : binM 14 w a b = 1 := by show (if a = b then _ else _) = _; rw [if_pos h]
theorem bin_14n (h : ¬ a = b) : binM 14 w a b = 0 := by show (if a = b then _ else _) = _; rw [if_neg h]
theorem bin_15l (h : a < b) : binM 15 w a b = 1 := by show (if a < b then _ else _) = _; rw [if_pos h]
theorem bin_15g (h : ¬ a < b) : binM 15 w a b = 0 := by show (if a < b then _ else _) = _; rw [if_neg h]
theorem bin_16 (x y : Int) (hx : sgM w a = x) (hy : sgM w b = y) : binM 16 w a b = if x < y then 1 else 0 := by show (if sgM w a < sgM w b then _ else _) = _; rw [hx, hy]
end
end Go.Proofs.YthmababifgaejaaGreatDoor
