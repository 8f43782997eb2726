/- The model of NewState. No condition. What unary operations, joined, cut and wider words are. No condition. -/
import Derived.Test.YtnhagmjknfiphaaCmGStR
import Derived.Test.YtnhagmjknfiphaaCmGWk
namespace Go.Proofs.Ytnhagmjknfiphaa
open Go.ChangeShapes Go.WideShapes Go.ChangeAt Go.RowKit
def zeroSt : StR := ⟨0, [], [], [], 0, [], 0, 0⟩
/-- the first state of a program -/
def newSt (vm : Int) : StR := ⟨0, List.replicate 4 0, List.replicate vm.toNat 0, [], 0, [], 0, 0⟩
def nsV (vw vm vi : Int) (L : List InsR) : StR := if prB vw vm vi L = true then newSt vm else zeroSt
theorem ns_cost (vw vm vi : Int) (L : List InsR) : (nsV vw vm vi L).cost ≤ 10 := by
  unfold nsV
  split
  · rename_i h
    obtain ⟨⟨-, -, h1, h2, -⟩, -⟩ := pr_in h
    simp [newSt, StR.cost]
    omega
  · simp [zeroSt, StR.cost]
/-- what a function leaves that gives a state -/
def StEnd (x : StR) (w : World) (e : Ending) (w' : World) : Prop := Below w.heap.size w w' ∧ ∃ rq rc mq mc sq sc oq oc, e = .returned (.agg #[.int .i64 x.pc, .slice rq x.R.length rc, .slice mq x.M.length mc, .slice sq x.S.length sc, .int .i64 x.inn, .slice oq x.O.length oc, .int .i64 x.cd, .int .i64 x.st]) ∧ StO w' w.heap.size x (.slice rq x.R.length rc) (.slice mq x.M.length mc) (.slice sq x.S.length sc) (.slice oq x.O.length oc)
theorem two_rows (W1 : World) (A B : List Int) (base : Nat) (hb : base ≤ W1.heap.size) (hA : A.length ≤ maxLen) (hB : B.length ≤ maxLen) :
    (((W1.alloc (.cells (IntL.all A).toArray 3)).alloc (.cells (IntL.all B).toArray 3)).drew).ownsRow base 3 1 (.slice (some ⟨W1.heap.size, 0, none⟩) A.length A.length) A.length (IntL.all A) ∧ (((W1.alloc (.cells (IntL.all A).toArray 3)).alloc (.cells (IntL.all B).toArray 3)).drew).ownsRow base 3 1 (.slice (some ⟨W1.heap.size + 1, 0, none⟩) B.length B.length) B.length (IntL.all B) := by
  have h1 := World.ownsRow_lit (base := base) (e := 3) (size := 1) W1 (IntL.all A).toArray A.length hb hA (by simp [IntL.all_len])
  have h2 := World.ownsRow_lit (base := base) (e := 3) (size := 1) (W1.alloc (.cells (IntL.all A).toArray 3)) (IntL.all B).toArray B.length (by simp; omega) hB (by simp [IntL.all_len])
  rw [show (W1.alloc (.cells (IntL.all A).toArray 3)).heap.size = W1.heap.size + 1 by simp] at h2
  exact ⟨own_same (h1.alloc _) (fun _ _ => rfl), own_same h2 (fun _ _ => rfl)⟩
theorem st_new (vm : Int) (k : Nat) (hk : vm.toNat = k) (w W : World) (g1 g2 : Nat) (hne : g1 ≠ g2) (hb : Below w.heap.size w W) (h1 : W.ownsRow w.heap.size 3 1 (.slice (some ⟨g1, 0, none⟩) 4 4) 4 (IntL.all [0, 0, 0, 0])) (h2 : W.ownsRow w.heap.size 3 1 (.slice (some ⟨g2, 0, none⟩) k k) k (IntL.all (List.replicate k 0))) :
    StEnd (newSt vm) w (.returned (.agg #[.int .i64 0, .slice (some ⟨g1, 0, none⟩) 4 4, .slice (some ⟨g2, 0, none⟩) k k, .slice none 0 0, .int .i64 0, .slice none 0 0, .int .i64 0, .int .i64 0])) W := by
  subst hk
  have hl : (List.replicate vm.toNat (0 : Int)).length = vm.toNat := List.length_replicate
  refine ⟨hb, some ⟨g1, 0, none⟩, 4, some ⟨g2, 0, none⟩, vm.toNat, none, 0, none, 0, ?_, h1, ?_, World.ownsRow_nil _ _ _ _, World.ownsRow_nil _ _ _ _, ?_⟩
  · simp [newSt]
  · show W.ownsRow w.heap.size 3 1 (.slice (some ⟨g2, 0, none⟩) (List.replicate vm.toNat (0 : Int)).length vm.toNat) (List.replicate vm.toNat (0 : Int)).length (IntL.all (List.replicate vm.toNat 0))
    rw [hl]
    exact h2
  · simp [Value.ownBlock]
    omega
theorem own_of {W : World} {base g g' n : Nat} {xs : List Value} (h : W.ownsRow base 3 1 (.slice (some ⟨g, 0, none⟩) n n) n xs) (hg : g = g') : W.ownsRow base 3 1 (.slice (some ⟨g', 0, none⟩) n n) n xs := by
  subst hg
  exact h
theorem st_zero {w w' : World} (hb : Below w.heap.size w w') : StEnd zeroSt w (.returned (.agg #[.int .i64 0, .slice none 0 0, .slice none 0 0, .slice none 0 0, .int .i64 0, .slice none 0 0, .int .i64 0, .int .i64 0])) w' :=
  ⟨hb, none, 0, none, 0, none, 0, none, 0, rfl, World.ownsRow_nil _ _ _ _, World.ownsRow_nil _ _ _ _, World.ownsRow_nil _ _ _ _, World.ownsRow_nil _ _ _ _, by simp [Value.ownBlock]⟩
end Go.Proofs.Ytnhagmjknfiphaa
namespace Go.Proofs.Ytnhagmjknfiphaa
open Go.ChangeShapes Go.WideShapes Go.ChangeAt Go.RowKit
theorem pow_add_toNat (w v : Int) (h1 : 1 ≤ w) (g1 : 1 ≤ v) : (2 : Int) ^ (w + v).toNat = 2 ^ w.toNat * 2 ^ v.toNat := by
  have : (w + v).toNat = w.toNat + v.toNat := by omega
  rw [this, Int.pow_add]
theorem join_lt (w a v b : Int) (h1 : 1 ≤ w) (h3 : 0 ≤ a) (h4 : a ≤ 2 ^ w.toNat - 1) (g1 : 1 ≤ v) (_k3 : 0 ≤ b) (k4 : b ≤ 2 ^ v.toNat - 1) (g3 : w + v ≤ 16) : 0 ≤ a * 2 ^ v.toNat ∧ a * 2 ^ v.toNat + b ≤ 2 ^ (w + v).toNat - 1 ∧ (2 : Int) ^ (w + v).toNat ≤ 65536 := by
  have hp := (pw (w + v) (by omega) g3).2
  have e := pow_add_toNat w v h1 g1
  have hv : 0 < (2 : Int) ^ v.toNat := Int.pow_pos (by decide)
  have h5 : 0 ≤ a * 2 ^ v.toNat := Int.mul_nonneg h3 (by omega)
  have h6 : a * 2 ^ v.toNat ≤ (2 ^ w.toNat - 1) * 2 ^ v.toNat := Int.mul_le_mul_of_nonneg_right h4 (by omega)
  rw [Int.sub_mul, Int.one_mul] at h6
  rw [e] at hp ⊢
  generalize (2 : Int) ^ w.toNat * 2 ^ v.toNat = p at *
  omega
def unM (op w a : Int) : Int := if op = 1 then 2 ^ w.toNat - 1 - a else mask w (-a)
def joinM (a v b : Int) : Int := a * 2 ^ v.toNat + b
def cutM (a l n : Int) : Int := mask n (a / 2 ^ l.toNat)
def widenM (w a n : Int) (s : Bool) : Int := if s = true then mask n (sgM w a) else a
end Go.Proofs.Ytnhagmjknfiphaa
