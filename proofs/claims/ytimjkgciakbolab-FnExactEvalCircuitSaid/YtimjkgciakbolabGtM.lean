/- Circuits: what a gate among others is, what a line of a gate, and the and of two literals. No condition. -/
import Derived.Test.YtimjkgciakbolabClM
import Derived.Test.YtimjkgciakbolabFlGate
namespace Go.Proofs.Ytimjkgciakbolab
open Go.ChangeShapes Go.WideShapes Go.RowKit
/-- the variable of a literal, as the machine reckons it -/
def vo (x : Int) : Int := if x = -9223372036854775808 then x else iabs x
theorem vo_of {x : Int} (h : -9223372036854775807 ≤ x) : vo x = iabs x := by unfold vo; rw [if_neg (by omega)]
def eqG (g h : GateR) : Bool := g.f0 == h.f0 && g.f1 == h.f1
theorem eqG_iff {g h : GateR} : eqG g h = true ↔ g = h := by
  obtain ⟨a, b⟩ := g
  obtain ⟨c, d⟩ := h
  simp [eqG]
theorem eqG_no {g h : GateR} : eqG g h = false ↔ g ≠ h := by
  rw [Ne, ← eqG_iff]; simp
def hasG (g : GateR) (L : List GateR) : Bool := L.any (eqG g)
def posG (g : GateR) : List GateR → Nat
  | [] => 0
  | h :: L => if eqG g h then 0 else posG g L + 1
/-- the line of a gate, 0 if it is not there -/
def lineG (I : Int) (L : List GateR) (g : GateR) : Int := if hasG g L then I + 2 + posG g L else 0
theorem posG_lt {g : GateR} : ∀ {L : List GateR}, hasG g L = true → posG g L < L.length
  | [], h => by cases h
  | x :: L, h => by
    unfold posG
    by_cases e : eqG g x = true
    · rw [if_pos e]; simp
    · rw [if_neg e, List.length_cons]
      have : hasG g L = true := by
        unfold hasG at *
        rw [List.any_cons] at h
        simpa [e] using h
      have := posG_lt this
      omega
theorem hasG_snoc (h g : GateR) (L : List GateR) : hasG h (L ++ [g]) = (hasG h L || eqG h g) := by
  unfold hasG; simp
theorem posG_snoc (h g : GateR) : ∀ (L : List GateR), posG h (L ++ [g]) = if hasG h L = true then posG h L else if eqG h g = true then L.length else L.length + 1
  | [] => by simp [posG, hasG]
  | x :: L => by
    have ih := posG_snoc h g L
    rw [List.cons_append]
    unfold posG
    by_cases e : eqG h x = true
    · rw [if_pos e, if_pos (by unfold hasG; rw [List.any_cons, e]; rfl), if_pos e]
    · have e2 : hasG h (x :: L) = hasG h L := by unfold hasG; rw [List.any_cons]; simp [e]
      rw [if_neg e, ih, e2, if_neg e, List.length_cons]
      split
      · rfl
      · split <;> rfl
theorem lineG_snoc (I : Int) (L : List GateR) (g h : GateR) (hn : hasG g L = false) : lineG I (L ++ [g]) h = if eqG h g = true then I + 2 + L.length else lineG I L h := by
  unfold lineG
  rw [hasG_snoc, posG_snoc]
  by_cases e : eqG h g = true
  · obtain rfl := eqG_iff.1 e
    simp [hn, e]
  · simp only [Bool.not_eq_true] at e
    simp only [e, Bool.or_false, Bool.false_eq_true, if_false]
    split <;> rfl
theorem lineG_zero {I : Int} {L : List GateR} {g : GateR} (hI : 0 ≤ I) : lineG I L g = 0 ↔ hasG g L = false := by
  unfold lineG
  cases h : hasG g L with
  | true => simp; omega
  | false => simp
theorem lineG_le {I : Int} {L : List GateR} (hI : 0 ≤ I) (g : GateR) : 0 ≤ lineG I L g ∧ lineG I L g ≤ 1 + I + L.length := by
  unfold lineG
  cases h : hasG g L with
  | true => have := posG_lt h; simp; omega
  | false => simp; omega
/-- whether a gate can come behind others -/
def gtB (I : Int) (D : List GateR) (g : GateR) : Bool := (decide (1 < vo g.f0) && (decide (vo g.f0 < vo g.f1) && decide (vo g.f1 ≤ 1 + I + D.length))) && !hasG g D
def gtsB (I : Int) : List GateR → List GateR → Bool
  | _, [] => true
  | D, g :: R => gtB I D g && gtsB I (D ++ [g]) R
/-- whether a circuit is one -/
def ccB (I : Int) (L : List GateR) : Bool := (decide (0 ≤ I) && (decide (I ≤ 30) && decide (L.length ≤ 360))) && gtsB I [] L
theorem gts_at (I : Int) (L : List GateR) (j : Nat) (h : j < L.length) : gtsB I (L.take j) (L.drop j) = (gtB I (L.take j) L[j] && gtsB I (L.take (j + 1)) (L.drop (j + 1))) := by
  rw [List.drop_eq_getElem_cons h, List.take_succ_eq_append_getElem h]
  rfl
theorem gts_end (I : Int) (L D : List GateR) (j : Nat) (h : L.length ≤ j) : gtsB I D (L.drop j) = true := by
  rw [List.drop_eq_nil_of_le h]; rfl
theorem cc_out {I : Int} {L : List GateR} (h : I < 0 ∨ 30 < I ∨ 360 < L.length) : ccB I L = false := by
  unfold ccB
  rcases h with h | h | h
  · have : decide (0 ≤ I) = false := by simp; omega
    simp [this]
  · have : decide (I ≤ 30) = false := by simp; omega
    simp [this]
  · have : decide (L.length ≤ 360) = false := by simp; omega
    simp [this]
theorem cc_in {I : Int} {L : List GateR} (h0 : 0 ≤ I) (h1 : I ≤ 30) (h2 : L.length ≤ 360) : ccB I L = gtsB I [] L := by
  unfold ccB; simp [h0, h1, h2]
theorem cc_of {I : Int} {L : List GateR} (h : ccB I L = true) : 0 ≤ I ∧ I ≤ 30 ∧ L.length ≤ 360 ∧ gtsB I [] L = true := by
  unfold ccB at h
  simp only [Bool.and_eq_true, decide_eq_true_eq] at h
  exact ⟨h.1.1, h.1.2.1, h.1.2.2, h.2⟩
theorem gt_no {I : Int} {D : List GateR} {g : GateR} (h : ¬ 1 < vo g.f0 ∨ ¬ vo g.f0 < vo g.f1 ∨ ¬ vo g.f1 ≤ 1 + I + D.length ∨ hasG g D = true) : gtB I D g = false := by
  unfold gtB
  rcases h with h | h | h | h
  · simp [h]
  · simp [h]
  · simp [h]
  · simp [h]
theorem gt_yes {I : Int} {D : List GateR} {g : GateR} (h1 : 1 < vo g.f0) (h2 : vo g.f0 < vo g.f1) (h3 : vo g.f1 ≤ 1 + I + D.length) (h4 : hasG g D = false) : gtB I D g = true := by
  unfold gtB; simp [h1, h2, h3, h4]
theorem gt_of {I : Int} {D : List GateR} {g : GateR} (h : gtB I D g = true) : 1 < vo g.f0 ∧ vo g.f0 < vo g.f1 ∧ vo g.f1 ≤ 1 + I + D.length ∧ hasG g D = false := by
  unfold gtB at h
  simp only [Bool.and_eq_true, decide_eq_true_eq, Bool.not_eq_true'] at h
  exact ⟨h.1.1, h.1.2.1, h.1.2.2, h.2⟩
theorem gt_eq {I : Int} {D : List GateR} {a d M : Int} (hM : M = I + 1 + D.length) (h0 : 0 ≤ I) (h1 : I ≤ 30) (h2 : D.length ≤ 4000) (ha : -9223372036854775808 ≤ a) (hd : -9223372036854775808 ≤ d) :
    gtB I D ⟨a, d⟩ = ((decide (iabs a ≤ M) && (decide (iabs d ≤ M) && (decide (2 ≤ iabs a) && decide (iabs a < iabs d)))) && !hasG ⟨a, d⟩ D) := by
  unfold gtB
  congr 1
  subst hM
  rw [Bool.eq_iff_iff]
  simp only [Bool.and_eq_true, decide_eq_true_eq]
  unfold vo iabs
  split <;> split <;> split <;> split <;> omega
theorem gs_no {I : Int} {D : List GateR} {a d M : Int} (hM : M = I + 1 + D.length) (h0 : 0 ≤ I) (h1 : I ≤ 30) (h2 : D.length ≤ 4000) (ha : -9223372036854775808 ≤ a) (hd : -9223372036854775808 ≤ d)
    (h : ¬ iabs a ≤ M ∨ ¬ iabs d ≤ M ∨ ¬ 2 ≤ iabs a ∨ ¬ iabs a < iabs d ∨ hasG ⟨a, d⟩ D = true) : gtB I D ⟨a, d⟩ = false := by
  rw [gt_eq hM h0 h1 h2 ha hd]
  rcases h with h | h | h | h | h <;> simp [h]
theorem gs_yes {I : Int} {D : List GateR} {a d M : Int} (hM : M = I + 1 + D.length) (h0 : 0 ≤ I) (h1 : I ≤ 30) (h2 : D.length ≤ 4000) (ha : -9223372036854775808 ≤ a) (hd : -9223372036854775808 ≤ d)
    (g1 : iabs a ≤ M) (g2 : iabs d ≤ M) (g3 : 2 ≤ iabs a) (g4 : iabs a < iabs d) (g5 : hasG ⟨a, d⟩ D = false) : gtB I D ⟨a, d⟩ = true := by
  rw [gt_eq hM h0 h1 h2 ha hd]
  simp [g1, g2, g3, g4, g5]
/-- a circuit that grows -/
structure Net where
  gs : List GateR
  full : Bool
/-- the line of a gate, which is made if it is not there -/
def putN (I : Int) (N : Net) (g : GateR) : Net × Int :=
  if hasG g N.gs = true then (N, lineG I N.gs g)
  else if 360 ≤ N.gs.length then (⟨N.gs, true⟩, -1)
  else (⟨N.gs ++ [g], N.full⟩, I + 2 + N.gs.length)
/-- the and of two literals -/
def andN (I : Int) (N : Net) (x y : Int) : Net × Int :=
  if x = -1 ∨ y = -1 ∨ x = -y then (N, -1)
  else if x = 1 then (N, y)
  else if y = 1 ∨ x = y then (N, x)
  else if iabs y < iabs x then putN I N ⟨y, x⟩ else putN I N ⟨x, y⟩
def orN (I : Int) (N : Net) (x y : Int) : Net × Int := ((andN I N (-x) (-y)).1, -(andN I N (-x) (-y)).2)
def xorN (I : Int) (N : Net) (x y : Int) : Net × Int := orN I (andN I (andN I N x (-y)).1 (-x) y).1 (andN I N x (-y)).2 (andN I (andN I N x (-y)).1 (-x) y).2
def ifN (I : Int) (N : Net) (s x y : Int) : Net × Int := orN I (andN I (andN I N s x).1 (-s) y).1 (andN I N s x).2 (andN I (andN I N s x).1 (-s) y).2
/-- a net that can be built on -/
def Net.Ok (I : Int) (N : Net) : Prop := 0 ≤ I ∧ I ≤ 30 ∧ N.gs.length ≤ 360 ∧ ∀ g ∈ N.gs, g.Ok
/-- a literal of it -/
def LitN (I : Int) (N : Net) (x : Int) : Prop := x ≠ 0 ∧ -(1 + I + N.gs.length) ≤ x ∧ x ≤ 1 + I + N.gs.length
theorem LitN.neg {I : Int} {N : Net} {x : Int} (h : LitN I N x) : LitN I N (-x) := by obtain ⟨h1, h2, h3⟩ := h; exact ⟨by omega, by omega, by omega⟩
theorem LitN.mono {I : Int} {N N' : Net} {x : Int} (h : LitN I N x) (hl : N.gs.length ≤ N'.gs.length) : LitN I N' x := by obtain ⟨h1, h2, h3⟩ := h; exact ⟨h1, by omega, by omega⟩
theorem LitN.small {I : Int} {N : Net} {x : Int} (h : LitN I N x) (ho : N.Ok I) : -391 ≤ x ∧ x ≤ 391 := by obtain ⟨h1, h2, h3⟩ := h; obtain ⟨g1, g2, g3, _⟩ := ho; omega
theorem put_ok {I : Int} {N : Net} {g : GateR} (ho : N.Ok I) (hg : g.Ok) : (putN I N g).1.Ok I ∧ LitN I (putN I N g).1 (putN I N g).2 ∧ N.gs.length ≤ (putN I N g).1.gs.length := by
  obtain ⟨h1, h2, h3, h4⟩ := ho
  unfold putN
  split
  · rename_i h
    refine ⟨⟨h1, h2, h3, h4⟩, ?_, Nat.le_refl _⟩
    have hp := posG_lt h
    have hl := lineG_le (L := N.gs) h1 g
    refine ⟨fun e => ?_, by show -(1 + I + (N.gs.length : Int)) ≤ lineG I N.gs g; omega, hl.2⟩
    rw [show (N, lineG I N.gs g).2 = lineG I N.gs g from rfl, lineG_zero h1, h] at e
    cases e
  · split
    · exact ⟨⟨h1, h2, h3, h4⟩, ⟨by show (-1 : Int) ≠ 0; omega, by show -(1 + I + (N.gs.length : Int)) ≤ -1; omega, by show (-1 : Int) ≤ 1 + I + (N.gs.length : Int); omega⟩, Nat.le_refl _⟩
    · refine ⟨⟨h1, h2, ?_, ?_⟩, ?_, ?_⟩
      · simp only [List.length_append, List.length_singleton]; omega
      · intro x hx
        rcases List.mem_append.1 hx with hx | hx
        · exact h4 x hx
        · rw [List.mem_singleton.1 hx]; exact hg
      · unfold LitN
        simp only [List.length_append, List.length_singleton]
        omega
      · simp
theorem and_ok {I : Int} {N : Net} {x y : Int} (ho : N.Ok I) (hx : LitN I N x) (hy : LitN I N y) : (andN I N x y).1.Ok I ∧ LitN I (andN I N x y).1 (andN I N x y).2 ∧ N.gs.length ≤ (andN I N x y).1.gs.length := by
  have sx := hx.small ho
  have sy := hy.small ho
  unfold andN
  split
  · exact ⟨ho, ⟨by show (-1 : Int) ≠ 0; omega, by obtain ⟨g1, _⟩ := ho; show -(1 + I + (N.gs.length : Int)) ≤ -1; omega, by obtain ⟨g1, _⟩ := ho; show (-1 : Int) ≤ 1 + I + (N.gs.length : Int); omega⟩, Nat.le_refl _⟩
  · split
    · exact ⟨ho, hy, Nat.le_refl _⟩
    · split
      · exact ⟨ho, hx, Nat.le_refl _⟩
      · split
        · exact put_ok ho ⟨⟨by show -9223372036854775808 ≤ y; omega, by show y ≤ 9223372036854775807; omega⟩, ⟨by show -9223372036854775808 ≤ x; omega, by show x ≤ 9223372036854775807; omega⟩⟩
        · exact put_ok ho ⟨⟨by show -9223372036854775808 ≤ x; omega, by show x ≤ 9223372036854775807; omega⟩, ⟨by show -9223372036854775808 ≤ y; omega, by show y ≤ 9223372036854775807; omega⟩⟩
theorem or_ok {I : Int} {N : Net} {x y : Int} (ho : N.Ok I) (hx : LitN I N x) (hy : LitN I N y) : (orN I N x y).1.Ok I ∧ LitN I (orN I N x y).1 (orN I N x y).2 ∧ N.gs.length ≤ (orN I N x y).1.gs.length := by
  obtain ⟨h1, h2, h3⟩ := and_ok ho hx.neg hy.neg
  exact ⟨h1, h2.neg, h3⟩
theorem xor_ok {I : Int} {N : Net} {x y : Int} (ho : N.Ok I) (hx : LitN I N x) (hy : LitN I N y) : (xorN I N x y).1.Ok I ∧ LitN I (xorN I N x y).1 (xorN I N x y).2 ∧ N.gs.length ≤ (xorN I N x y).1.gs.length := by
  obtain ⟨a1, a2, a3⟩ := and_ok ho hx hy.neg
  obtain ⟨b1, b2, b3⟩ := and_ok a1 (hx.mono a3).neg (hy.mono a3)
  obtain ⟨c1, c2, c3⟩ := or_ok b1 (a2.mono b3) b2
  exact ⟨c1, c2, Nat.le_trans a3 (Nat.le_trans b3 c3)⟩
theorem if_ok {I : Int} {N : Net} {s x y : Int} (ho : N.Ok I) (hs : LitN I N s) (hx : LitN I N x) (hy : LitN I N y) : (ifN I N s x y).1.Ok I ∧ LitN I (ifN I N s x y).1 (ifN I N s x y).2 ∧ N.gs.length ≤ (ifN I N s x y).1.gs.length := by
  obtain ⟨a1, a2, a3⟩ := and_ok ho hs hx
  obtain ⟨b1, b2, b3⟩ := and_ok a1 (hs.mono a3).neg (hy.mono a3)
  obtain ⟨c1, c2, c3⟩ := or_ok b1 (a2.mono b3) b2
  exact ⟨c1, c2, Nat.le_trans a3 (Nat.le_trans b3 c3)⟩
end Go.Proofs.Ytimjkgciakbolab
