/- The model of HoldsPath: the values that inputs give, and whether each condition stands for 1. No condition. Operands behind a text. No condition. -/
import Derived.Test.YtpojldocjaieoaaGreatDoorHmGPrM
import Derived.Test.YtpojldocjaieoaaGreatDoorHmGInM
import Derived.Test.YtpojldocjaieoaaGreatDoorHmGVlM
import Derived.Test.YtpojldocjaieoaaGreatDoorHmGWk
import Derived.Lib.Strings
import Derived.Lib.ItoaNum
namespace Go.Proofs.YtpojldocjaieoaaGreatDoor
open Go.ChangeShapes Go.WideShapes Go.ChangeAt Go.RowKit
/-- the name of an input -/
def inNm (k : Nat) : ByteArray := ⟨#[105, UInt8.ofNat (48 + k)]⟩
def inVf (vw : Int) : Nat → List Int → List ValueR
  | _, [] => []
  | k, n :: l => ⟨inNm k, vw, n⟩ :: inVf vw (k + 1) l
/-- the values that inputs give -/
def inV (vw : Int) (l : List Int) : List ValueR := inVf vw 0 l
/-- each condition stands for 1 -/
def cdB (V : List ValueR) : Fo → Bool
  | .nil => true
  | .cons op wd n nm k r => decide (evOne V op wd n nm k = some 1) && cdB V r
noncomputable def hpB (vw vm vi : Int) (L : List InsR) (x : PaR) (l : List Int) : Bool := paB vw vm vi L x && (inB vw vm vi L l && cdB (inV vw l) x.C)
theorem inVf_len (vw : Int) : ∀ (l : List Int) (k : Nat), (inVf vw k l).length = l.length
  | [], _ => rfl
  | _ :: l, k => by simp [inVf, inVf_len vw l (k + 1)]
theorem inV_len (vw : Int) (l : List Int) : (inV vw l).length = l.length := inVf_len vw l 0
theorem inVf_get (vw : Int) : ∀ (l : List Int) (k j : Nat) (h : j < l.length), (inVf vw k l)[j]? = some ⟨inNm (k + j), vw, l[j]⟩
  | [], _, _, h => absurd h (Nat.not_lt_zero _)
  | _ :: _, _, 0, _ => rfl
  | _ :: l, k, j + 1, h => by
    show (inVf vw (k + 1) l)[j]? = _
    rw [inVf_get vw l (k + 1) j (by simpa using h), show k + 1 + j = k + (j + 1) by omega]
    rfl
theorem inV_get (vw : Int) (l : List Int) (j : Nat) (h : j < l.length) : (inV vw l)[j]? = some ⟨inNm j, vw, l[j]⟩ := by
  unfold inV
  rw [inVf_get vw l 0 j h, Nat.zero_add]
theorem in_nm {k : Nat} (hk : k < 3) : nmB (inNm k) = true := by
  have : k = 0 ∨ k = 1 ∨ k = 2 := by omega
  refine nmB_true _ ⟨by rcases this with rfl | rfl | rfl <;> decide, by rcases this with rfl | rfl | rfl <;> decide, fun j hj h => ?_⟩
  have h2 : (inNm k).size = 2 := rfl
  have hj2 : j = 0 ∨ j = 1 := by omega
  rcases this with rfl | rfl | rfl <;> rcases hj2 with rfl | rfl <;> (clear h2 hk hj; revert h; decide)
theorem in_less {k : Nat} (hk : k < 2) : Op.bytesLess (inNm k).toList (inNm (k + 1)).toList = true := by
  have : k = 0 ∨ k = 1 := by omega
  rw [Lib.toList_data, Lib.toList_data]
  rcases this with rfl | rfl <;> decide
theorem in_facts {vw vm vi : Int} {L : List InsR} {l : List Int} (h : inB vw vm vi L l = true) : l.length ≤ 3 ∧ (2 ≤ vw ∧ vw ≤ 8) ∧ ∀ y ∈ l, wkB vw y = true := by
  unfold inB at h
  simp only [Bool.and_eq_true, decide_eq_true_eq] at h
  obtain ⟨hp, hl, ho⟩ := h
  obtain ⟨⟨g1, g2, _, _, _, _, g3, _⟩, _⟩ := pr_in hp
  refine ⟨by omega, ⟨g1, g2⟩, fun y hy => ?_⟩
  have := List.all_eq_true.1 ho y hy
  rw [opB_word] at this
  exact this
theorem inV_ok {vw vm vi : Int} {L : List InsR} {l : List Int} (h : inB vw vm vi L l = true) : VlOk (inV vw l) := by
  obtain ⟨hl, hw, hy⟩ := in_facts h
  refine ⟨by rw [inV_len]; omega, fun j r hr => ?_⟩
  have hj : j < l.length := by
    have := (List.getElem?_eq_some_iff.1 hr).1
    rw [inV_len] at this
    exact this
  rw [inV_get vw l j hj] at hr
  cases hr
  refine ⟨in_nm (by omega), hy _ (List.getElem_mem hj), fun i p e hp => ?_⟩
  subst e
  rw [inV_get vw l i (by omega)] at hp
  cases hp
  exact in_less (by omega)
theorem tk_ok {op wd n : Int} {nm : ByteArray} {k : Fo} (h : tkB op wd n nm k = true) : fitB op wd n nm k.ws = true ∧ k.allB = true := by
  unfold tkB at h
  rw [accOne_eq] at h
  by_cases hc : 1 + k.nodes ≤ 240 ∧ (fitB op wd n nm k.ws && k.allB) = true
  · simpa using hc.2
  · rw [if_neg hc] at h; simp at h
/-- what a term of one bit stands for is 0 or 1 -/
theorem cd_word {V : List ValueR} (hV : VlOk V) {op n y : Int} {nm : ByteArray} {k : Fo} (h : tkB op 1 n nm k = true) (hy : evOne V op 1 n nm k = some y) : y = 0 ∨ y = 1 := by
  obtain ⟨h1, h2⟩ := tk_ok h
  have hw := evs_w hV (.cons op 1 n nm k .nil) [y] (by simp [Fo.allB, h1, h2]) (by rw [evs_cons, hy]; rfl)
  obtain ⟨⟨_, _, g1, g2⟩, _⟩ := hw
  have : (2 : Int) ^ (1 : Int).toNat = 2 := rfl
  omega
theorem tm_at {F : Fo} {w : Int} (h : tmB F w = true) : ∀ (j : Nat) {op wd n : Int} {nm : ByteArray} {k : Fo}, F.At j op wd n nm k → wd = w ∧ tkB op wd n nm k = true := fun j op wd n nm k ha => by
  cases hh : (decide (wd = w) && tkB op wd n nm k)
  case true =>
    rw [Bool.and_eq_true, decide_eq_true_eq] at hh
    exact hh
  case false =>
    rw [tm_bad F j ha hh] at h
    cases h
theorem pa_tm {vw vm vi : Int} {L : List InsR} {x : PaR} (h : paB vw vm vi L x = true) : tmB x.R vw = true ∧ tmB x.M vw = true ∧ tmB x.O vw = true ∧ tmB x.C 1 = true := by
  unfold paB at h
  simp only [Bool.and_eq_true] at h
  exact h.2.2.2.2.2.2.2.2.2.2.2.2.2
theorem cd_take : ∀ (V : List ValueR) (F : Fo) (j : Nat) {op wd n : Int} {nm : ByteArray} {k : Fo}, F.At j op wd n nm k → cdB V (F.take (j + 1)) = (cdB V (F.take j) && decide (evOne V op wd n nm k = some 1))
  | _, .nil, _, _, _, _, _, _, h => h.elim
  | V, .cons _ _ _ _ _ _, 0, _, _, _, _, _, ⟨rfl, rfl, rfl, rfl, rfl⟩ => by simp [Fo.take, Fo.take_zero, cdB]
  | V, .cons _ _ _ _ _ r, j + 1, _, _, _, _, _, h => by
    simp only [Fo.take, cdB]
    rw [cd_take V r j h, ← Bool.and_assoc]
theorem cd_bad : ∀ (V : List ValueR) (F : Fo) (j : Nat) {op wd n : Int} {nm : ByteArray} {k : Fo}, F.At j op wd n nm k → evOne V op wd n nm k ≠ some 1 → cdB V F = false
  | _, .nil, _, _, _, _, _, _, h, _ => h.elim
  | V, .cons _ _ _ _ _ _, 0, _, _, _, _, _, ⟨rfl, rfl, rfl, rfl, rfl⟩, hb => by simp only [cdB, decide_eq_false hb, Bool.false_and]
  | V, .cons _ _ _ _ _ r, j + 1, _, _, _, _, _, h, hb => by
    simp only [cdB, cd_bad V r j h hb, Bool.and_false]
theorem cd_zero (V : List ValueR) (F : Fo) : cdB V (F.take 0) = true := by rw [Fo.take_zero]; rfl
/-- all words of terms: each of the first so many is 1, or not all are -/
theorem evs_all {V : List ValueR} : ∀ (F : Fo) {xs : List Int}, F.evs V = some xs → cdB V F = xs.all fun x => decide (x = 1)
  | .nil, _, h => by cases h; rfl
  | .cons op wd n nm k r, xs, h => by
    rw [evs_cons] at h
    obtain ⟨x, hx, h⟩ := Option.bind_eq_some_iff.1 h
    obtain ⟨ys, hy, rfl⟩ := Option.map_eq_some_iff.1 h
    simp only [cdB, List.all_cons, evs_all r hy, hx, Option.some.injEq]
theorem evs_none {V : List ValueR} : ∀ (F : Fo), F.evs V = none → cdB V F = false
  | .nil, h => by cases h
  | .cons op wd n nm k r, h => by
    rw [evs_cons] at h
    cases hx : evOne V op wd n nm k with
    | none => simp [cdB, hx]
    | some x =>
      rw [hx] at h
      simp only [Option.bind_some, Option.map_eq_none_iff] at h
      simp [cdB, evs_none r h]
end Go.Proofs.YtpojldocjaieoaaGreatDoor
namespace Go.Proofs.YtpojldocjaieoaaGreatDoor
open Go.ChangeShapes Go.WideShapes Go.ChangeAt Go.RowKit
def itB (n : Int) : ByteArray := ⟨(Lib.itoa n).toArray⟩
/-- an operand behind a text -/
def wrV (o : Int) (s : ByteArray) (n : Int) : ByteArray := if o = 1 then s ++ ⟨#[32, 114]⟩ ++ itB n else if o = 2 ∨ o = 3 then s ++ ⟨#[32]⟩ ++ itB n else s
end Go.Proofs.YtpojldocjaieoaaGreatDoor
