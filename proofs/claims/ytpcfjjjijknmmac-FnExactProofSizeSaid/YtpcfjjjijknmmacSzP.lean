/- The budget that the laws pay for a term: szTerm and szTermS. -/
import Derived.Test.YtpcfjjjijknmmacRows
import Derived.Test.YtpcfjjjijknmmacFlat
import Derived.Test.YtpcfjjjijknmmacPf
import Derived.WalkKit
import Derived.ProofKit
import Derived.OpenShut
import Derived.Handy
import Derived.Lib.Hide
import Derived.Below
import Derived.IntWalk
import Derived.WalkLawsBesides
import Derived.Deep.QuietTactic
import Derived.BigQuiet
import Derived.OwnWalk
import Derived.Laws.OwnMore
import Derived.Deep.OwnRows
import Derived.Deep.MidRow
import Derived.WalkSmall
namespace Go.Proofs.Ytpcfjjjijknmmac
open Go.ChangeShapes Go.WideShapes Go.ChangeAt Go.RowKit
/-- the budget of a slice of nodes -/
def SzCP (F : Pf) : Prop := ∀ (v : Value) (l : Nat) (w : World), l ≤ 1048576 → (F.cs 43).Is w 0 2 F.len v → F.Ok → F.len ≤ maxLen → Calls Try.prog 55 #[v, .int .i64 l] w fun e w' => e = .returned (.int .i64 (left l F.cost)) ∧ Below w.heap.size w w'
set_option maxRecDepth 100000 in
set_option maxHeartbeats 1000000 in
theorem szp_one {k : Pf} (hk : SzCP k) (vr : Int) (s : Value) (l : Nat) (w : World) (hl : l ≤ 1048576) (hs : (k.cs 43).Is w 0 2 k.len s) (hok : Pf.OneOk vr k) :
    Calls Try.prog 22 #[.agg #[.int .i64 vr, s], .int .i64 l] w fun e w' => e = .returned (.int .i64 (left l k.cost)) ∧ Below w.heap.size w w' := by
  obtain ⟨_, hkl, hkok⟩ := hok
  have hml : maxLen = 9223372036854775807 := rfl
  have HS := Lib.hid hs
  obtain ⟨_, ⟨_, q, cap, rfl, _⟩, _⟩ := hs
  have HC := Lib.hid (fun W' (hb : Below w.heap.size w W') => hk _ l W' (by omega) (HS.out.below hb) hkok hkl)
  clear hk HS
  go_enter Try.func22, Try.ntmps22
  by_cases h2 : k.cost ≤ l
  · have he : left l k.cost = (l : Int) - k.cost := by unfold left; rw [if_pos h2]
    rw [he] at HC
    rw [he]
    have hlo2 : 0 ≤ (l : Int) - k.cost := by omega
    clear he
    go_wp2_with (go_at_call 55; refine (HC.out _ ((Below.refl _ _).alloc (Nat.le_refl _) _)).mono ?_; rintro e w1 ⟨rfl, hb1⟩)
    go_ret
    exact ⟨rfl, ((Below.refl _ _).alloc (Nat.le_refl _) _).trans (hb1.mono (by simp))⟩
  · have he : left l k.cost = -1 := by unfold left; rw [if_neg h2]
    rw [he] at HC
    rw [he]
    clear he
    go_wp2_with (go_at_call 55; refine (HC.out _ ((Below.refl _ _).alloc (Nat.le_refl _) _)).mono ?_; rintro e w1 ⟨rfl, hb1⟩)
    go_ret
    exact ⟨rfl, ((Below.refl _ _).alloc (Nat.le_refl _) _).trans (hb1.mono (by simp))⟩
set_option maxRecDepth 100000 in
set_option maxHeartbeats 1000000 in
theorem szp_loop (F : Pf) (hF : F.AllK SzCP) : SzCP F := by
  intro v l w hl hv hok hlen
  have hml : maxLen = 9223372036854775807 := rfl
  have hce := F.cost_eq
  rcases Pf.is_cases hv with ⟨h0, q, cap, rfl⟩ | ⟨hpos, b, o, cap, ys, rfl, hc1, hc2, _, hbl, hvs, hr⟩
  · have hr0 : F.rest = 0 := by cases F with | nil => rfl | cons => simp [Pf.len] at h0
    have hfin : left l F.cost = (l : Int) := by
      unfold left
      rw [if_pos (by omega)]
      omega
    rw [hfin]
    have hlo : ¬ ((l : Int) < 0) := by omega
    clear hF hfin hv hce h0 hr0 hok hlen
    go_enter Try.func55, Try.ntmps55
    go_wp2
    refine wp_loop_rounds 1 ?_
    rw [rounds_succ]
    go_wp2
    go_ret
    exact ⟨rfl, Below.refl _ _⟩
  · by_cases h1 : F.len ≤ l
    · have HI := Lib.hid (fun j (hj : j < F.len) => Pf.nth F hvs hr j hj)
      have HP := Lib.hid F.paid_all
      have HCE := Lib.hid hce
      have HK := Lib.hid hF
      have HOK := Lib.hid hok
      clear hok hF hce hv hvs hr
      have hlo : 0 ≤ (l : Int) - F.len := by omega
      go_enter Try.func55, Try.ntmps55
      go_wp2
      go_loopw [1, 5] (fun lf i wr => ∃ (j p : Nat), j ≤ F.len ∧ i = .int .i64 j ∧ p = F.paid j ∧ p + F.len ≤ l ∧ lf = .int .i64 ((l : Int) - F.len - p) ∧ Below w.heap.size w wr) (fun _ i _ => F.len - (intOf i).toNat)
      case atStart => exact ⟨0, 0, Nat.zero_le _, rfl, F.paid_zero.symm, by omega, by simp, Below.refl _ _⟩
      case round =>
        obtain ⟨j, p, hj, rfl, hp, hpl, rfl, hb⟩ := hrel
        by_cases hjn : j < F.len
        · obtain ⟨vr, k, v, hat, his, hrr⟩ := HI.out j hjn
          obtain ⟨hp1, hp2⟩ := Pf.at_paid F j hat
          have hok1 := Pf.at_ok F j hat HOK.out
          have hk := Pf.at_allK F j hat HK.out
          have hrr := rangeAt_below hb hrr
          have c0 : wr.cell? ⟨b, o + j * 2, none⟩ = some (.int .i64 vr) := hrr 0 _ rfl
          have c1 : wr.cell? ⟨b, o + j * 2 + 1, none⟩ = some v := hrr 1 _ rfl
          have SO := Lib.hid (fun W (hW : Below w.heap.size w W) => szp_one hk vr v (l - F.len - p) W (by omega) (his.below hW) hok1)
          have hcast : ((l - F.len - p : Nat) : Int) = (l : Int) - F.len - p := by omega
          rw [hcast] at SO
          have HB := Lib.hid hb
          have HP1 := Lib.hid (And.intro hp1 (And.intro hp2 hp))
          have hki : (j : Int) < (F.len : Int) := by omega
          clear hb hrr hat his hok1 hk hp1 hp2 hp hcast
          by_cases h2 : k.cost ≤ l - F.len - p
          · have he : left (l - F.len - p) (k.cost) = (l : Int) - F.len - p - (k.cost : Nat) := by unfold left; rw [if_pos h2]; omega
            rw [he] at SO
            have hnn : 0 ≤ (l : Int) - F.len - p - (k.cost : Nat) := by omega
            clear he
            go_wp2_with (go_at_call 22; refine (SO.out _ HB.out).mono ?_; rintro e w1 ⟨rfl, hb1⟩)
            go_roundw
            case rel =>
              obtain ⟨e1, e2, e3⟩ := HP1.out
              exact ⟨j + 1, p + (k.cost), by omega, by go_num, by omega, by omega, by go_num, HB.out.trans (hb1.mono HB.out.size)⟩
            case measure => simp [intOf]; omega
          · have he : left (l - F.len - p) (k.cost) = -1 := by unfold left; rw [if_neg h2]
            have hfin : left l F.cost = -1 := by
              obtain ⟨e1, e2, e3⟩ := HP1.out
              have := HCE.out
              unfold left
              rw [if_neg (by omega)]
            rw [he] at SO
            clear he
            go_wp2_with (go_at_call 22; refine (SO.out _ HB.out).mono ?_; rintro e w1 ⟨rfl, hb1⟩)
            go_ret
            rw [hfin]
            exact ⟨rfl, HB.out.trans (hb1.mono HB.out.size)⟩
        · have ej : j = F.len := by omega
          have hfin : left l F.cost = (l : Int) - F.len - p := by
            have e1 := HP.out
            have e2 := HCE.out
            unfold left
            rw [← ej, ← hp] at e1
            rw [if_pos (by omega)]
            omega
          have HB := Lib.hid hb
          have hnj : ¬ ((j : Int) < (F.len : Int)) := by omega
          clear hb hp
          go_wp2
          go_ret
          exact ⟨rfl, HB.out⟩
    · have hfin : left l F.cost = -1 := by unfold left; rw [if_neg (by omega)]
      have hlo : (l : Int) - F.len < 0 := by omega
      clear hF hce hv hvs hr hok
      go_enter Try.func55, Try.ntmps55
      go_wp2
      go_ret
      exact ⟨by first | rfl | (rw [hfin]; rfl), Below.refl _ _⟩
/-- the budget of a slice of nodes, for every such slice -/
theorem szp_any : ∀ F : Pf, SzCP F := Pf.every szp_loop
end Go.Proofs.Ytpcfjjjijknmmac
