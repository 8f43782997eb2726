/- The comparison of terms that the laws make, eqTerm and eqTermS, where both are one term. -/
import Derived.Test.YtpcfjjjijknmmacRows
import Derived.Test.YtpcfjjjijknmmacPf
import Derived.WalkKit
import Derived.ProofKit
import Derived.OpenShut
import Derived.Handy
import Derived.Lib.Hide
import Derived.Below
import Derived.IntWalk
import Derived.WalkLawsBesides
import Derived.Deep.QuietTactic
import Derived.BigQuiet
import Derived.OwnWalk
import Derived.Laws.OwnMore
import Derived.Deep.OwnRows
import Derived.Deep.MidRow
import Derived.WalkSmall
import Derived.StillTailTactics
import Derived.Outline
namespace Go.Proofs.Ytpcfjjjijknmmac
open Go.ChangeShapes Go.WideShapes Go.ChangeAt Go.RowKit
def EqCP (F : Pf) : Prop := ∀ (v1 v2 : Value) (w : World), (F.cs 33).Is w 0 2 F.len v1 → (F.cs 33).Is w 0 2 F.len v2 → F.nodes ≤ 2097152 → Calls Try.prog 51 #[v1, v2] w fun e w' => e = .returned (.bool true) ∧ Below w.heap.size w w'
set_option maxRecDepth 100000 in
set_option maxHeartbeats 1000000 in
theorem eqp_one {k : Pf} (hk : EqCP k) (vr : Int) (s1 s2 : Value) (w : World) (hs1 : (k.cs 33).Is w 0 2 k.len s1) (hs2 : (k.cs 33).Is w 0 2 k.len s2) (hn : k.nodes ≤ 2097152) :
    Calls Try.prog 18 #[.agg #[.int .i64 vr, s1], .agg #[.int .i64 vr, s2]] w fun e w' => e = .returned (.bool true) ∧ Below w.heap.size w w' := by
  have HS1 := Lib.hid hs1
  have HS2 := Lib.hid hs2
  obtain ⟨_, ⟨_, q1, cap1, rfl, _⟩, _⟩ := hs1
  obtain ⟨_, ⟨_, q2, cap2, rfl, _⟩, _⟩ := hs2
  have HC := Lib.hid (fun W' (hb : Below w.heap.size w W') => hk _ _ W' (HS1.out.below hb) (HS2.out.below hb) hn)
  clear hk HS1 HS2
  go_enter Try.func18, Try.ntmps18
  go_wp2_with (go_at_call 51; refine (HC.out _ (((Below.refl _ _).alloc (Nat.le_refl _) _).alloc (by simp) _)).mono ?_; rintro e w1 ⟨rfl, hb1⟩)
  go_ret
  exact ⟨rfl, (((Below.refl _ _).alloc (Nat.le_refl _) _).alloc (by simp) _).trans (hb1.mono (by simp; omega))⟩
set_option maxRecDepth 100000 in
set_option maxHeartbeats 1000000 in
theorem eqp_loop (F : Pf) (hF : F.AllK EqCP) : EqCP F := by
  intro v1 v2 w hv1 hv2 hn
  have hml : maxLen = 9223372036854775807 := rfl
  have hnl := F.len_le
  rcases Pf.is_cases hv1 with ⟨h0, q1, cap1, rfl⟩ | ⟨hpos, b1, o1, cap1, ys1, rfl, _, _, _, hbl1, hvs1, hr1⟩
  · obtain ⟨_, ⟨_, q2, cap2, rfl, _⟩, _⟩ := hv2
    rw [h0]
    clear hF hnl hn h0
    go_enter Try.func51, Try.ntmps51
    go_wp2
    refine wp_loop_rounds 1 ?_
    rw [rounds_succ]
    go_wp2
    go_ret
    exact ⟨rfl, Below.refl _ _⟩
  · rcases Pf.is_cases hv2 with ⟨h0, _⟩ | ⟨_, b2, o2, cap2, ys2, rfl, _, _, _, hbl2, hvs2, hr2⟩
    · omega
    have HI1 := Lib.hid (fun j (hj : j < F.len) => Pf.nth F hvs1 hr1 j hj)
    have HI2 := Lib.hid (fun j (hj : j < F.len) => Pf.nth F hvs2 hr2 j hj)
    have HK := Lib.hid hF
    clear hF hv1 hv2 hvs1 hvs2 hr1 hr2
    go_enter Try.func51, Try.ntmps51
    go_wp2
    go_loopw [5] (fun i wr => ∃ (j : Nat), j ≤ F.len ∧ i = .int .i64 j ∧ Below w.heap.size w wr) (fun i _ => F.len - (intOf i).toNat)
    case atStart => exact ⟨0, Nat.zero_le _, rfl, Below.refl _ _⟩
    case round =>
      obtain ⟨j, hj, rfl, hb⟩ := hrel
      by_cases hjn : j < F.len
      · obtain ⟨vr, k, v, hat, his1, hrr1⟩ := HI1.out j hjn
        obtain ⟨vr', k', v', hat', his2, hrr2⟩ := HI2.out j hjn
        obtain ⟨rfl, rfl, rfl, rfl, rfl⟩ := Pf.at_fun F j hat hat'
        have hk := Pf.at_allK F j hat HK.out
        have hkn := (Pf.at_nodes F j hat).2
        have hrr1 := rangeAt_below hb hrr1
        have hrr2 := rangeAt_below hb hrr2
        have c0 : wr.cell? ⟨b1, o1 + j * 2, none⟩ = some (.int .i64 vr) := hrr1 0 _ rfl
        have c1 : wr.cell? ⟨b1, o1 + j * 2 + 1, none⟩ = some v := hrr1 1 _ rfl
        have d0 : wr.cell? ⟨b2, o2 + j * 2, none⟩ = some (.int .i64 vr) := hrr2 0 _ rfl
        have d1 : wr.cell? ⟨b2, o2 + j * 2 + 1, none⟩ = some v' := hrr2 1 _ rfl
        have SO := Lib.hid (fun W (hW : Below w.heap.size w W) => eqp_one hk vr v v' W (his1.below hW) (his2.below hW) (by omega))
        have HB := Lib.hid hb
        have hki : (j : Int) < (F.len : Int) := by omega
        clear hb hrr1 hrr2 hat hat' his1 his2 hk hkn
        go_wp2
        go_still_tail 8, (by kernel_rfl)
        go_wp2_with (go_at_call 18; refine (SO.out _ HB.out.drew).mono ?_; rintro e w1 ⟨rfl, hb1⟩)
        go_roundw
        case rel => exact ⟨j + 1, by omega, by go_num, HB.out.drew.trans (hb1.mono HB.out.drew.size)⟩
        case measure => simp [intOf]; omega
      · have HB := Lib.hid hb
        have hnj : ¬ ((j : Int) < (F.len : Int)) := by omega
        clear hb
        go_wp2
        go_ret
        exact ⟨rfl, HB.out⟩
theorem eqp_any : ∀ F : Pf, EqCP F := Pf.every eqp_loop
end Go.Proofs.Ytpcfjjjijknmmac
