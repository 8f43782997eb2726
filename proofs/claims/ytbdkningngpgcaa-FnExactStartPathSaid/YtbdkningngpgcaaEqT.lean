/- The comparison of terms that the laws make, eqTerm and eqTermS, where both are one term. -/
import Derived.Test.YtbdkningngpgcaaRows
import Derived.Test.YtbdkningngpgcaaFo
import Derived.WalkKit
import Derived.ProofKit
import Derived.OpenShut
import Derived.Handy
import Derived.Lib.Hide
import Derived.Below
import Derived.IntWalk
import Derived.WalkLawsBesides
import Derived.Deep.QuietTactic
import Derived.BigQuiet
import Derived.OwnWalk
import Derived.Laws.OwnMore
import Derived.Deep.OwnRows
import Derived.Deep.MidRow
import Derived.WalkSmall
import Derived.StillTailTactics
import Derived.Outline
namespace Go.Proofs.Ytbdkningngpgcaa
open Go.ChangeShapes Go.WideShapes Go.ChangeAt Go.RowKit
def EqC (F : Fo) : Prop := ∀ (v1 v2 : Value) (w : World), (F.cs 87).Is w 0 5 F.len v1 → (F.cs 87).Is w 0 5 F.len v2 → F.nodes ≤ 2097152 → Calls Try.prog 74 #[v1, v2] w fun e w' => e = .returned (.bool true) ∧ Below w.heap.size w w'
set_option maxRecDepth 100000 in
set_option maxHeartbeats 1000000 in
theorem eq_one {k : Fo} (hk : EqC k) (op wd n : Int) (nm : ByteArray) (s1 s2 : Value) (w : World) (hs1 : (k.cs 87).Is w 0 5 k.len s1) (hs2 : (k.cs 87).Is w 0 5 k.len s2) (hn : k.nodes ≤ 2097152) :
    Calls Try.prog 105 #[.agg #[.int .i64 op, .int .i64 wd, .int .i64 n, .string nm, s1], .agg #[.int .i64 op, .int .i64 wd, .int .i64 n, .string nm, s2]] w fun e w' => e = .returned (.bool true) ∧ Below w.heap.size w w' := by
  have HS1 := Lib.hid hs1
  have HS2 := Lib.hid hs2
  obtain ⟨_, ⟨_, q1, cap1, rfl, _⟩, _⟩ := hs1
  obtain ⟨_, ⟨_, q2, cap2, rfl, _⟩, _⟩ := hs2
  have HC := Lib.hid (fun W' (hb : Below w.heap.size w W') => hk _ _ W' (HS1.out.below hb) (HS2.out.below hb) hn)
  clear hk HS1 HS2
  go_enter Try.func105, Try.ntmps105
  go_wp2_with (go_at_call 74; refine (HC.out _ (((Below.refl _ _).alloc (Nat.le_refl _) _).alloc (by simp) _)).mono ?_; rintro e w1 ⟨rfl, hb1⟩)
  go_ret
  exact ⟨rfl, (((Below.refl _ _).alloc (Nat.le_refl _) _).alloc (by simp) _).trans (hb1.mono (by simp; omega))⟩
set_option maxRecDepth 100000 in
set_option maxHeartbeats 1000000 in
theorem eq_loop (F : Fo) (hF : F.AllK EqC) : EqC F := by
  intro v1 v2 w hv1 hv2 hn
  have hml : maxLen = 9223372036854775807 := rfl
  have hnl := F.len_le
  rcases Fo.is_cases hv1 with ⟨h0, q1, cap1, rfl⟩ | ⟨hpos, b1, o1, cap1, ys1, rfl, _, _, _, hbl1, hvs1, hr1⟩
  · obtain ⟨_, ⟨_, q2, cap2, rfl, _⟩, _⟩ := hv2
    rw [h0]
    clear hF hnl hn h0
    go_enter Try.func74, Try.ntmps74
    go_wp2
    refine wp_loop_rounds 1 ?_
    rw [rounds_succ]
    go_wp2
    go_ret
    exact ⟨rfl, Below.refl _ _⟩
  · rcases Fo.is_cases hv2 with ⟨h0, _⟩ | ⟨_, b2, o2, cap2, ys2, rfl, _, _, _, hbl2, hvs2, hr2⟩
    · omega
    have HI1 := Lib.hid (fun j (hj : j < F.len) => Fo.nth F hvs1 hr1 j hj)
    have HI2 := Lib.hid (fun j (hj : j < F.len) => Fo.nth F hvs2 hr2 j hj)
    have HK := Lib.hid hF
    clear hF hv1 hv2 hvs1 hvs2 hr1 hr2
    go_enter Try.func74, Try.ntmps74
    go_wp2
    go_loopw [5] (fun i wr => ∃ (j : Nat), j ≤ F.len ∧ i = .int .i64 j ∧ Below w.heap.size w wr) (fun i _ => F.len - (intOf i).toNat)
    case atStart => exact ⟨0, Nat.zero_le _, rfl, Below.refl _ _⟩
    case round =>
      obtain ⟨j, hj, rfl, hb⟩ := hrel
      by_cases hjn : j < F.len
      · obtain ⟨op, wd, n, nm, k, v, hat, his1, hrr1⟩ := HI1.out j hjn
        obtain ⟨op', wd', n', nm', k', v', hat', his2, hrr2⟩ := HI2.out j hjn
        obtain ⟨rfl, rfl, rfl, rfl, rfl⟩ := Fo.at_fun F j hat hat'
        have hk := Fo.at_allK F j hat HK.out
        have hkn := (Fo.at_nodes F j hat).2
        have hrr1 := rangeAt_below hb hrr1
        have hrr2 := rangeAt_below hb hrr2
        have c0 : wr.cell? ⟨b1, o1 + j * 5, none⟩ = some (.int .i64 op) := hrr1 0 _ rfl
        have c1 : wr.cell? ⟨b1, o1 + j * 5 + 1, none⟩ = some (.int .i64 wd) := hrr1 1 _ rfl
        have c2 : wr.cell? ⟨b1, o1 + j * 5 + 2, none⟩ = some (.int .i64 n) := hrr1 2 _ rfl
        have c3 : wr.cell? ⟨b1, o1 + j * 5 + 3, none⟩ = some (.string nm) := hrr1 3 _ rfl
        have c4 : wr.cell? ⟨b1, o1 + j * 5 + 4, none⟩ = some v := hrr1 4 _ rfl
        have d0 : wr.cell? ⟨b2, o2 + j * 5, none⟩ = some (.int .i64 op) := hrr2 0 _ rfl
        have d1 : wr.cell? ⟨b2, o2 + j * 5 + 1, none⟩ = some (.int .i64 wd) := hrr2 1 _ rfl
        have d2 : wr.cell? ⟨b2, o2 + j * 5 + 2, none⟩ = some (.int .i64 n) := hrr2 2 _ rfl
        have d3 : wr.cell? ⟨b2, o2 + j * 5 + 3, none⟩ = some (.string nm) := hrr2 3 _ rfl
        have d4 : wr.cell? ⟨b2, o2 + j * 5 + 4, none⟩ = some v' := hrr2 4 _ rfl
        have SO := Lib.hid (fun W (hW : Below w.heap.size w W) => eq_one hk op wd n nm v v' W (his1.below hW) (his2.below hW) (by omega))
        have HB := Lib.hid hb
        have hki : (j : Int) < (F.len : Int) := by omega
        clear hb hrr1 hrr2 hat hat' his1 his2 hk hkn
        go_wp2
        go_still_tail 8, (by kernel_rfl)
        go_wp2_with (go_at_call 105; refine (SO.out _ HB.out.drew).mono ?_; rintro e w1 ⟨rfl, hb1⟩)
        go_roundw
        case rel => exact ⟨j + 1, by omega, by go_num, HB.out.drew.trans (hb1.mono HB.out.drew.size)⟩
        case measure => simp [intOf]; omega
      · have HB := Lib.hid hb
        have hnj : ¬ ((j : Int) < (F.len : Int)) := by omega
        clear hb
        go_wp2
        go_ret
        exact ⟨rfl, HB.out⟩
theorem eq_any : ∀ F : Fo, EqC F := Fo.every eq_loop
end Go.Proofs.Ytbdkningngpgcaa
