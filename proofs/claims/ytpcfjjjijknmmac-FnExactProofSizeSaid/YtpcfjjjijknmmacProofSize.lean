/- What ProofSize and its model return for a proof that lies in memory. -/
import Derived.Test.YtpcfjjjijknmmacRows
import Derived.Test.YtpcfjjjijknmmacPf
import Derived.WalkKit
import Derived.ProofKit
import Derived.OpenShut
import Derived.Handy
import Derived.Lib.Hide
import Derived.Below
import Derived.IntWalk
import Derived.WalkLawsBesides
import Derived.Deep.QuietTactic
import Derived.BigQuiet
import Derived.OwnWalk
import Derived.Laws.OwnMore
import Derived.Deep.OwnRows
import Derived.Deep.MidRow
import Derived.Deep.LoopGhost
import Derived.WalkSmall
import Derived.Outline
namespace Go.Proofs.Ytpcfjjjijknmmac
open Go.ChangeShapes Go.WideShapes Go.ChangeAt Go.RowKit
def SpSzP (k : Pf) : Prop := ∀ (vr : Int) (s : Value) (w : World), (k.cs 33).Is w 0 2 k.len s → k.nodes ≤ 1048576 →
  Calls Try.prog 28 #[.agg #[.int .i64 vr, s]] w fun e w' => e = .returned (.int .i64 (1 + k.nodes)) ∧ Below w.heap.size w w'
set_option maxRecDepth 100000 in
set_option maxHeartbeats 1000000 in
theorem spszp_loop (F : Pf) (hF : F.AllK SpSzP) : SpSzP F := by
  intro vr0 v w hv hn
  have hml : maxLen = 9223372036854775807 := rfl
  have hnl := F.len_le
  rcases Pf.is_cases hv with ⟨h0, q, cap, rfl⟩ | ⟨hpos, b, o, cap, ys, rfl, hc1, hc2, _, hbl, hvs, hr⟩
  · have hr0 : F.nodes = 0 := by cases F with | nil => rfl | cons => simp [Pf.len] at h0
    rw [hr0]
    clear hF hv h0 hr0 hnl hn
    go_enter Try.func28, Try.ntmps28
    go_wp2
    refine wp_loop_rounds 1 ?_
    rw [rounds_succ]
    go_wp2
    go_ret
    exact ⟨rfl, (Below.refl _ _).alloc (Nat.le_refl _) _⟩
  · have HI := Lib.hid (fun j (hj : j < F.len) => Pf.nth F hvs hr j hj)
    have HD := Lib.hid F.drop_all
    have HD0 := Lib.hid F.drop_zero
    have HK := Lib.hid hF
    clear hF hv hvs hr
    go_enter Try.func28, Try.ntmps28
    go_wp2
    go_loopw [3, 9] (fun m i wr => ∃ (j s : Nat), j ≤ F.len ∧ i = .int .i64 j ∧ s + (F.drop j).nodes = F.nodes ∧ m = .int .i64 (1 + s) ∧ Below w.heap.size w wr) (fun _ i _ => F.len - (intOf i).toNat)
    case atStart => exact ⟨0, 0, Nat.zero_le _, rfl, by rw [HD0.out]; omega, rfl, (Below.refl _ _).alloc (Nat.le_refl _) _⟩
    case round =>
      obtain ⟨j, s, hj, rfl, hs, rfl, hb⟩ := hrel
      by_cases hjn : j < F.len
      · obtain ⟨vr, k, v, hat, his, hrr⟩ := HI.out j hjn
        obtain ⟨hn1, hn2⟩ := Pf.at_nodes F j hat
        have HIS := Lib.hid his
        obtain ⟨_, ⟨_, q', cap', rfl, _⟩, _⟩ := his
        have hk := Pf.at_allK F j hat HK.out
        have hrr := rangeAt_below hb hrr
        have c0 : wr.cell? ⟨b, o + j * 2, none⟩ = some (.int .i64 vr) := hrr 0 _ rfl
        have c1 : wr.cell? ⟨b, o + j * 2 + 1, none⟩ = some (.slice q' k.len cap') := hrr 1 _ rfl
        have SO := Lib.hid (fun W (hW : Below w.heap.size w W) => hk vr _ W (HIS.out.below hW) (by omega))
        have HB := Lib.hid hb
        have hsz := hb.size
        have hki : (j : Int) < (F.len : Int) := by omega
        have hs2 : s + k.nodes + 1 ≤ 1048576 := by omega
        have HS := Lib.hid (show s + (1 + k.nodes) + (F.drop (j + 1)).nodes = F.nodes by omega)
        clear hb hrr hat hk hn1 hs
        go_wp2_with (go_at_call 28; refine (SO.out _ (HB.out.alloc hsz _)).mono ?_; rintro e w1 ⟨rfl, hb1⟩)
        go_roundw
        case rel => exact ⟨j + 1, s + (1 + k.nodes), by omega, by go_num, HS.out, by go_num, (HB.out.alloc hsz _).trans (hb1.mono (by simp; omega))⟩
        case measure => simp [intOf]; omega
      · have ej : j = F.len := by omega
        have HB := Lib.hid hb
        have hnj : ¬ ((j : Int) < (F.len : Int)) := by omega
        have HS : Hid (s = F.nodes) := Lib.hid (by rw [ej, HD.out] at hs; exact hs)
        clear hb hs
        go_wp2
        go_ret
        exact ⟨by rw [HS.out]; rfl, HB.out⟩
theorem spszp_any : ∀ F : Pf, SpSzP F := Pf.every spszp_loop
end Go.Proofs.Ytpcfjjjijknmmac
