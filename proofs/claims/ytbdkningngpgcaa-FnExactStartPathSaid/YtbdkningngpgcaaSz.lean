/- The budget that the laws pay for a term: szTerm and szTermS. -/
import Derived.Test.YtbdkningngpgcaaRows
import Derived.Test.YtbdkningngpgcaaFlat
import Derived.WalkKit
import Derived.ProofKit
import Derived.OpenShut
import Derived.Handy
import Derived.Lib.Hide
import Derived.Below
import Derived.IntWalk
import Derived.WalkLawsBesides
import Derived.Deep.QuietTactic
import Derived.BigQuiet
import Derived.OwnWalk
import Derived.Laws.OwnMore
import Derived.Deep.OwnRows
import Derived.Deep.MidRow
import Derived.WalkSmall
namespace Go.Proofs.Ytbdkningngpgcaa
open Go.ChangeShapes Go.WideShapes Go.ChangeAt Go.RowKit
/-- the budget of a slice of nodes -/
def SzC (F : Fo) : Prop := ∀ (v : Value) (l : Nat) (w : World), l ≤ 1048576 → (F.cs 120).Is w 0 5 F.len v → F.Ok → F.len ≤ maxLen → Calls Try.prog 66 #[v, .int .i64 l] w fun e w' => e = .returned (.int .i64 (left l F.cost)) ∧ Below w.heap.size w w'
set_option maxRecDepth 100000 in
set_option maxHeartbeats 1000000 in
theorem sz_one {k : Fo} (hk : SzC k) (op wd n : Int) (nm : ByteArray) (s : Value) (l : Nat) (w : World) (hl : l ≤ 1048576) (hs : (k.cs 120).Is w 0 5 k.len s) (hok : Fo.OneOk op wd n nm k) :
    Calls Try.prog 98 #[.agg #[.int .i64 op, .int .i64 wd, .int .i64 n, .string nm, s], .int .i64 l] w fun e w' => e = .returned (.int .i64 (left l (nm.size + k.cost))) ∧ Below w.heap.size w w' := by
  obtain ⟨_, hnm, hkl, hkok⟩ := hok
  have hml : maxLen = 9223372036854775807 := rfl
  have HS := Lib.hid hs
  obtain ⟨_, ⟨_, q, cap, rfl, _⟩, _⟩ := hs
  by_cases h1 : nm.size ≤ l
  · have hc := fun W' (hb : Below w.heap.size w W') => hk _ (l - nm.size) W' (by omega) (HS.out.below hb) hkok hkl
    have HC := Lib.hid hc
    have hcast : ((l - nm.size : Nat) : Int) = (l : Int) - nm.size := by omega
    rw [hcast] at HC
    clear hc hk HS
    go_enter Try.func98, Try.ntmps98
    have hlo : 0 ≤ (l : Int) - nm.size := by omega
    by_cases h2 : k.cost ≤ l - nm.size
    · have he : left (l - nm.size) k.cost = (l : Int) - nm.size - k.cost := by unfold left; rw [if_pos h2, hcast]
      have he2 : left l (nm.size + k.cost) = (l : Int) - nm.size - k.cost := by unfold left; rw [if_pos (by omega)]; omega
      rw [he] at HC
      rw [he2]
      have hlo2 : 0 ≤ (l : Int) - nm.size - k.cost := by omega
      clear he he2 hcast
      go_wp2_with (go_at_call 66; refine (HC.out _ ((Below.refl _ _).alloc (Nat.le_refl _) _)).mono ?_; rintro e w1 ⟨rfl, hb1⟩)
      go_ret
      exact ⟨rfl, ((Below.refl _ _).alloc (Nat.le_refl _) _).trans (hb1.mono (by simp))⟩
    · have he : left (l - nm.size) k.cost = -1 := by unfold left; rw [if_neg h2]
      have he2 : left l (nm.size + k.cost) = -1 := by unfold left; rw [if_neg (by omega)]
      rw [he] at HC
      rw [he2]
      clear he he2 hcast
      go_wp2_with (go_at_call 66; refine (HC.out _ ((Below.refl _ _).alloc (Nat.le_refl _) _)).mono ?_; rintro e w1 ⟨rfl, hb1⟩)
      go_ret
      exact ⟨rfl, ((Below.refl _ _).alloc (Nat.le_refl _) _).trans (hb1.mono (by simp))⟩
  · have he2 : left l (nm.size + k.cost) = -1 := by unfold left; rw [if_neg (by omega)]
    have hlo : (l : Int) - nm.size < 0 := by omega
    rw [he2]
    clear he2 hk HS
    go_enter Try.func98, Try.ntmps98
    go_wp2
    go_ret
    exact ⟨rfl, (Below.refl _ _).alloc (Nat.le_refl _) _⟩
set_option maxRecDepth 100000 in
set_option maxHeartbeats 1000000 in
theorem sz_loop (F : Fo) (hF : F.AllK SzC) : SzC F := by
  intro v l w hl hv hok hlen
  have hml : maxLen = 9223372036854775807 := rfl
  have hce := F.cost_eq
  rcases Fo.is_cases hv with ⟨h0, q, cap, rfl⟩ | ⟨hpos, b, o, cap, ys, rfl, hc1, hc2, _, hbl, hvs, hr⟩
  · have hr0 : F.rest = 0 := by cases F with | nil => rfl | cons => simp [Fo.len] at h0
    have hfin : left l F.cost = (l : Int) := by
      unfold left
      rw [if_pos (by omega)]
      omega
    rw [hfin]
    have hlo : ¬ ((l : Int) < 0) := by omega
    clear hF hfin hv hce h0 hr0 hok hlen
    go_enter Try.func66, Try.ntmps66
    go_wp2
    refine wp_loop_rounds 1 ?_
    rw [rounds_succ]
    go_wp2
    go_ret
    exact ⟨rfl, Below.refl _ _⟩
  · by_cases h1 : F.len ≤ l
    · have HI := Lib.hid (fun j (hj : j < F.len) => Fo.nth F hvs hr j hj)
      have HP := Lib.hid F.paid_all
      have HCE := Lib.hid hce
      have HK := Lib.hid hF
      have HOK := Lib.hid hok
      clear hok hF hce hv hvs hr
      have hlo : 0 ≤ (l : Int) - F.len := by omega
      go_enter Try.func66, Try.ntmps66
      go_wp2
      go_loopw [1, 5] (fun lf i wr => ∃ (j p : Nat), j ≤ F.len ∧ i = .int .i64 j ∧ p = F.paid j ∧ p + F.len ≤ l ∧ lf = .int .i64 ((l : Int) - F.len - p) ∧ Below w.heap.size w wr) (fun _ i _ => F.len - (intOf i).toNat)
      case atStart => exact ⟨0, 0, Nat.zero_le _, rfl, F.paid_zero.symm, by omega, by simp, Below.refl _ _⟩
      case round =>
        obtain ⟨j, p, hj, rfl, hp, hpl, rfl, hb⟩ := hrel
        by_cases hjn : j < F.len
        · obtain ⟨op, wd, n, nm, k, v, hat, his, hrr⟩ := HI.out j hjn
          obtain ⟨hp1, hp2⟩ := Fo.at_paid F j hat
          have hok1 := Fo.at_ok F j hat HOK.out
          have hk := Fo.at_allK F j hat HK.out
          have hrr := rangeAt_below hb hrr
          have c0 : wr.cell? ⟨b, o + j * 5, none⟩ = some (.int .i64 op) := hrr 0 _ rfl
          have c1 : wr.cell? ⟨b, o + j * 5 + 1, none⟩ = some (.int .i64 wd) := hrr 1 _ rfl
          have c2 : wr.cell? ⟨b, o + j * 5 + 2, none⟩ = some (.int .i64 n) := hrr 2 _ rfl
          have c3 : wr.cell? ⟨b, o + j * 5 + 3, none⟩ = some (.string nm) := hrr 3 _ rfl
          have c4 : wr.cell? ⟨b, o + j * 5 + 4, none⟩ = some v := hrr 4 _ rfl
          have SO := Lib.hid (fun W (hW : Below w.heap.size w W) => sz_one hk op wd n nm v (l - F.len - p) W (by omega) (his.below hW) hok1)
          have hcast : ((l - F.len - p : Nat) : Int) = (l : Int) - F.len - p := by omega
          rw [hcast] at SO
          have HB := Lib.hid hb
          have HP1 := Lib.hid (And.intro hp1 (And.intro hp2 hp))
          have hki : (j : Int) < (F.len : Int) := by omega
          clear hb hrr hat his hok1 hk hp1 hp2 hp hcast
          by_cases h2 : nm.size + k.cost ≤ l - F.len - p
          · have he : left (l - F.len - p) (nm.size + k.cost) = (l : Int) - F.len - p - (nm.size + k.cost : Nat) := by unfold left; rw [if_pos h2]; omega
            rw [he] at SO
            have hnn : 0 ≤ (l : Int) - F.len - p - (nm.size + k.cost : Nat) := by omega
            clear he
            go_wp2_with (go_at_call 98; refine (SO.out _ HB.out).mono ?_; rintro e w1 ⟨rfl, hb1⟩)
            go_roundw
            case rel =>
              obtain ⟨e1, e2, e3⟩ := HP1.out
              exact ⟨j + 1, p + (nm.size + k.cost), by omega, by go_num, by omega, by omega, by go_num, HB.out.trans (hb1.mono HB.out.size)⟩
            case measure => simp [intOf]; omega
          · have he : left (l - F.len - p) (nm.size + k.cost) = -1 := by unfold left; rw [if_neg h2]
            have hfin : left l F.cost = -1 := by
              obtain ⟨e1, e2, e3⟩ := HP1.out
              have := HCE.out
              unfold left
              rw [if_neg (by omega)]
            rw [he] at SO
            clear he
            go_wp2_with (go_at_call 98; refine (SO.out _ HB.out).mono ?_; rintro e w1 ⟨rfl, hb1⟩)
            go_ret
            rw [hfin]
            exact ⟨rfl, HB.out.trans (hb1.mono HB.out.size)⟩
        · have ej : j = F.len := by omega
          have hfin : left l F.cost = (l : Int) - F.len - p := by
            have e1 := HP.out
            have e2 := HCE.out
            unfold left
            rw [← ej, ← hp] at e1
            rw [if_pos (by omega)]
            omega
          have HB := Lib.hid hb
          have hnj : ¬ ((j : Int) < (F.len : Int)) := by omega
          clear hb hp
          go_wp2
          go_ret
          exact ⟨rfl, HB.out⟩
    · have hfin : left l F.cost = -1 := by unfold left; rw [if_neg (by omega)]
      have hlo : (l : Int) - F.len < 0 := by omega
      clear hF hce hv hvs hr hok
      go_enter Try.func66, Try.ntmps66
      go_wp2
      go_ret
      exact ⟨by first | rfl | (rw [hfin]; rfl), Below.refl _ _⟩
/-- the budget of a slice of nodes, for every such slice -/
theorem sz_any : ∀ F : Fo, SzC F := Fo.every sz_loop
end Go.Proofs.Ytbdkningngpgcaa
