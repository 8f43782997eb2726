/- The budget that the laws pay for a term: szTerm and szTermS. The comparison of terms that the laws make, eqTerm and eqTermS, where both are one term. The copies of terms that the laws make: toTerm and toTermS. -/
import Derived.Test.YthmababifgaejaaGreatDoorRows
import Derived.Test.YthmababifgaejaaGreatDoorEmGCs
import Derived.WalkKit
import Derived.ProofKit
import Derived.OpenShut
import Derived.Handy
import Derived.Lib.Hide
import Derived.Below
import Derived.IntWalk
import Derived.WalkLawsBesides
import Derived.Deep.QuietTactic
import Derived.BigQuiet
import Derived.OwnWalk
import Derived.Laws.OwnMore
import Derived.Deep.OwnRows
import Derived.Deep.MidRow
import Derived.WalkSmall
import Derived.StillTailTactics
import Derived.Outline
namespace Go.Proofs.YthmababifgaejaaGreatDoor
open Go.ChangeShapes Go.WideShapes Go.ChangeAt Go.RowKit
/-- the budget of a slice of nodes -/
def SzC (F : Fo) : Prop := ∀ (v : Value) (l : Nat) (w : World), l ≤ 1048576 → (F.cs 74).Is w 0 5 F.len v → F.Ok → F.len ≤ maxLen → Calls Tryz.prog 21 #[v, .int .i64 l] w fun e w' => e = .returned (.int .i64 (left l F.cost)) ∧ Below w.heap.size w w'
set_option maxRecDepth 100000 in
set_option maxHeartbeats 1000000 in
theorem sz_one {k : Fo} (hk : SzC k) (op wd n : Int) (nm : ByteArray) (s : Value) (l : Nat) (w : World) (hl : l ≤ 1048576) (hs : (k.cs 74).Is w 0 5 k.len s) (hok : Fo.OneOk op wd n nm k) :
    Calls Tryz.prog 38 #[.agg #[.int .i64 op, .int .i64 wd, .int .i64 n, .string nm, s], .int .i64 l] w fun e w' => e = .returned (.int .i64 (left l (nm.size + k.cost))) ∧ Below w.heap.size w w' := by
  obtain ⟨_, hnm, hkl, hkok⟩ := hok
  have hml : maxLen = 9223372036854775807 := rfl
  have HS := Lib.hid hs
  obtain ⟨_, ⟨_, q, cap, rfl, _⟩, _⟩ := hs
  by_cases h1 : nm.size ≤ l
  · have hc := fun W' (hb : Below w.heap.size w W') => hk _ (l - nm.size) W' (by omega) (HS.out.below hb) hkok hkl
    have HC := Lib.hid hc
    have hcast : ((l - nm.size : Nat) : Int) = (l : Int) - nm.size := by omega
    rw [hcast] at HC
    clear hc hk HS
    go_enter Tryz.func38, Tryz.ntmps38
    have hlo : 0 ≤ (l : Int) - nm.size := by omega
    by_cases h2 : k.cost ≤ l - nm.size
    · have he : left (l - nm.size) k.cost = (l : Int) - nm.size - k.cost := by unfold left; rw [if_pos h2, hcast]
      have he2 : left l (nm.size + k.cost) = (l : Int) - nm.size - k.cost := by unfold left; rw [if_pos (by omega)]; omega
      rw [he] at HC
      rw [he2]
      have hlo2 : 0 ≤ (l : Int) - nm.size - k.cost := by omega
      clear he he2 hcast
      go_wp2_with (go_at_call 21; refine (HC.out _ ((Below.refl _ _).alloc (Nat.le_refl _) _)).mono ?_; rintro e w1 ⟨rfl, hb1⟩)
      go_ret
      exact ⟨rfl, ((Below.refl _ _).alloc (Nat.le_refl _) _).trans (hb1.mono (by simp))⟩
    · have he : left (l - nm.size) k.cost = -1 := by unfold left; rw [if_neg h2]
      have he2 : left l (nm.size + k.cost) = -1 := by unfold left; rw [if_neg (by omega)]
      rw [he] at HC
      rw [he2]
      clear he he2 hcast
      go_wp2_with (go_at_call 21; refine (HC.out _ ((Below.refl _ _).alloc (Nat.le_refl _) _)).mono ?_; rintro e w1 ⟨rfl, hb1⟩)
      go_ret
      exact ⟨rfl, ((Below.refl _ _).alloc (Nat.le_refl _) _).trans (hb1.mono (by simp))⟩
  · have he2 : left l (nm.size + k.cost) = -1 := by unfold left; rw [if_neg (by omega)]
    have hlo : (l : Int) - nm.size < 0 := by omega
    rw [he2]
    clear he2 hk HS
    go_enter Tryz.func38, Tryz.ntmps38
    go_wp2
    go_ret
    exact ⟨rfl, (Below.refl _ _).alloc (Nat.le_refl _) _⟩
set_option maxRecDepth 100000 in
set_option maxHeartbeats 1000000 in
theorem sz_loop (F : Fo) (hF : F.AllK SzC) : SzC F := by
  intro v l w hl hv hok hlen
  have hml : maxLen = 9223372036854775807 := rfl
  have hce := F.cost_eq
  rcases Fo.is_cases hv with ⟨h0, q, cap, rfl⟩ | ⟨hpos, b, o, cap, ys, rfl, hc1, hc2, _, hbl, hvs, hr⟩
  · have hr0 : F.rest = 0 := by cases F with | nil => rfl | cons => simp [Fo.len] at h0
    have hfin : left l F.cost = (l : Int) := by
      unfold left
      rw [if_pos (by omega)]
      omega
    rw [hfin]
    have hlo : ¬ ((l : Int) < 0) := by omega
    clear hF hfin hv hce h0 hr0 hok hlen
    go_enter Tryz.func21, Tryz.ntmps21
    go_wp2
    refine wp_loop_rounds 1 ?_
    rw [rounds_succ]
    go_wp2
    go_ret
    exact ⟨rfl, Below.refl _ _⟩
  · by_cases h1 : F.len ≤ l
    · have HI := Lib.hid (fun j (hj : j < F.len) => Fo.nth F hvs hr j hj)
      have HP := Lib.hid F.paid_all
      have HCE := Lib.hid hce
      have HK := Lib.hid hF
      have HOK := Lib.hid hok
      clear hok hF hce hv hvs hr
      have hlo : 0 ≤ (l : Int) - F.len := by omega
      go_enter Tryz.func21, Tryz.ntmps21
      go_wp2
      go_loopw [1, 5] (fun lf i wr => ∃ (j p : Nat), j ≤ F.len ∧ i = .int .i64 j ∧ p = F.paid j ∧ p + F.len ≤ l ∧ lf = .int .i64 ((l : Int) - F.len - p) ∧ Below w.heap.size w wr) (fun _ i _ => F.len - (intOf i).toNat)
      case atStart => exact ⟨0, 0, Nat.zero_le _, rfl, F.paid_zero.symm, by omega, by simp, Below.refl _ _⟩
      case round =>
        obtain ⟨j, p, hj, rfl, hp, hpl, rfl, hb⟩ := hrel
        by_cases hjn : j < F.len
        · obtain ⟨op, wd, n, nm, k, v, hat, his, hrr⟩ := HI.out j hjn
          obtain ⟨hp1, hp2⟩ := Fo.at_paid F j hat
          have hok1 := Fo.at_ok F j hat HOK.out
          have hk := Fo.at_allK F j hat HK.out
          have hrr := rangeAt_below hb hrr
          have c0 : wr.cell? ⟨b, o + j * 5, none⟩ = some (.int .i64 op) := hrr 0 _ rfl
          have c1 : wr.cell? ⟨b, o + j * 5 + 1, none⟩ = some (.int .i64 wd) := hrr 1 _ rfl
          have c2 : wr.cell? ⟨b, o + j * 5 + 2, none⟩ = some (.int .i64 n) := hrr 2 _ rfl
          have c3 : wr.cell? ⟨b, o + j * 5 + 3, none⟩ = some (.string nm) := hrr 3 _ rfl
          have c4 : wr.cell? ⟨b, o + j * 5 + 4, none⟩ = some v := hrr 4 _ rfl
          have SO := Lib.hid (fun W (hW : Below w.heap.size w W) => sz_one hk op wd n nm v (l - F.len - p) W (by omega) (his.below hW) hok1)
          have hcast : ((l - F.len - p : Nat) : Int) = (l : Int) - F.len - p := by omega
          rw [hcast] at SO
          have HB := Lib.hid hb
          have HP1 := Lib.hid (And.intro hp1 (And.intro hp2 hp))
          have hki : (j : Int) < (F.len : Int) := by omega
          clear hb hrr hat his hok1 hk hp1 hp2 hp hcast
          by_cases h2 : nm.size + k.cost ≤ l - F.len - p
          · have he : left (l - F.len - p) (nm.size + k.cost) = (l : Int) - F.len - p - (nm.size + k.cost : Nat) := by unfold left; rw [if_pos h2]; omega
            rw [he] at SO
            have hnn : 0 ≤ (l : Int) - F.len - p - (nm.size + k.cost : Nat) := by omega
            clear he
            go_wp2_with (go_at_call 38; refine (SO.out _ HB.out).mono ?_; rintro e w1 ⟨rfl, hb1⟩)
            go_roundw
            case rel =>
              obtain ⟨e1, e2, e3⟩ := HP1.out
              exact ⟨j + 1, p + (nm.size + k.cost), by omega, by go_num, by omega, by omega, by go_num, HB.out.trans (hb1.mono HB.out.size)⟩
            case measure => simp [intOf]; omega
          · have he : left (l - F.len - p) (nm.size + k.cost) = -1 := by unfold left; rw [if_neg h2]
            have hfin : left l F.cost = -1 := by
              obtain ⟨e1, e2, e3⟩ := HP1.out
              have := HCE.out
              unfold left
              rw [if_neg (by omega)]
            rw [he] at SO
            clear he
            go_wp2_with (go_at_call 38; refine (SO.out _ HB.out).mono ?_; rintro e w1 ⟨rfl, hb1⟩)
            go_ret
            rw [hfin]
            exact ⟨rfl, HB.out.trans (hb1.mono HB.out.size)⟩
        · have ej : j = F.len := by omega
          have hfin : left l F.cost = (l : Int) - F.len - p := by
            have e1 := HP.out
            have e2 := HCE.out
            unfold left
            rw [← ej, ← hp] at e1
            rw [if_pos (by omega)]
            omega
          have HB := Lib.hid hb
          have hnj : ¬ ((j : Int) < (F.len : Int)) := by omega
          clear hb hp
          go_wp2
          go_ret
          exact ⟨rfl, HB.out⟩
    · have hfin : left l F.cost = -1 := by unfold left; rw [if_neg (by omega)]
      have hlo : (l : Int) - F.len < 0 := by omega
      clear hF hce hv hvs hr hok
      go_enter Tryz.func21, Tryz.ntmps21
      go_wp2
      go_ret
      exact ⟨by first | rfl | (rw [hfin]; rfl), Below.refl _ _⟩
/-- the budget of a slice of nodes, for every such slice -/
theorem sz_any : ∀ F : Fo, SzC F := Fo.every sz_loop
end Go.Proofs.YthmababifgaejaaGreatDoor
namespace Go.Proofs.YthmababifgaejaaGreatDoor
open Go.ChangeShapes Go.WideShapes Go.ChangeAt Go.RowKit
def EqC (F : Fo) : Prop := ∀ (v1 v2 : Value) (w : World), (F.cs 64).Is w 0 5 F.len v1 → (F.cs 64).Is w 0 5 F.len v2 → F.nodes ≤ 2097152 → Calls Tryz.prog 34 #[v1, v2] w fun e w' => e = .returned (.bool true) ∧ Below w.heap.size w w'
set_option maxRecDepth 100000 in
set_option maxHeartbeats 1000000 in
theorem eq_one {k : Fo} (hk : EqC k) (op wd n : Int) (nm : ByteArray) (s1 s2 : Value) (w : World) (hs1 : (k.cs 64).Is w 0 5 k.len s1) (hs2 : (k.cs 64).Is w 0 5 k.len s2) (hn : k.nodes ≤ 2097152) :
    Calls Tryz.prog 54 #[.agg #[.int .i64 op, .int .i64 wd, .int .i64 n, .string nm, s1], .agg #[.int .i64 op, .int .i64 wd, .int .i64 n, .string nm, s2]] w fun e w' => e = .returned (.bool true) ∧ Below w.heap.size w w' := by
  have HS1 := Lib.hid hs1
  have HS2 := Lib.hid hs2
  obtain ⟨_, ⟨_, q1, cap1, rfl, _⟩, _⟩ := hs1
  obtain ⟨_, ⟨_, q2, cap2, rfl, _⟩, _⟩ := hs2
  have HC := Lib.hid (fun W' (hb : Below w.heap.size w W') => hk _ _ W' (HS1.out.below hb) (HS2.out.below hb) hn)
  clear hk HS1 HS2
  go_enter Tryz.func54, Tryz.ntmps54
  go_wp2_with (go_at_call 34; refine (HC.out _ (((Below.refl _ _).alloc (Nat.le_refl _) _).alloc (by simp) _)).mono ?_; rintro e w1 ⟨rfl, hb1⟩)
  go_ret
  exact ⟨rfl, (((Below.refl _ _).alloc (Nat.le_refl _) _).alloc (by simp) _).trans (hb1.mono (by simp; omega))⟩
set_option maxRecDepth 100000 in
set_option maxHeartbeats 1000000 in
theorem eq_loop (F : Fo) (hF : F.AllK EqC) : EqC F := by
  intro v1 v2 w hv1 hv2 hn
  have hml : maxLen = 9223372036854775807 := rfl
  have hnl := F.len_le
  rcases Fo.is_cases hv1 with ⟨h0, q1, cap1, rfl⟩ | ⟨hpos, b1, o1, cap1, ys1, rfl, _, _, _, hbl1, hvs1, hr1⟩
  · obtain ⟨_, ⟨_, q2, cap2, rfl, _⟩, _⟩ := hv2
    rw [h0]
    clear hF hnl hn h0
    go_enter Tryz.func34, Tryz.ntmps34
    go_wp2
    refine wp_loop_rounds 1 ?_
    rw [rounds_succ]
    go_wp2
    go_ret
    exact ⟨rfl, Below.refl _ _⟩
  · rcases Fo.is_cases hv2 with ⟨h0, _⟩ | ⟨_, b2, o2, cap2, ys2, rfl, _, _, _, hbl2, hvs2, hr2⟩
    · omega
    have HI1 := Lib.hid (fun j (hj : j < F.len) => Fo.nth F hvs1 hr1 j hj)
    have HI2 := Lib.hid (fun j (hj : j < F.len) => Fo.nth F hvs2 hr2 j hj)
    have HK := Lib.hid hF
    clear hF hv1 hv2 hvs1 hvs2 hr1 hr2
    go_enter Tryz.func34, Tryz.ntmps34
    go_wp2
    go_loopw [5] (fun i wr => ∃ (j : Nat), j ≤ F.len ∧ i = .int .i64 j ∧ Below w.heap.size w wr) (fun i _ => F.len - (intOf i).toNat)
    case atStart => exact ⟨0, Nat.zero_le _, rfl, Below.refl _ _⟩
    case round =>
      obtain ⟨j, hj, rfl, hb⟩ := hrel
      by_cases hjn : j < F.len
      · obtain ⟨op, wd, n, nm, k, v, hat, his1, hrr1⟩ := HI1.out j hjn
        obtain ⟨op', wd', n', nm', k', v', hat', his2, hrr2⟩ := HI2.out j hjn
        obtain ⟨rfl, rfl, rfl, rfl, rfl⟩ := Fo.at_fun F j hat hat'
        have hk := Fo.at_allK F j hat HK.out
        have hkn := (Fo.at_nodes F j hat).2
        have hrr1 := rangeAt_below hb hrr1
        have hrr2 := rangeAt_below hb hrr2
        have c0 : wr.cell? ⟨b1, o1 + j * 5, none⟩ = some (.int .i64 op) := hrr1 0 _ rfl
        have c1 : wr.cell? ⟨b1, o1 + j * 5 + 1, none⟩ = some (.int .i64 wd) := hrr1 1 _ rfl
        have c2 : wr.cell? ⟨b1, o1 + j * 5 + 2, none⟩ = some (.int .i64 n) := hrr1 2 _ rfl
        have c3 : wr.cell? ⟨b1, o1 + j * 5 + 3, none⟩ = some (.string nm) := hrr1 3 _ rfl
        have c4 : wr.cell? ⟨b1, o1 + j * 5 + 4, none⟩ = some v := hrr1 4 _ rfl
        have d0 : wr.cell? ⟨b2, o2 + j * 5, none⟩ = some (.int .i64 op) := hrr2 0 _ rfl
        have d1 : wr.cell? ⟨b2, o2 + j * 5 + 1, none⟩ = some (.int .i64 wd) := hrr2 1 _ rfl
        have d2 : wr.cell? ⟨b2, o2 + j * 5 + 2, none⟩ = some (.int .i64 n) := hrr2 2 _ rfl
        have d3 : wr.cell? ⟨b2, o2 + j * 5 + 3, none⟩ = some (.string nm) := hrr2 3 _ rfl
        have d4 : wr.cell? ⟨b2, o2 + j * 5 + 4, none⟩ = some v' := hrr2 4 _ rfl
        have SO := Lib.hid (fun W (hW : Below w.heap.size w W) => eq_one hk op wd n nm v v' W (his1.below hW) (his2.below hW) (by omega))
        have HB := Lib.hid hb
        have hki : (j : Int) < (F.len : Int) := by omega
        clear hb hrr1 hrr2 hat hat' his1 his2 hk hkn
        go_wp2
        go_still_tail 8, (by kernel_rfl)
        go_wp2_with (go_at_call 54; refine (SO.out _ HB.out.drew).mono ?_; rintro e w1 ⟨rfl, hb1⟩)
        go_roundw
        case rel => exact ⟨j + 1, by omega, by go_num, HB.out.drew.trans (hb1.mono HB.out.drew.size)⟩
        case measure => simp [intOf]; omega
      · have HB := Lib.hid hb
        have hnj : ¬ ((j : Int) < (F.len : Int)) := by omega
        clear hb
        go_wp2
        go_ret
        exact ⟨rfl, HB.out⟩
theorem eq_any : ∀ F : Fo, EqC F := Fo.every eq_loop
end Go.Proofs.YthmababifgaejaaGreatDoor
namespace Go.Proofs.YthmababifgaejaaGreatDoor
open Go.ChangeShapes Go.WideShapes Go.ChangeAt Go.RowKit
theorem infoT : (Tryz.prog.info? 64).map (fun i => (i.zero, i.size, i.bytes)) = some (some (.agg #[.int .i64 0, .int .i64 0, .int .i64 0, .string ByteArray.empty, .slice none 0 0]), 5, 64) := by kernel_rfl
theorem sizeT : (Tryz.prog.info? 64).map (·.size) = some 5 := by kernel_rfl
/-- a slice that has been filled up to an index -/
def ToRel (F : Fo) (w : World) (n j : Nat) (wr : World) : Prop := ∃ cur bs, wr.ownsRow w.heap.size 64 5 (.slice (some ⟨w.heap.size, 0, none⟩) n n) n cur ∧ ((F.take j).cs 64).Own wr (w.heap.size + 1) (cur.take (j * 5)) bs ∧ bs.Nodup ∧ Below w.heap.size w wr
theorem to_step {F : Fo} {w wr w1 : World} {n j : Nat} {op wd nn : Int} {nm : ByteArray} {k : Fo} {v : Value} {b1 : List Nat} (hat : F.At j op wd nn nm k) (hn : F.len = n) (hr : ToRel F w n j wr) (hb : Below wr.heap.size wr w1)
    (hh : (k.cs 64).Has w1 wr.heap.size 64 5 k.len v b1) (hd : b1.Nodup) : ToRel F w n (j + 1) (w1.setCells w.heap.size (j * 5) [.int .i64 op, .int .i64 wd, .int .i64 nn, .string nm, v]) := by
  obtain ⟨cur, bs, ho, hown, hnd, hbw⟩ := hr
  have hj := Fo.at_lt F j hat
  have ho1 := own_keep ho hb
  have hg : w.heap.size < wr.heap.size := (ho.lt w.heap.size rfl).2
  have hlen := ho.1
  have hx : (cur.take (j * 5)).length = j * 5 := by rw [List.length_take]; omega
  have hput : putAt cur (j * 5) [.int .i64 op, .int .i64 wd, .int .i64 nn, .string nm, v] = cur.take (j * 5) ++ [.int .i64 op, .int .i64 wd, .int .i64 nn, .string nm, v] ++ (cur.drop (j * 5)).drop 5 := by
    have := putAt_mid [.int .i64 op, .int .i64 wd, .int .i64 nn, .string nm, v] (cur.take (j * 5)) (cur.drop (j * 5)) (by rw [List.length_drop]; simp; omega)
    rw [List.take_append_drop, hx] at this
    exact this
  refine ⟨_, bs ++ b1, own_put [.int .i64 op, .int .i64 wd, .int .i64 nn, .string nm, v] (j * 5) w1 cur ho1, ?_, ?_, ?_⟩
  · have e : (putAt cur (j * 5) [.int .i64 op, .int .i64 wd, .int .i64 nn, .string nm, v]).take ((j + 1) * 5) = cur.take (j * 5) ++ [.int .i64 op, .int .i64 wd, .int .i64 nn, .string nm, v] := by
      rw [hput]
      exact List.take_left' (by rw [List.length_append, hx]; simp; omega)
    rw [e, Fo.take_at F j hat, Fo.cs_app]
    refine Cs.own_app ((hown.below (hb.mono (Nat.le_refl _))).same fun g hg => heap_setCells _ _ _ _ _ (by have := hown.lt g hg; omega)) ?_
    rw [Fo.cs_cons, Fo.cs, Cs.app_nil]
    exact Fo.own_one ((hh.down (by omega)).same fun g hg => heap_setCells _ _ _ _ _ (by have := hh.lt g hg; omega))
  · rw [List.nodup_append]
    refine ⟨hnd, hd, fun a ha b hb' e => ?_⟩
    subst e
    have h1 := (hown.lt a ha).2
    have h2 := (hh.lt a hb').1
    omega
  · exact below_setCells (Nat.le_refl _) _ _ (hbw.trans (hb.mono (by omega)))
/-- the copy of a slice of nodes -/
def ToEnd (F : Fo) (w : World) (e : Ending) (w' : World) : Prop := ∃ g, e = .returned (.slice (some ⟨g, 0, none⟩) F.len F.len) ∧ (∃ bs, (F.cs 64).Has w' w.heap.size 64 5 F.len (.slice (some ⟨g, 0, none⟩) F.len F.len) bs ∧ bs.Nodup) ∧ Below w.heap.size w w'
def ToC (F : Fo) : Prop := ∀ (v : Value) (w : World), (F.cs 74).Is w 0 5 F.len v → F.nodes ≤ 1048576 → Calls Tryz.prog 27 #[v] w (ToEnd F w)
/-- .. of one node -/
def To1End (op wd n : Int) (nm : ByteArray) (k : Fo) (w : World) (e : Ending) (w' : World) : Prop := ∃ g, e = .returned (.agg #[.int .i64 op, .int .i64 wd, .int .i64 n, .string nm, .slice (some ⟨g, 0, none⟩) k.len k.len]) ∧ (∃ bs, (k.cs 64).Has w' w.heap.size 64 5 k.len (.slice (some ⟨g, 0, none⟩) k.len k.len) bs ∧ bs.Nodup) ∧ Below w.heap.size w w'
set_option maxRecDepth 100000 in
set_option maxHeartbeats 1000000 in
theorem to_one {k : Fo} (hk : ToC k) (op wd n : Int) (nm : ByteArray) (s : Value) (w : World) (hs : (k.cs 74).Is w 0 5 k.len s) (hn : k.nodes ≤ 1048576) :
    Calls Tryz.prog 44 #[.agg #[.int .i64 op, .int .i64 wd, .int .i64 n, .string nm, s]] w (To1End op wd n nm k w) := by
  have HS := Lib.hid hs
  obtain ⟨_, ⟨_, q, cap, rfl, _⟩, _⟩ := hs
  have HC := Lib.hid (fun W' (hb : Below w.heap.size w W') => hk _ W' (HS.out.below hb) hn)
  clear hk HS
  unfold ToEnd at HC
  unfold To1End
  go_enter Tryz.func44, Tryz.ntmps44
  go_wp2_with fail
  refine (HC.out _ (by repeat (first | refine Below.setCell ?_ (by first | (simp; done) | (simp; omega)) _ | refine Below.alloc ?_ (by first | (simp; done) | (simp; omega)) _ | exact Below.refl _ _))).mono ?_
  rintro e w1 ⟨g, rfl, ⟨bs, hh, hd⟩, hb1⟩
  have hz : w.heap.size + 2 < w1.heap.size := by have := hb1.size; simp at this; omega
  obtain ⟨hc, hf⟩ := bcell hb1
  have HH := Lib.hid (hh.down (base' := w.heap.size) (by simp; omega))
  have HL := Lib.hid (fun g (hg : g ∈ bs) => show w.heap.size + 3 ≤ g by have := (hh.lt g hg).1; simp at this; omega)
  have HD := Lib.hid hd
  have HB1 : Hid (Below w.heap.size w w1) := Lib.hid (Below.trans (b := _) (by repeat (first | refine Below.alloc ?_ (by first | (simp; done) | (simp; omega)) _ | exact Below.refl _ _)) (hb1.mono (by simp; omega)))
  clear hh hd hb1
  go_wp2
  refine bodyPost_ret (v := .agg #[.int .i64 op, .int .i64 wd, .int .i64 n, .string nm, .slice (some ⟨g, 0, none⟩) k.len k.len]) (by simp [results, Tryz.results44, go_sem, hc]) rfl ?_
  refine ⟨g, rfl, ⟨bs, ?_, HD.out⟩, ?_⟩
  · refine HH.out.apart (cs := [w.heap.size + 1, w.heap.size + 1 + 1]) ?_ (fun g hg => by have := HL.out g hg; simp; omega)
    repeat (first | refine Apart.setCell ?_ (by simp) _ | exact Apart.refl _ _)
  · repeat (first | refine Below.setCell ?_ (by first | (simp; done) | (simp; omega)) _ | exact HB1.out)
set_option maxRecDepth 100000 in
set_option maxHeartbeats 1000000 in
theorem to_loop (F : Fo) (hF : F.AllK ToC) : ToC F := by
  intro v w hv hn
  have hml : maxLen = 9223372036854775807 := rfl
  have hnl := F.len_le
  have HK := Lib.hid hF
  clear hF
  rcases Fo.is_cases hv with ⟨h0, q, cap, rfl⟩ | ⟨hpos, b, o, cap, ys, rfl, _, _, _, hbl, hvs, hr⟩
  · have hF0 : F = .nil := by cases F with | nil => rfl | cons => simp [Fo.len] at h0
    subst hF0
    obtain ⟨i0, hi, hz0, hz1, hz2⟩ := info_parts infoT
    unfold ToEnd
    clear hv hnl hn HK
    go_enter Tryz.func27, Tryz.ntmps27
    go_wp2_with (refine wpList_make_full _ rfl _ _ 39 rfl w.heap.size 64 i0 (.agg #[.int .i64 0, .int .i64 0, .int .i64 0, .string ByteArray.empty, .slice none 0 0]) 5 Tryz.underlying39 hi hz0 hz1 .i64 .i64 _ _ 0 rfl rfl rfl rfl (by rw [hz2]; omega) (by unfold maxLen; omega) (Nat.le_refl _) ?_; intro w1 hown hgrow; have hb1 := (Below.refl w.heap.size w).grown hgrow (Nat.le_refl _) (fun k e => by cases e); have HO := Lib.hid hown; have HB1 := Lib.hid hb1; clear hown hgrow hb1)
    refine wp_loop_rounds 1 ?_
    rw [rounds_succ]
    go_wp2
    go_ret
    exact ⟨w.heap.size, rfl, ⟨_, ⟨_, [], HO.out, ⟨List.length_eq_zero_iff.1 (HO.out.1.trans rfl), rfl⟩, rfl⟩, by simp [Value.ownBlock]⟩, HB1.out⟩
  · have HI := Lib.hid (fun j (hj : j < F.len) => Fo.nth F hvs hr j hj)
    have HN := Lib.hid (fun j op wd n nm k (h : F.At j op wd n nm k) => (Fo.at_nodes F j h).2)
    obtain ⟨i0, hi, hz0, hz1, hz2⟩ := info_parts infoT
    clear hv hvs hr
    unfold ToEnd
    generalize hlen : F.len = n at *
    have HL := Lib.hid hlen
    clear hlen
    go_enter Tryz.func27, Tryz.ntmps27
    go_wp2_with (refine wpList_make_full _ rfl _ _ 39 rfl w.heap.size 64 i0 (.agg #[.int .i64 0, .int .i64 0, .int .i64 0, .string ByteArray.empty, .slice none 0 0]) 5 Tryz.underlying39 hi hz0 hz1 .i64 .i64 _ _ n rfl rfl rfl rfl (by rw [hz2]; omega) (by unfold maxLen; omega) (Nat.le_refl _) ?_; intro w1 hown hgrow; have hb1 := (Below.refl w.heap.size w).grown hgrow (Nat.le_refl _) (fun k e => by cases e); have HO := Lib.hid hown; have HB1 := Lib.hid hb1; clear hown hgrow hb1)
    go_loopw [4] (fun i wr => ∃ (j : Nat), j ≤ n ∧ i = .int .i64 j ∧ ToRel F w n j wr) (fun i _ => n - (intOf i).toNat)
    case atStart => exact ⟨0, Nat.zero_le _, rfl, _, [], HO.out, by rw [Fo.take_zero]; simp; exact ⟨rfl, rfl⟩, List.nodup_nil, HB1.out⟩
    case round =>
      obtain ⟨j, hj, rfl, hrel⟩ := hrel
      by_cases hjn : j < n
      · obtain ⟨op, wd, nn, nm, k, v, hat, his, hrr⟩ := HI.out j hjn
        have hkn := HN.out _ _ _ _ _ _ hat
        have hk := Fo.at_allK F j hat HK.out
        have HR := Lib.hid hrel
        obtain ⟨cur, bs, ho, hown, hnd, hb⟩ := hrel
        have hrr := rangeAt_below hb hrr
        have c0 : wr.cell? ⟨b, o + j * 5, none⟩ = some (.int .i64 op) := hrr 0 _ rfl
        have c1 : wr.cell? ⟨b, o + j * 5 + 1, none⟩ = some (.int .i64 wd) := hrr 1 _ rfl
        have c2 : wr.cell? ⟨b, o + j * 5 + 2, none⟩ = some (.int .i64 nn) := hrr 2 _ rfl
        have c3 : wr.cell? ⟨b, o + j * 5 + 3, none⟩ = some (.string nm) := hrr 3 _ rfl
        have c4 : wr.cell? ⟨b, o + j * 5 + 4, none⟩ = some v := hrr 4 _ rfl
        have SO := Lib.hid (to_one hk op wd nn nm v wr (his.below hb) (by omega))
        have HO := Lib.hid ho
        have HB := Lib.hid hb
        have HAT := Lib.hid hat
        have hki : (j : Int) < (n : Int) := by omega
        unfold To1End at SO
        clear hb hrr hat his hk hkn ho hown hnd
        go_wp2_with (go_at_call 44; refine (SO.out).mono ?_; rintro e w1 ⟨g, rfl, ⟨b1, hh, hd⟩, hb1⟩; have HO1 := Lib.hid (own_keep HO.out hb1); have HSTEP := Lib.hid (to_step HAT.out HL.out HR.out hb1 hh hd); obtain ⟨a0, a1, a2, a3, a4, ⟨t0, t1, t2, t3, t4⟩, f0, f1, f2, f3, f4⟩ := there5 (own_there HO1.out (j * 5) 5 (by omega)); clear hh hd hb1)
        go_roundw
        case rel => exact ⟨j + 1, by omega, by go_num, HSTEP.out⟩
        case measure => simp [intOf]; omega
      · have ej : j = n := by omega
        subst ej
        have HR := Lib.hid hrel
        clear hrel
        go_wp2
        go_ret
        obtain ⟨cur, bs, ho, hown, hnd, hb⟩ := HR.out
        rw [← HL.out, Fo.take_all, List.take_of_length_le (by rw [ho.1, HL.out]; exact Nat.le_refl _)] at hown
        have hne : w.heap.size ∉ bs := fun hm => by have := hown.lt _ hm; omega
        exact ⟨w.heap.size, rfl, ⟨_, ⟨cur, bs, ho, hown.down (by omega), rfl⟩, by simpa [Value.ownBlock] using ⟨hne, hnd⟩⟩, hb⟩
theorem to_any : ∀ F : Fo, ToC F := Fo.every to_loop
end Go.Proofs.YthmababifgaejaaGreatDoor
