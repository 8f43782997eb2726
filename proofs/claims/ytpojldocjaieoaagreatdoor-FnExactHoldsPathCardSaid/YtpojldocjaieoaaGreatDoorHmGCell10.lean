/- Boxes of 10 cells: what is known of them. No condition. The budget that the laws pay for a term: szTerm and szTermS. -/
import Derived.Test.YtpojldocjaieoaaGreatDoorHmGFlInt
import Derived.Test.YtpojldocjaieoaaGreatDoorRows
import Derived.Test.YtpojldocjaieoaaGreatDoorHmGFlat
import Derived.WalkKit
import Derived.ProofKit
import Derived.OpenShut
import Derived.Handy
import Derived.Lib.Hide
import Derived.Below
import Derived.IntWalk
import Derived.WalkLawsBesides
import Derived.Deep.QuietTactic
import Derived.BigQuiet
import Derived.OwnWalk
import Derived.Laws.OwnMore
import Derived.Deep.OwnRows
import Derived.Deep.MidRow
import Derived.WalkSmall
namespace Go.Proofs.YtpojldocjaieoaaGreatDoor
open Go.ChangeShapes Go.WideShapes Go.ChangeAt Go.RowKit
def Cell10 (w : World) (b : Nat) (c0 c1 c2 c3 c4 c5 c6 c7 c8 c9 : Value) : Prop := w.cell? ⟨b, 0, none⟩ = some c0 ∧ w.cell? ⟨b, 1, none⟩ = some c1 ∧ w.cell? ⟨b, 2, none⟩ = some c2 ∧ w.cell? ⟨b, 3, none⟩ = some c3 ∧ w.cell? ⟨b, 4, none⟩ = some c4 ∧ w.cell? ⟨b, 5, none⟩ = some c5 ∧ w.cell? ⟨b, 6, none⟩ = some c6 ∧ w.cell? ⟨b, 7, none⟩ = some c7 ∧ w.cell? ⟨b, 8, none⟩ = some c8 ∧ w.cell? ⟨b, 9, none⟩ = some c9
theorem Cell10.below {w w' : World} {b : Nat} {c0 c1 c2 c3 c4 c5 c6 c7 c8 c9 : Value} (h : Cell10 w b c0 c1 c2 c3 c4 c5 c6 c7 c8 c9) (hb : Below w.heap.size w w') : Cell10 w' b c0 c1 c2 c3 c4 c5 c6 c7 c8 c9 := by
  obtain ⟨h0, h1, h2, h3, h4, h5, h6, h7, h8, h9⟩ := h
  have hl := World.block_lt_of_cell? w _ h0
  have e : ∀ o, w'.cell? ⟨b, o, none⟩ = w.cell? ⟨b, o, none⟩ := fun o => hb.cell (p := ⟨b, o, none⟩) hl
  exact ⟨(e 0).trans h0, (e 1).trans h1, (e 2).trans h2, (e 3).trans h3, (e 4).trans h4, (e 5).trans h5, (e 6).trans h6, (e 7).trans h7, (e 8).trans h8, (e 9).trans h9⟩
theorem cell10_alloc (w : World) (T : TypeId) (c0 c1 c2 c3 c4 c5 c6 c7 c8 c9 : Value) : Cell10 (w.alloc (.cells #[c0, c1, c2, c3, c4, c5, c6, c7, c8, c9] T)) w.heap.size c0 c1 c2 c3 c4 c5 c6 c7 c8 c9 := by
  have h : ∀ j, (w.alloc (.cells #[c0, c1, c2, c3, c4, c5, c6, c7, c8, c9] T)).cell? ⟨w.heap.size, j, none⟩ = #[c0, c1, c2, c3, c4, c5, c6, c7, c8, c9][j]? := fun j => cell_of_row _ w.heap.size j _ T (0, 0) (heap_alloc_new w _)
  exact ⟨h 0, h 1, h 2, h 3, h 4, h 5, h 6, h 7, h 8, h 9⟩
theorem cell10_row {w : World} {b : Nat} {T : TypeId} {c0 c1 c2 c3 c4 c5 c6 c7 c8 c9 : Value} (h : w.heap[b]? = some (.cells #[c0, c1, c2, c3, c4, c5, c6, c7, c8, c9] T (0, 0))) : Cell10 w b c0 c1 c2 c3 c4 c5 c6 c7 c8 c9 := ⟨cell_of_row w b 0 _ _ _ h, cell_of_row w b 1 _ _ _ h, cell_of_row w b 2 _ _ _ h, cell_of_row w b 3 _ _ _ h, cell_of_row w b 4 _ _ _ h, cell_of_row w b 5 _ _ _ h, cell_of_row w b 6 _ _ _ h, cell_of_row w b 7 _ _ _ h, cell_of_row w b 8 _ _ _ h, cell_of_row w b 9 _ _ _ h⟩
theorem froz10_row {w : World} {b : Nat} {T : TypeId} {c0 c1 c2 c3 c4 c5 c6 c7 c8 c9 : Value} (h : w.heap[b]? = some (.cells #[c0, c1, c2, c3, c4, c5, c6, c7, c8, c9] T (0, 0))) : w.frozen? ⟨b, 0, none⟩ = false ∧ w.frozen? ⟨b, 1, none⟩ = false ∧ w.frozen? ⟨b, 2, none⟩ = false ∧ w.frozen? ⟨b, 3, none⟩ = false ∧ w.frozen? ⟨b, 4, none⟩ = false ∧ w.frozen? ⟨b, 5, none⟩ = false ∧ w.frozen? ⟨b, 6, none⟩ = false ∧ w.frozen? ⟨b, 7, none⟩ = false ∧ w.frozen? ⟨b, 8, none⟩ = false ∧ w.frozen? ⟨b, 9, none⟩ = false := ⟨frozen_of_row w b 0 _ _ h, frozen_of_row w b 1 _ _ h, frozen_of_row w b 2 _ _ h, frozen_of_row w b 3 _ _ h, frozen_of_row w b 4 _ _ h, frozen_of_row w b 5 _ _ h, frozen_of_row w b 6 _ _ h, frozen_of_row w b 7 _ _ h, frozen_of_row w b 8 _ _ h, frozen_of_row w b 9 _ _ h⟩
set_option maxHeartbeats 4000000 in
theorem set10_row {w : World} {b : Nat} {T : TypeId} {c0 c1 c2 c3 c4 c5 c6 c7 c8 c9 : Value} (h : w.heap[b]? = some (.cells #[c0, c1, c2, c3, c4, c5, c6, c7, c8, c9] T (0, 0))) (v0 v1 v2 v3 v4 v5 v6 v7 v8 v9 : Value) : ((((((((((w.setCell ⟨b, 0, none⟩ v0).setCell ⟨b, 1, none⟩ v1).setCell ⟨b, 2, none⟩ v2).setCell ⟨b, 3, none⟩ v3).setCell ⟨b, 4, none⟩ v4).setCell ⟨b, 5, none⟩ v5).setCell ⟨b, 6, none⟩ v6).setCell ⟨b, 7, none⟩ v7).setCell ⟨b, 8, none⟩ v8).setCell ⟨b, 9, none⟩ v9).heap[b]? = some (.cells #[v0, v1, v2, v3, v4, v5, v6, v7, v8, v9] T (0, 0)) := by
  have h1 : (w.setCell ⟨b, 0, none⟩ v0).heap[b]? = some (.cells #[v0, c1, c2, c3, c4, c5, c6, c7, c8, c9] T (0, 0)) := heap_setCell_same w b 0 _ _ _ h
  have h2 : ((w.setCell ⟨b, 0, none⟩ v0).setCell ⟨b, 1, none⟩ v1).heap[b]? = some (.cells #[v0, v1, c2, c3, c4, c5, c6, c7, c8, c9] T (0, 0)) := heap_setCell_same (w.setCell ⟨b, 0, none⟩ v0) b 1 _ _ _ h1
  have h3 : (((w.setCell ⟨b, 0, none⟩ v0).setCell ⟨b, 1, none⟩ v1).setCell ⟨b, 2, none⟩ v2).heap[b]? = some (.cells #[v0, v1, v2, c3, c4, c5, c6, c7, c8, c9] T (0, 0)) := heap_setCell_same ((w.setCell ⟨b, 0, none⟩ v0).setCell ⟨b, 1, none⟩ v1) b 2 _ _ _ h2
  have h4 : ((((w.setCell ⟨b, 0, none⟩ v0).setCell ⟨b, 1, none⟩ v1).setCell ⟨b, 2, none⟩ v2).setCell ⟨b, 3, none⟩ v3).heap[b]? = some (.cells #[v0, v1, v2, v3, c4, c5, c6, c7, c8, c9] T (0, 0)) := heap_setCell_same (((w.setCell ⟨b, 0, none⟩ v0).setCell ⟨b, 1, none⟩ v1).setCell ⟨b, 2, none⟩ v2) b 3 _ _ _ h3
  have h5 : (((((w.setCell ⟨b, 0, none⟩ v0).setCell ⟨b, 1, none⟩ v1).setCell ⟨b, 2, none⟩ v2).setCell ⟨b, 3, none⟩ v3).setCell ⟨b, 4, none⟩ v4).heap[b]? = some (.cells #[v0, v1, v2, v3, v4, c5, c6, c7, c8, c9] T (0, 0)) := heap_setCell_same ((((w.setCell ⟨b, 0, none⟩ v0).setCell ⟨b, 1, none⟩ v1).setCell ⟨b, 2, none⟩ v2).setCell ⟨b, 3, none⟩ v3) b 4 _ _ _ h4
  have h6 : ((((((w.setCell ⟨b, 0, none⟩ v0).setCell ⟨b, 1, none⟩ v1).setCell ⟨b, 2, none⟩ v2).setCell ⟨b, 3, none⟩ v3).setCell ⟨b, 4, none⟩ v4).setCell ⟨b, 5, none⟩ v5).heap[b]? = some (.cells #[v0, v1, v2, v3, v4, v5, c6, c7, c8, c9] T (0, 0)) := heap_setCell_same (((((w.setCell ⟨b, 0, none⟩ v0).setCell ⟨b, 1, none⟩ v1).setCell ⟨b, 2, none⟩ v2).setCell ⟨b, 3, none⟩ v3).setCell ⟨b, 4, none⟩ v4) b 5 _ _ _ h5
  have h7 : (((((((w.setCell ⟨b, 0, none⟩ v0).setCell ⟨b, 1, none⟩ v1).setCell ⟨b, 2, none⟩ v2).setCell ⟨b, 3, none⟩ v3).setCell ⟨b, 4, none⟩ v4).setCell ⟨b, 5, none⟩ v5).setCell ⟨b, 6, none⟩ v6).heap[b]? = some (.cells #[v0, v1, v2, v3, v4, v5, v6, c7, c8, c9] T (0, 0)) := heap_setCell_same ((((((w.setCell ⟨b, 0, none⟩ v0).setCell ⟨b, 1, none⟩ v1).setCell ⟨b, 2, none⟩ v2).setCell ⟨b, 3, none⟩ v3).setCell ⟨b, 4, none⟩ v4).setCell ⟨b, 5, none⟩ v5) b 6 _ _ _ h6
  have h8 : ((((((((w.setCell ⟨b, 0, none⟩ v0).setCell ⟨b, 1, none⟩ v1).setCell ⟨b, 2, none⟩ v2).setCell ⟨b, 3, none⟩ v3).setCell ⟨b, 4, none⟩ v4).setCell ⟨b, 5, none⟩ v5).setCell ⟨b, 6, none⟩ v6).setCell ⟨b, 7, none⟩ v7).heap[b]? = some (.cells #[v0, v1, v2, v3, v4, v5, v6, v7, c8, c9] T (0, 0)) := heap_setCell_same (((((((w.setCell ⟨b, 0, none⟩ v0).setCell ⟨b, 1, none⟩ v1).setCell ⟨b, 2, none⟩ v2).setCell ⟨b, 3, none⟩ v3).setCell ⟨b, 4, none⟩ v4).setCell ⟨b, 5, none⟩ v5).setCell ⟨b, 6, none⟩ v6) b 7 _ _ _ h7
  have h9 : (((((((((w.setCell ⟨b, 0, none⟩ v0).setCell ⟨b, 1, none⟩ v1).setCell ⟨b, 2, none⟩ v2).setCell ⟨b, 3, none⟩ v3).setCell ⟨b, 4, none⟩ v4).setCell ⟨b, 5, none⟩ v5).setCell ⟨b, 6, none⟩ v6).setCell ⟨b, 7, none⟩ v7).setCell ⟨b, 8, none⟩ v8).heap[b]? = some (.cells #[v0, v1, v2, v3, v4, v5, v6, v7, v8, c9] T (0, 0)) := heap_setCell_same ((((((((w.setCell ⟨b, 0, none⟩ v0).setCell ⟨b, 1, none⟩ v1).setCell ⟨b, 2, none⟩ v2).setCell ⟨b, 3, none⟩ v3).setCell ⟨b, 4, none⟩ v4).setCell ⟨b, 5, none⟩ v5).setCell ⟨b, 6, none⟩ v6).setCell ⟨b, 7, none⟩ v7) b 8 _ _ _ h8
  have h10 : ((((((((((w.setCell ⟨b, 0, none⟩ v0).setCell ⟨b, 1, none⟩ v1).setCell ⟨b, 2, none⟩ v2).setCell ⟨b, 3, none⟩ v3).setCell ⟨b, 4, none⟩ v4).setCell ⟨b, 5, none⟩ v5).setCell ⟨b, 6, none⟩ v6).setCell ⟨b, 7, none⟩ v7).setCell ⟨b, 8, none⟩ v8).setCell ⟨b, 9, none⟩ v9).heap[b]? = some (.cells #[v0, v1, v2, v3, v4, v5, v6, v7, v8, v9] T (0, 0)) := heap_setCell_same (((((((((w.setCell ⟨b, 0, none⟩ v0).setCell ⟨b, 1, none⟩ v1).setCell ⟨b, 2, none⟩ v2).setCell ⟨b, 3, none⟩ v3).setCell ⟨b, 4, none⟩ v4).setCell ⟨b, 5, none⟩ v5).setCell ⟨b, 6, none⟩ v6).setCell ⟨b, 7, none⟩ v7).setCell ⟨b, 8, none⟩ v8) b 9 _ _ _ h9
  exact h10
theorem set10_below {base : Nat} {w0 w : World} {b : Nat} (h : Below base w0 w) (hb : base ≤ b) (v0 v1 v2 v3 v4 v5 v6 v7 v8 v9 : Value) : Below base w0 ((((((((((w.setCell ⟨b, 0, none⟩ v0).setCell ⟨b, 1, none⟩ v1).setCell ⟨b, 2, none⟩ v2).setCell ⟨b, 3, none⟩ v3).setCell ⟨b, 4, none⟩ v4).setCell ⟨b, 5, none⟩ v5).setCell ⟨b, 6, none⟩ v6).setCell ⟨b, 7, none⟩ v7).setCell ⟨b, 8, none⟩ v8).setCell ⟨b, 9, none⟩ v9) := (Below.setCell (Below.setCell (Below.setCell (Below.setCell (Below.setCell (Below.setCell (Below.setCell (Below.setCell (Below.setCell (Below.setCell h hb v0) hb v1) hb v2) hb v3) hb v4) hb v5) hb v6) hb v7) hb v8) hb v9)
theorem set10_heap (w : World) (b k : Nat) (hk : k ≠ b) (v0 v1 v2 v3 v4 v5 v6 v7 v8 v9 : Value) : ((((((((((w.setCell ⟨b, 0, none⟩ v0).setCell ⟨b, 1, none⟩ v1).setCell ⟨b, 2, none⟩ v2).setCell ⟨b, 3, none⟩ v3).setCell ⟨b, 4, none⟩ v4).setCell ⟨b, 5, none⟩ v5).setCell ⟨b, 6, none⟩ v6).setCell ⟨b, 7, none⟩ v7).setCell ⟨b, 8, none⟩ v8).setCell ⟨b, 9, none⟩ v9).heap[k]? = w.heap[k]? := by
  rw [heap_setCell_other _ _ _ _ hk, heap_setCell_other _ _ _ _ hk, heap_setCell_other _ _ _ _ hk, heap_setCell_other _ _ _ _ hk, heap_setCell_other _ _ _ _ hk, heap_setCell_other _ _ _ _ hk, heap_setCell_other _ _ _ _ hk, heap_setCell_other _ _ _ _ hk, heap_setCell_other _ _ _ _ hk, heap_setCell_other _ _ _ _ hk]
end Go.Proofs.YtpojldocjaieoaaGreatDoor
namespace Go.Proofs.YtpojldocjaieoaaGreatDoor
open Go.ChangeShapes Go.WideShapes Go.ChangeAt Go.RowKit
/-- the budget of a slice of nodes -/
def SzC (F : Fo) : Prop := ∀ (v : Value) (l : Nat) (w : World), l ≤ 1048576 → (F.cs 77).Is w 0 5 F.len v → F.Ok → F.len ≤ maxLen → Calls Tryz.prog 24 #[v, .int .i64 l] w fun e w' => e = .returned (.int .i64 (left l F.cost)) ∧ Below w.heap.size w w'
set_option maxRecDepth 100000 in
set_option maxHeartbeats 1000000 in
theorem sz_one {k : Fo} (hk : SzC k) (op wd n : Int) (nm : ByteArray) (s : Value) (l : Nat) (w : World) (hl : l ≤ 1048576) (hs : (k.cs 77).Is w 0 5 k.len s) (hok : Fo.OneOk op wd n nm k) :
    Calls Tryz.prog 44 #[.agg #[.int .i64 op, .int .i64 wd, .int .i64 n, .string nm, s], .int .i64 l] w fun e w' => e = .returned (.int .i64 (left l (nm.size + k.cost))) ∧ Below w.heap.size w w' := by
  obtain ⟨_, hnm, hkl, hkok⟩ := hok
  have hml : maxLen = 9223372036854775807 := rfl
  have HS := Lib.hid hs
  obtain ⟨_, ⟨_, q, cap, rfl, _⟩, _⟩ := hs
  by_cases h1 : nm.size ≤ l
  · have hc := fun W' (hb : Below w.heap.size w W') => hk _ (l - nm.size) W' (by omega) (HS.out.below hb) hkok hkl
    have HC := Lib.hid hc
    have hcast : ((l - nm.size : Nat) : Int) = (l : Int) - nm.size := by omega
    rw [hcast] at HC
    clear hc hk HS
    go_enter Tryz.func44, Tryz.ntmps44
    have hlo : 0 ≤ (l : Int) - nm.size := by omega
    by_cases h2 : k.cost ≤ l - nm.size
    · have he : left (l - nm.size) k.cost = (l : Int) - nm.size - k.cost := by unfold left; rw [if_pos h2, hcast]
      have he2 : left l (nm.size + k.cost) = (l : Int) - nm.size - k.cost := by unfold left; rw [if_pos (by omega)]; omega
      rw [he] at HC
      rw [he2]
      have hlo2 : 0 ≤ (l : Int) - nm.size - k.cost := by omega
      clear he he2 hcast
      go_wp2_with (go_at_call 24; refine (HC.out _ ((Below.refl _ _).alloc (Nat.le_refl _) _)).mono ?_; rintro e w1 ⟨rfl, hb1⟩)
      go_ret
      exact ⟨rfl, ((Below.refl _ _).alloc (Nat.le_refl _) _).trans (hb1.mono (by simp))⟩
    · have he : left (l - nm.size) k.cost = -1 := by unfold left; rw [if_neg h2]
      have he2 : left l (nm.size + k.cost) = -1 := by unfold left; rw [if_neg (by omega)]
      rw [he] at HC
      rw [he2]
      clear he he2 hcast
      go_wp2_with (go_at_call 24; refine (HC.out _ ((Below.refl _ _).alloc (Nat.le_refl _) _)).mono ?_; rintro e w1 ⟨rfl, hb1⟩)
      go_ret
      exact ⟨rfl, ((Below.refl _ _).alloc (Nat.le_refl _) _).trans (hb1.mono (by simp))⟩
  · have he2 : left l (nm.size + k.cost) = -1 := by unfold left; rw [if_neg (by omega)]
    have hlo : (l : Int) - nm.size < 0 := by omega
    rw [he2]
    clear he2 hk HS
    go_enter Tryz.func44, Tryz.ntmps44
    go_wp2
    go_ret
    exact ⟨rfl, (Below.refl _ _).alloc (Nat.le_refl _) _⟩
set_option maxRecDepth 100000 in
set_option maxHeartbeats 1000000 in
theorem sz_loop (F : Fo) (hF : F.AllK SzC) : SzC F := by
  intro v l w hl hv hok hlen
  have hml : maxLen = 9223372036854775807 := rfl
  have hce := F.cost_eq
  rcases Fo.is_cases hv with ⟨h0, q, cap, rfl⟩ | ⟨hpos, b, o, cap, ys, rfl, hc1, hc2, _, hbl, hvs, hr⟩
  · have hr0 : F.rest = 0 := by cases F with | nil => rfl | cons => simp [Fo.len] at h0
    have hfin : left l F.cost = (l : Int) := by
      unfold left
      rw [if_pos (by omega)]
      omega
    rw [hfin]
    have hlo : ¬ ((l : Int) < 0) := by omega
    clear hF hfin hv hce h0 hr0 hok hlen
    go_enter Tryz.func24, Tryz.ntmps24
    go_wp2
    refine wp_loop_rounds 1 ?_
    rw [rounds_succ]
    go_wp2
    go_ret
    exact ⟨rfl, Below.refl _ _⟩
  · by_cases h1 : F.len ≤ l
    · have HI := Lib.hid (fun j (hj : j < F.len) => Fo.nth F hvs hr j hj)
      have HP := Lib.hid F.paid_all
      have HCE := Lib.hid hce
      have HK := Lib.hid hF
      have HOK := Lib.hid hok
      clear hok hF hce hv hvs hr
      have hlo : 0 ≤ (l : Int) - F.len := by omega
      go_enter Tryz.func24, Tryz.ntmps24
      go_wp2
      go_loopw [1, 5] (fun lf i wr => ∃ (j p : Nat), j ≤ F.len ∧ i = .int .i64 j ∧ p = F.paid j ∧ p + F.len ≤ l ∧ lf = .int .i64 ((l : Int) - F.len - p) ∧ Below w.heap.size w wr) (fun _ i _ => F.len - (intOf i).toNat)
      case atStart => exact ⟨0, 0, Nat.zero_le _, rfl, F.paid_zero.symm, by omega, by simp, Below.refl _ _⟩
      case round =>
        obtain ⟨j, p, hj, rfl, hp, hpl, rfl, hb⟩ := hrel
        by_cases hjn : j < F.len
        · obtain ⟨op, wd, n, nm, k, v, hat, his, hrr⟩ := HI.out j hjn
          obtain ⟨hp1, hp2⟩ := Fo.at_paid F j hat
          have hok1 := Fo.at_ok F j hat HOK.out
          have hk := Fo.at_allK F j hat HK.out
          have hrr := rangeAt_below hb hrr
          have c0 : wr.cell? ⟨b, o + j * 5, none⟩ = some (.int .i64 op) := hrr 0 _ rfl
          have c1 : wr.cell? ⟨b, o + j * 5 + 1, none⟩ = some (.int .i64 wd) := hrr 1 _ rfl
          have c2 : wr.cell? ⟨b, o + j * 5 + 2, none⟩ = some (.int .i64 n) := hrr 2 _ rfl
          have c3 : wr.cell? ⟨b, o + j * 5 + 3, none⟩ = some (.string nm) := hrr 3 _ rfl
          have c4 : wr.cell? ⟨b, o + j * 5 + 4, none⟩ = some v := hrr 4 _ rfl
          have SO := Lib.hid (fun W (hW : Below w.heap.size w W) => sz_one hk op wd n nm v (l - F.len - p) W (by omega) (his.below hW) hok1)
          have hcast : ((l - F.len - p : Nat) : Int) = (l : Int) - F.len - p := by omega
          rw [hcast] at SO
          have HB := Lib.hid hb
          have HP1 := Lib.hid (And.intro hp1 (And.intro hp2 hp))
          have hki : (j : Int) < (F.len : Int) := by omega
          clear hb hrr hat his hok1 hk hp1 hp2 hp hcast
          by_cases h2 : nm.size + k.cost ≤ l - F.len - p
          · have he : left (l - F.len - p) (nm.size + k.cost) = (l : Int) - F.len - p - (nm.size + k.cost : Nat) := by unfold left; rw [if_pos h2]; omega
            rw [he] at SO
            have hnn : 0 ≤ (l : Int) - F.len - p - (nm.size + k.cost : Nat) := by omega
            clear he
            go_wp2_with (go_at_call 44; refine (SO.out _ HB.out).mono ?_; rintro e w1 ⟨rfl, hb1⟩)
            go_roundw
            case rel =>
              obtain ⟨e1, e2, e3⟩ := HP1.out
              exact ⟨j + 1, p + (nm.size + k.cost), by omega, by go_num, by omega, by omega, by go_num, HB.out.trans (hb1.mono HB.out.size)⟩
            case measure => simp [intOf]; omega
          · have he : left (l - F.len - p) (nm.size + k.cost) = -1 := by unfold left; rw [if_neg h2]
            have hfin : left l F.cost = -1 := by
              obtain ⟨e1, e2, e3⟩ := HP1.out
              have := HCE.out
              unfold left
              rw [if_neg (by omega)]
            rw [he] at SO
            clear he
            go_wp2_with (go_at_call 44; refine (SO.out _ HB.out).mono ?_; rintro e w1 ⟨rfl, hb1⟩)
            go_ret
            rw [hfin]
            exact ⟨rfl, HB.out.trans (hb1.mono HB.out.size)⟩
        · have ej : j = F.len := by omega
          have hfin : left l F.cost = (l : Int) - F.len - p := by
            have e1 := HP.out
            have e2 := HCE.out
            unfold left
            rw [← ej, ← hp] at e1
            rw [if_pos (by omega)]
            omega
          have HB := Lib.hid hb
          have hnj : ¬ ((j : Int) < (F.len : Int)) := by omega
          clear hb hp
          go_wp2
          go_ret
          exact ⟨rfl, HB.out⟩
    · have hfin : left l F.cost = -1 := by unfold left; rw [if_neg (by omega)]
      have hlo : (l : Int) - F.len < 0 := by omega
      clear hF hce hv hvs hr hok
      go_enter Tryz.func24, Tryz.ntmps24
      go_wp2
      go_ret
      exact ⟨by first | rfl | (rw [hfin]; rfl), Below.refl _ _⟩
/-- the budget of a slice of nodes, for every such slice -/
theorem sz_any : ∀ F : Fo, SzC F := Fo.every sz_loop
end Go.Proofs.YtpojldocjaieoaaGreatDoor
