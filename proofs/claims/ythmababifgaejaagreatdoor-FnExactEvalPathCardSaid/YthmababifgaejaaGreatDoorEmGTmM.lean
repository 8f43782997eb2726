/- The model of lists of terms of one width that are valid. No condition. What the specification's l06Terms returns. No condition. Slices of Ins: their rows, how they come in, and what the laws do with them: sz, to, eq. No condition. The model of what is a program of the machine: kinds of operands, forms of instructions, programs. No condition. -/
import Derived.Test.YthmababifgaejaaGreatDoorEmGAddVar
import Derived.Test.YthmababifgaejaaGreatDoorRows
import Derived.Test.YthmababifgaejaaGreatDoorEmGCs
import Derived.WalkKit
import Derived.ProofKit
import Derived.OpenShut
import Derived.Handy
import Derived.Lib.Hide
import Derived.Below
import Derived.IntWalk
import Derived.WalkLawsBesides
import Derived.Deep.QuietTactic
import Derived.BigQuiet
import Derived.OwnWalk
import Derived.Laws.OwnMore
import Derived.Deep.OwnRows
import Derived.Deep.MidRow
import Derived.WalkSmall
import Derived.StillTailTactics
import Derived.KernelRfl
import Derived.Outline
import Derived.Test.YthmababifgaejaaGreatDoorEmGWk
namespace Go.Proofs.YthmababifgaejaaGreatDoor
open Go.ChangeShapes Go.WideShapes Go.ChangeAt Go.RowKit
/-- one term is valid -/
noncomputable def tkB (op wd n : Int) (nm : ByteArray) (k : Fo) : Bool := (accOne op wd n nm k 0 []).isSome
/-- all terms are valid and have a width -/
noncomputable def tmB : Fo → Int → Bool
  | .nil, _ => true
  | .cons op wd n nm k r, w => (decide (wd = w) && tkB op wd n nm k) && tmB r w
theorem tm_take : ∀ (F : Fo) (j : Nat) {op wd n w : Int} {nm : ByteArray} {k : Fo}, F.At j op wd n nm k → tmB (F.take (j + 1)) w = (tmB (F.take j) w && (decide (wd = w) && tkB op wd n nm k))
  | .nil, _, _, _, _, _, _, _, h => h.elim
  | .cons _ _ _ _ _ _, 0, _, _, _, _, _, _, ⟨rfl, rfl, rfl, rfl, rfl⟩ => by simp [Fo.take, Fo.take_zero, tmB]
  | .cons _ _ _ _ _ r, j + 1, _, _, _, _, _, _, h => by
    simp only [Fo.take, tmB]
    rw [tm_take r j h, ← Bool.and_assoc]
theorem tm_bad : ∀ (F : Fo) (j : Nat) {op wd n w : Int} {nm : ByteArray} {k : Fo}, F.At j op wd n nm k → (decide (wd = w) && tkB op wd n nm k) = false → tmB F w = false
  | .nil, _, _, _, _, _, _, _, h, _ => h.elim
  | .cons _ _ _ _ _ _, 0, _, _, _, _, _, _, ⟨rfl, rfl, rfl, rfl, rfl⟩, hb => by simp only [tmB, hb, Bool.false_and]
  | .cons _ _ _ _ _ r, j + 1, _, _, _, _, _, _, h, hb => by
    simp only [tmB, tm_bad r j h hb, Bool.and_false]
theorem tm_zero (F : Fo) (w : Int) : tmB (F.take 0) w = true := by rw [Fo.take_zero]; rfl
/-- what a node at an index costs -/
theorem at_cost : ∀ (F : Fo) (j : Nat) {op wd n : Int} {nm : ByteArray} {k : Fo}, F.At j op wd n nm k → nm.size + k.cost ≤ F.cost
  | .nil, _, _, _, _, _, _, h => h.elim
  | .cons _ _ _ _ _ r, 0, _, _, _, _, _, ⟨rfl, rfl, rfl, rfl, rfl⟩ => by simp only [Fo.cost]; omega
  | .cons _ _ _ _ _ r, j + 1, _, _, _, _, _, h => by have := at_cost r j h; simp only [Fo.cost]; omega
end Go.Proofs.YthmababifgaejaaGreatDoor
namespace Go.Proofs.YthmababifgaejaaGreatDoor
open Go.ChangeShapes Go.WideShapes Go.ChangeAt Go.RowKit
set_option maxRecDepth 100000 in
set_option maxHeartbeats 4000000 in
theorem s_terms (F : Fo) (vw : Int) (v : Value) (w : World) (hv : (F.cs 64).Is w 0 5 F.len v) (hc : F.cost ≤ 1048576) :
    Calls Tryz.prog 58 #[v, .int .i64 vw] w fun e w' => e = .returned (.bool (tmB F vw)) ∧ Below w.heap.size w w' := by
  have hml : maxLen = 9223372036854775807 := rfl
  have hFn := F.nodes_le
  have hFl := F.len_le
  rcases Fo.is_cases hv with ⟨h0, q, cap, rfl⟩ | ⟨hpos, b, o, cap, ys, rfl, hc1, hc2, _, hbl, hvs, hr⟩
  · have hF : F = .nil := by cases F with | nil => rfl | cons => simp [Fo.len] at h0
    subst hF
    clear hv h0 hc hFn hFl
    go_enter Tryz.func58, Tryz.ntmps58
    go_wp2
    refine wp_loop_rounds 1 ?_
    rw [rounds_succ]
    go_wp2
    go_ret
    exact ⟨rfl, Below.refl _ _⟩
  · have HI := Lib.hid (fun j (hj : j < F.len) => Fo.nth F hvs hr j hj)
    have HC := Lib.hid hc
    clear hv hvs hr
    go_enter Tryz.func58, Tryz.ntmps58
    go_wp2
    go_loopw [9] (fun i wr => ∃ j : Nat, j ≤ F.len ∧ i = .int .i64 j ∧ tmB (F.take j) vw = true ∧ Below w.heap.size w wr) (fun i _ => F.len - (intOf i).toNat)
    case atStart => exact ⟨0, Nat.zero_le _, rfl, tm_zero F vw, Below.refl _ _⟩
    case round =>
      obtain ⟨j, hj, rfl, ht, hb⟩ := hrel
      have HT := Lib.hid ht
      have HB := Lib.hid hb
      have hsr := hb.size
      by_cases hjn : j < F.len
      · obtain ⟨op, wd, n, nm, k, sv, hat, his, hrr⟩ := HI.out j hjn
        have hcst := at_cost F j hat
        have HTT := Lib.hid (tm_take F j (w := vw) hat)
        have HTB := Lib.hid (tm_bad F j (w := vw) hat)
        have hrr := rangeAt_below hb hrr
        have c0 : wr.cell? ⟨b, o + j * 5, none⟩ = some (.int .i64 op) := hrr 0 _ rfl
        have c1 : wr.cell? ⟨b, o + j * 5 + 1, none⟩ = some (.int .i64 wd) := hrr 1 _ rfl
        have c2 : wr.cell? ⟨b, o + j * 5 + 2, none⟩ = some (.int .i64 n) := hrr 2 _ rfl
        have c3 : wr.cell? ⟨b, o + j * 5 + 3, none⟩ = some (.string nm) := hrr 3 _ rfl
        have c4 : wr.cell? ⟨b, o + j * 5 + 4, none⟩ = some sv := hrr 4 _ rfl
        have hji : (j : Int) < (F.len : Int) := by omega
        have HIS := Lib.hid his
        have hbw : b < wr.heap.size := by omega
        clear his hat hrr ht hb
        obtain ⟨_, ⟨_, sq, sc, rfl, _⟩, _⟩ := HIS.out
        obtain ⟨w1, hw1⟩ : ∃ W, W = wr.alloc (.cells #[.int .i64 op, .int .i64 wd, .int .i64 n, .string nm, .slice sq k.len sc] 64) := ⟨_, rfl⟩
        have hb1 : Below wr.heap.size wr w1 := by rw [hw1]; exact (Below.refl _ _).alloc (Nat.le_refl _) _
        have HB1 := Lib.hid (HB.out.trans (hb1.mono hsr))
        have XB1 := Lib.hid (show w1.heap[wr.heap.size]? = some (.cells #[.int .i64 op, .int .i64 wd, .int .i64 n, .string nm, .slice sq k.len sc] 64 (0, 0)) by rw [hw1]; exact heap_alloc_new _ _)
        have KT := Lib.hid (s_termok k op wd n nm (.slice sq k.len sc) w1 (HIS.out.below HB1.out) (by omega) (by omega))
        have hs1 := HB1.out.size
        clear hb1
        go_wp2_with fail
        rw [← hw1]
        clear hw1 c0 c1 c2 c3 c4
        refine KT.out.mono ?_
        rintro e w2 ⟨rfl, hb2⟩
        have HB2 := Lib.hid (HB1.out.trans (hb2.mono hs1))
        have XB2 := Lib.hid ((hb2.block wr.heap.size ((Array.getElem?_eq_some_iff.1 XB1.out).1)).trans XB1.out)
        clear hb2
        obtain ⟨d1, hd1⟩ : ∃ d, (accOne op wd n nm k 0 []).isSome = d := ⟨_, rfl⟩
        unfold tkB at HTT HTB
        rw [hd1] at HTT HTB ⊢
        clear hd1
        have y1 : w2.cell? ⟨wr.heap.size, 1, none⟩ = some (.int .i64 wd) := cell_of_row w2 wr.heap.size 1 _ _ _ XB2.out
        cases d1
        case false =>
          have HV := Lib.hid (HTB.out (by simp))
          go_wp2
          go_ret
          rw [HV.out]
          exact ⟨rfl, HB2.out⟩
        case true =>
          by_cases hwd : wd = vw
          case neg =>
            have HV := Lib.hid (HTB.out (by rw [decide_eq_false hwd]; rfl))
            have hne : (wd == vw) = false := by simpa using hwd
            go_wp2
            go_ret
            rw [HV.out]
            exact ⟨rfl, HB2.out⟩
          case pos =>
            have HN := Lib.hid (show tmB (F.take (j + 1)) vw = true by rw [HTT.out, HT.out, decide_eq_true hwd]; rfl)
            clear HTT HTB
            subst hwd
            go_wp2
            go_roundw
            case rel => exact ⟨j + 1, by omega, by go_num, HN.out, HB2.out⟩
            case measure => simp [intOf]; omega
      · have ej : j = F.len := by omega
        have hji : ¬ ((j : Int) < (F.len : Int)) := by omega
        have HV := Lib.hid (show tmB F vw = true by rw [← F.take_all, ← ej]; exact HT.out)
        go_wp2
        go_ret
        rw [HV.out]
        exact ⟨rfl, HB.out⟩
end Go.Proofs.YthmababifgaejaaGreatDoor
namespace Go.Proofs.YthmababifgaejaaGreatDoor
open Go.ChangeShapes Go.WideShapes Go.ChangeAt Go.RowKit
structure InsR where
  f0 : Int
  f1 : Int
  f2 : Int
  f3 : Int
namespace InsR
def cells (r : InsR) : List Value := [.int .i64 r.f0, .int .i64 r.f1, .int .i64 r.f2, .int .i64 r.f3]
def Ok (r : InsR) : Prop := (-9223372036854775808 ≤ r.f0 ∧ r.f0 ≤ 9223372036854775807) ∧ (-9223372036854775808 ≤ r.f1 ∧ r.f1 ≤ 9223372036854775807) ∧ (-9223372036854775808 ≤ r.f2 ∧ r.f2 ≤ 9223372036854775807) ∧ (-9223372036854775808 ≤ r.f3 ∧ r.f3 ≤ 9223372036854775807)
def cost (_ : InsR) : Nat := 0
theorem len (r : InsR) : r.cells.length = 4 := rfl
/-- the cells of a list -/
def all (L : List InsR) : List Value := L.flatMap cells
def costs (L : List InsR) : Nat := (L.map fun r => 1 + r.cost).sum
theorem costs_take (L : List InsR) (j : Nat) (h : j < L.length) : costs (L.take (j + 1)) = costs (L.take j) + (1 + L[j].cost) := by
  unfold costs
  rw [List.take_succ_eq_append_getElem h, List.map_append, List.sum_append]
  simp
theorem len_le (L : List InsR) : L.length ≤ costs L := by
  unfold costs
  induction L with
  | nil => simp
  | cons r L ih => simp only [List.map_cons, List.sum_cons, List.length_cons]; omega
theorem costs_le (L : List InsR) (j : Nat) : costs (L.take j) + (L.length - j) ≤ costs L := by
  have h : costs L = costs (L.take j) + costs (L.drop j) := by
    unfold costs
    rw [← List.sum_append, ← List.map_append, List.take_append_drop]
  have h2 := len_le (L.drop j)
  rw [List.length_drop] at h2
  omega
theorem cost_lt (L : List InsR) (j : Nat) (h : j < L.length) : L[j].cost < costs L := by
  have h1 := costs_take L j h
  have h2 := costs_le L (j + 1)
  omega
end InsR
open InsR (all costs)
theorem zero_Ins : (Tryz.prog.info? 82).map (fun i => (i.zero, i.size, i.bytes)) = some (some (.agg #[.int .i64 0, .int .i64 0, .int .i64 0, .int .i64 0]), 4, 32) := by kernel_rfl
section
variable {H : Type} {enc : TypeId × Value → H} {w : World} {base b0 : Nat} {spare : Nat → Bool} {held : Bool} {r : Reach}
theorem plain_Ins : [84, 22, 3, 9].all (Cs.plainAt Tryz.prog [84, 22, 3, 9]) = true := by kernel_rfl
set_option maxRecDepth 100000 in
theorem ty_Ins (m : Nat) (C : Cs) (h : Cs.Ty Tryz.prog m 84 C) : ∃ r : InsR, C = Cs.flat r.cells ∧ r.Ok := by
  cases m with
  | zero => exact h.elim
  | succ m =>
    unfold Cs.Ty at h
    rw [Tryz.underlying84] at h
    simp only [List.map, Cs.Fields] at h
    obtain ⟨c0, _, rfl, g0, c1, _, rfl, g1, c2, _, rfl, g2, c3, _, rfl, g3, rfl⟩ := h
    obtain ⟨z0, rfl, w0⟩ := Fo.ty_int Tryz.underlying3 g0
    obtain ⟨z1, rfl, w1⟩ := Fo.ty_int Tryz.underlying3 g1
    obtain ⟨z2, rfl, w2⟩ := Fo.ty_int Tryz.underlying3 g2
    obtain ⟨z3, rfl, w3⟩ := Fo.ty_int Tryz.underlying3 g3
    exact ⟨⟨z0, z1, z2, z3⟩, rfl, w0, w1, w2, w3⟩
set_option maxRecDepth 100000 in
theorem tys_Ins (m : Nat) (C : Cs) (h : Cs.Ty Tryz.prog m 22 C) : ∃ L : List InsR, C = .sl 84 4 L.length (Cs.flat (all L)) .nil ∧ (∀ r ∈ L, r.Ok) ∧ L.length ≤ maxLen := by
  cases m with
  | zero => exact h.elim
  | succ m =>
    unfold Cs.Ty at h
    rw [Tryz.underlying22] at h
    dsimp only at h
    have hC : Tryz.prog.cellsOf 84 = 4 := by kernel_rfl
    rw [hC] at h
    obtain ⟨n, k, rfl, hn, hr⟩ := h
    have key : ∀ (n : Nat) (k : Cs), Cs.Rows (Cs.Ty Tryz.prog m 84) n k → ∃ L : List InsR, L.length = n ∧ k = Cs.flat (all L) ∧ ∀ r ∈ L, r.Ok := by
      intro n
      induction n with
      | zero => rintro k rfl; exact ⟨[], rfl, rfl, fun r h => by cases h⟩
      | succ n ihn =>
        rintro k ⟨c, q, rfl, hc, hq⟩
        obtain ⟨r, rfl, hok⟩ := ty_Ins m _ hc
        obtain ⟨L, rfl, rfl, hL⟩ := ihn _ hq
        exact ⟨r :: L, rfl, by rw [← Cs.flat_app]; rfl, fun x hx => (List.mem_cons.1 hx).elim (fun e => by rw [e]; exact hok) (hL x)⟩
    obtain ⟨L, rfl, rfl, hL⟩ := key n k hr
    exact ⟨L, rfl, hL, hn⟩
set_option maxRecDepth 100000 in
/-- a slice of them as an argument -/
theorem open_Inss {v : Value} {d : DataW H} {p : List MemPlace} (hv : Value.okWide Tryz.prog w r b0 22 v) (h : DataW.Trod enc Tryz.prog w base spare held 22 v d p) :
    ∃ L : List InsR, Cs.Shows w base 4 v L.length (all L) ∧ (∀ r ∈ L, r.Ok) ∧ L.length ≤ maxLen := by
  obtain ⟨a, l, c, rfl⟩ := okWide_slice Tryz.underlying22 hv
  have hin : ∀ t ∈ [84, 22], t ∈ [84, 22, 3, 9] := by decide
  obtain ⟨m, C, h1, h2⟩ := Cs.open_arg (t := 22) plain_Ins (hin _ (List.mem_cons_of_mem _ (List.mem_cons_self ..))) h
  obtain ⟨L, rfl, hok, hl⟩ := tys_Ins m C h2
  obtain ⟨s, xs, e, ⟨ys, hs, hys⟩, _⟩ := Cs.vs_sl.1 h1
  have e : [Value.slice a l c] = s :: xs := e
  obtain ⟨rfl, rfl⟩ := List.cons.inj e
  rw [Cs.flat_vs.1 hys] at hs
  exact ⟨L, hs, hok, hl⟩
end
theorem InsR.costs_len (L : List InsR) : costs L = L.length := by
  unfold costs
  induction L with
  | nil => rfl
  | cons r L ih => simp only [List.map_cons, List.sum_cons, List.length_cons, ih]; unfold InsR.cost; omega
set_option maxRecDepth 100000 in
theorem sz_Ins (L : List InsR) (v : Value) (l : Nat) (w : World) (hl : l ≤ 1048576) (hv : Cs.Shows w 0 4 v L.length (all L)) (_hok : ∀ r ∈ L, r.Ok) (hlen : L.length ≤ maxLen) :
    Calls Tryz.prog 20 #[v, .int .i64 l] w fun e w' => e = .returned (.int .i64 (left l (costs L))) ∧ Below w.heap.size w w' := by
  have hml : maxLen = 9223372036854775807 := rfl
  rw [InsR.costs_len]
  obtain ⟨_, q, cap, rfl, _⟩ := hv
  clear _hok
  generalize L.length = n at *
  by_cases h : n ≤ l
  · have he : left l n = (l : Int) - n := by unfold left; rw [if_pos h]
    rw [he]
    have hlo : 0 ≤ (l : Int) - n := by omega
    clear he
    go_enter Tryz.func20, Tryz.ntmps20
    go_wp2
    go_ret
    exact ⟨rfl, Below.refl _ _⟩
  · have he : left l n = -1 := by unfold left; rw [if_neg h]
    rw [he]
    have hlo : (l : Int) - n < 0 := by omega
    clear he
    go_enter Tryz.func20, Tryz.ntmps20
    go_wp2
    go_ret
    exact ⟨rfl, Below.refl _ _⟩
set_option maxRecDepth 100000 in
theorem eq_Ins_one (r : InsR) (w : World) :
    Calls Tryz.prog 53 #[.agg #[.int .i64 r.f0, .int .i64 r.f1, .int .i64 r.f2, .int .i64 r.f3], .agg #[.int .i64 r.f0, .int .i64 r.f1, .int .i64 r.f2, .int .i64 r.f3]] w fun e w' => e = .returned (.bool true) ∧ Below w.heap.size w w' := by
  go_enter Tryz.func53, Tryz.ntmps53
  go_wp2
  go_ret
  exact ⟨rfl, ((Below.refl _ _).alloc (Nat.le_refl _) _).alloc (by simp) _⟩
set_option maxRecDepth 100000 in
set_option maxHeartbeats 1000000 in
theorem eq_Ins (L : List InsR) (v1 v2 : Value) (w : World) (h1 : Cs.Shows w 0 4 v1 L.length (all L)) (h2 : Cs.Shows w 0 4 v2 L.length (all L)) (hn : L.length ≤ 2097152) :
    Calls Tryz.prog 33 #[v1, v2] w fun e w' => e = .returned (.bool true) ∧ Below w.heap.size w w' := by
  rcases Cs.shows_cases h1 with ⟨h0, q1, cap1, rfl⟩ | ⟨hpos, b1, o1, cap1, rfl, _, _, _, hr1⟩
  · obtain ⟨_, q2, cap2, rfl, _⟩ := h2
    rw [h0]
    clear hn h0 h1
    go_enter Tryz.func33, Tryz.ntmps33
    go_wp2
    refine wp_loop_rounds 1 ?_
    rw [rounds_succ]
    go_wp2
    go_ret
    exact ⟨rfl, Below.refl _ _⟩
  · rcases Cs.shows_cases h2 with ⟨h0, _⟩ | ⟨_, b2, o2, cap2, rfl, _, _, _, hr2⟩
    · omega
    have HR1 := Lib.hid hr1
    have HR2 := Lib.hid hr2
    clear h1 h2 hr1 hr2
    go_enter Tryz.func33, Tryz.ntmps33
    go_wp2
    go_loopw [5] (fun i wr => ∃ (j : Nat), j ≤ L.length ∧ i = .int .i64 j ∧ Below w.heap.size w wr) (fun i _ => L.length - (intOf i).toNat)
    case atStart => exact ⟨0, Nat.zero_le _, rfl, Below.refl _ _⟩
    case round =>
      obtain ⟨j, hj, rfl, hb⟩ := hrel
      by_cases hjn : j < L.length
      · have hrr1 := rangeAt_below hb (flat_nth InsR.cells 4 (fun r => rfl) L j hjn HR1.out)
        have hrr2 := rangeAt_below hb (flat_nth InsR.cells 4 (fun r => rfl) L j hjn HR2.out)
        generalize L[j] = r at *
        have c0 : wr.cell? ⟨b1, o1 + j * 4, none⟩ = some (.int .i64 r.f0) := hrr1 0 _ rfl
        have c1 : wr.cell? ⟨b1, o1 + j * 4 + 1, none⟩ = some (.int .i64 r.f1) := hrr1 1 _ rfl
        have c2 : wr.cell? ⟨b1, o1 + j * 4 + 2, none⟩ = some (.int .i64 r.f2) := hrr1 2 _ rfl
        have c3 : wr.cell? ⟨b1, o1 + j * 4 + 3, none⟩ = some (.int .i64 r.f3) := hrr1 3 _ rfl
        have d0 : wr.cell? ⟨b2, o2 + j * 4, none⟩ = some (.int .i64 r.f0) := hrr2 0 _ rfl
        have d1 : wr.cell? ⟨b2, o2 + j * 4 + 1, none⟩ = some (.int .i64 r.f1) := hrr2 1 _ rfl
        have d2 : wr.cell? ⟨b2, o2 + j * 4 + 2, none⟩ = some (.int .i64 r.f2) := hrr2 2 _ rfl
        have d3 : wr.cell? ⟨b2, o2 + j * 4 + 3, none⟩ = some (.int .i64 r.f3) := hrr2 3 _ rfl
        have HB := Lib.hid hb
        have hki : (j : Int) < (L.length : Int) := by omega
        clear hb hrr1 hrr2
        go_wp2
        go_still_tail 8, (by kernel_rfl)
        go_wp2_with (go_at_call 53; refine (eq_Ins_one r _).mono ?_; rintro e w1 ⟨rfl, hb1⟩)
        go_roundw
        case rel => exact ⟨j + 1, by omega, by go_num, HB.out.drew.trans (hb1.mono HB.out.drew.size)⟩
        case measure => simp [intOf]; omega
      · have HB := Lib.hid hb
        have hnj : ¬ ((j : Int) < (L.length : Int)) := by omega
        clear hb
        go_wp2
        go_ret
        exact ⟨rfl, HB.out⟩
set_option maxRecDepth 100000 in
theorem to_Ins_one (r : InsR) (w : World) :
    Calls Tryz.prog 43 #[.agg #[.int .i64 r.f0, .int .i64 r.f1, .int .i64 r.f2, .int .i64 r.f3]] w fun e w' => e = .returned (.agg #[.int .i64 r.f0, .int .i64 r.f1, .int .i64 r.f2, .int .i64 r.f3]) ∧ Below w.heap.size w w' := by
  go_enter Tryz.func43, Tryz.ntmps43
  go_wp2
  refine bodyPost_ret (v := .agg #[.int .i64 r.f0, .int .i64 r.f1, .int .i64 r.f2, .int .i64 r.f3]) (by simp [results, Tryz.results43, go_sem]) rfl ⟨rfl, ?_⟩
  repeat (first | refine Below.setCell ?_ (by first | (simp; done) | (simp; omega)) _ | refine Below.alloc ?_ (by first | (simp; done) | (simp; omega)) _ | exact Below.refl _ _)
/-- the copy of a slice of them -/
def ToInsEnd (L : List InsR) (w : World) (e : Ending) (w' : World) : Prop := ∃ g, e = .returned (.slice (some ⟨g, 0, none⟩) L.length L.length) ∧ w'.ownsRow w.heap.size 82 4 (.slice (some ⟨g, 0, none⟩) L.length L.length) L.length (all L) ∧ Below w.heap.size w w'
def ToInsRel (L : List InsR) (w : World) (n j : Nat) (wr : World) : Prop := ∃ cur, wr.ownsRow w.heap.size 82 4 (.slice (some ⟨w.heap.size, 0, none⟩) n n) n cur ∧ cur.take (j * 4) = all (L.take j) ∧ Below w.heap.size w wr
theorem to_Ins_step {L : List InsR} {w wr w1 : World} {n j : Nat} (hj : j < L.length) (hn : L.length = n) (hr : ToInsRel L w n j wr) (hb : Below wr.heap.size wr w1) : ToInsRel L w n (j + 1) (w1.setCells w.heap.size (j * 4) L[j].cells) := by
  obtain ⟨cur, ho, hc, hbw⟩ := hr
  have ho1 := own_keep ho hb
  have hlt : w.heap.size < wr.heap.size := (ho.lt w.heap.size rfl).2
  have hlen := ho.1
  refine ⟨_, own_put L[j].cells (j * 4) w1 cur ho1, ?_, below_setCells (Nat.le_refl _) _ _ (hbw.trans (hb.mono (by omega)))⟩
  rw [putAt_take cur (j * 4) L[j].cells ((j + 1) * 4) (by rw [InsR.len]; omega) (by omega), hc]
  unfold all
  rw [List.take_succ_eq_append_getElem hj, List.flatMap_append]
  simp
set_option maxRecDepth 100000 in
set_option maxHeartbeats 1000000 in
theorem to_Ins (L : List InsR) (v : Value) (w : World) (hv : Cs.Shows w 0 4 v L.length (all L)) (hn : L.length ≤ 1048576) : Calls Tryz.prog 26 #[v] w (ToInsEnd L w) := by
  have hml : maxLen = 9223372036854775807 := rfl
  obtain ⟨i0, hi, hz0, hz1, hz2⟩ := info_parts zero_Ins
  unfold ToInsEnd
  rcases Cs.shows_cases hv with ⟨h0, q, cap, rfl⟩ | ⟨hpos, b, o, cap, rfl, _, _, _, hr⟩
  · have hL : L = [] := List.length_eq_zero_iff.1 h0
    subst hL
    clear hv hn h0
    go_enter Tryz.func26, Tryz.ntmps26
    go_wp2_with (refine wpList_make_full _ rfl _ _ 35 rfl w.heap.size 82 i0 (.agg #[.int .i64 0, .int .i64 0, .int .i64 0, .int .i64 0]) 4 Tryz.underlying35 hi hz0 hz1 .i64 .i64 _ _ 0 rfl rfl rfl rfl (by rw [hz2]; omega) (by unfold maxLen; omega) (Nat.le_refl _) ?_; intro w1 hown hgrow; have hb1 := (Below.refl w.heap.size w).grown hgrow (Nat.le_refl _) (fun k e => by cases e); have HO := Lib.hid hown; have HB1 := Lib.hid hb1; clear hown hgrow hb1)
    refine wp_loop_rounds 1 ?_
    rw [rounds_succ]
    go_wp2
    go_ret
    refine ⟨w.heap.size, rfl, ?_, HB1.out⟩
    have h := HO.out
    have e := List.length_eq_zero_iff.1 (h.1.trans (Nat.zero_mul _))
    rw [e] at h
    exact h
  · have HR := Lib.hid hr
    clear hv hr
    generalize hlen : L.length = n at *
    have HL := Lib.hid hlen
    have HI := Lib.hid (fun j (h : j < n) => show j < L.length by rw [hlen]; exact h)
    clear hlen
    go_enter Tryz.func26, Tryz.ntmps26
    go_wp2_with (refine wpList_make_full _ rfl _ _ 35 rfl w.heap.size 82 i0 (.agg #[.int .i64 0, .int .i64 0, .int .i64 0, .int .i64 0]) 4 Tryz.underlying35 hi hz0 hz1 .i64 .i64 _ _ n rfl rfl rfl rfl (by rw [hz2]; omega) (by unfold maxLen; omega) (Nat.le_refl _) ?_; intro w1 hown hgrow; have hb1 := (Below.refl w.heap.size w).grown hgrow (Nat.le_refl _) (fun k e => by cases e); have HO := Lib.hid hown; have HB1 := Lib.hid hb1; clear hown hgrow hb1)
    go_loopw [4] (fun i wr => ∃ (j : Nat), j ≤ n ∧ i = .int .i64 j ∧ ToInsRel L w n j wr) (fun i _ => n - (intOf i).toNat)
    case atStart => exact ⟨0, Nat.zero_le _, rfl, _, HO.out, by simp [all], HB1.out⟩
    case round =>
      obtain ⟨j, hj, rfl, hrel⟩ := hrel
      by_cases hjn : j < n
      · have hjl := HI.out j hjn
        have HSTEP := Lib.hid (fun w1 (hb : Below wr.heap.size wr w1) => to_Ins_step hjl HL.out hrel hb)
        have HRO := Lib.hid (rangeAt_below (show Below w.heap.size w wr from by obtain ⟨_, _, _, h⟩ := hrel; exact h) (flat_nth InsR.cells 4 (fun r => rfl) L j hjl HR.out))
        obtain ⟨cur, ho, _, _⟩ := hrel
        have HO := Lib.hid ho
        have hrr := HRO.out
        generalize L[j] = r at *
        have c0 : wr.cell? ⟨b, o + j * 4, none⟩ = some (.int .i64 r.f0) := hrr 0 _ rfl
        have c1 : wr.cell? ⟨b, o + j * 4 + 1, none⟩ = some (.int .i64 r.f1) := hrr 1 _ rfl
        have c2 : wr.cell? ⟨b, o + j * 4 + 2, none⟩ = some (.int .i64 r.f2) := hrr 2 _ rfl
        have c3 : wr.cell? ⟨b, o + j * 4 + 3, none⟩ = some (.int .i64 r.f3) := hrr 3 _ rfl
        have hki : (j : Int) < (n : Int) := by omega
        clear hrr ho hjl HRO
        go_wp2_with (go_at_call 43; refine (to_Ins_one r _).mono ?_; rintro e w1 ⟨rfl, hb1⟩; have HST := Lib.hid (HSTEP.out _ hb1); have HO1 := Lib.hid (own_keep HO.out hb1); obtain ⟨a0, a1, a2, a3, ⟨t0, t1, t2, t3⟩, u0, u1, u2, u3⟩ := there4 (own_there HO1.out (j * 4) 4 (by omega)); clear hb1)
        go_roundw
        case rel => exact ⟨j + 1, by omega, by go_num, HST.out⟩
        case measure => simp [intOf]; omega
      · have ej : j = n := by omega
        subst ej
        have HR := Lib.hid hrel
        clear hrel
        go_wp2
        go_ret
        obtain ⟨cur, ho, hc, hb⟩ := HR.out
        rw [← HL.out, List.take_length, List.take_of_length_le (by rw [ho.1, HL.out]; exact Nat.le_refl _)] at hc
        rw [hc] at ho
        exact ⟨w.heap.size, rfl, ho, hb⟩
end Go.Proofs.YthmababifgaejaaGreatDoor
namespace Go.Proofs.YthmababifgaejaaGreatDoor
open Go.ChangeShapes Go.WideShapes Go.ChangeAt Go.RowKit
/-- an operand of a kind: 1 a register, 2 a word, 3 a place, 4 an operation, else nothing -/
def opB (o n w size : Int) : Bool := if o = 1 then decide (0 ≤ n) && decide (n ≤ 3) else if o = 2 then wkB w n else if o = 3 then decide (0 ≤ n) && decide (n ≤ size) else if o = 4 then decide (3 ≤ n) && decide (n ≤ 16) else decide (n = 0)
def fA (op : Int) : Int := if op = 9 ∨ op = 11 ∨ op = 12 ∨ op = 14 then 0 else 1
def fB (op : Int) : Int := if op = 1 then 2 else if op = 2 ∨ op = 3 ∨ op = 7 ∨ op = 8 then 1 else if op = 9 ∨ op = 10 ∨ op = 11 then 3 else 0
def fC (op : Int) : Int := if op = 3 then 4 else 0
def fL (op : Int) : Bool := decide (op = 9 ∨ op = 12 ∨ op = 14)
/-- the instruction can be in a program of a width and a size -/
def insB (r : InsR) (w size : Int) : Bool := decide (1 ≤ r.f0 ∧ r.f0 ≤ 14) && (opB (fA r.f0) r.f1 w size && (opB (fB r.f0) r.f2 w size && opB (fC r.f0) r.f3 w size))
/-- the program is one -/
def prB (vw vm vi : Int) (L : List InsR) : Bool := decide (2 ≤ vw ∧ vw ≤ 8 ∧ 1 ≤ vm ∧ vm ≤ 6 ∧ wkB vw vm = true ∧ 0 ≤ vi ∧ vi ≤ 3 ∧ 1 ≤ L.length ∧ L.length ≤ 40) && L.all fun r => insB r vw L.length
theorem opB_reg (n w size : Int) : opB 1 n w size = (decide (0 ≤ n) && decide (n ≤ 3)) := rfl
theorem opB_word (n w size : Int) : opB 2 n w size = wkB w n := rfl
theorem opB_place (n w size : Int) : opB 3 n w size = (decide (0 ≤ n) && decide (n ≤ size)) := rfl
theorem opB_oper (n w size : Int) : opB 4 n w size = (decide (3 ≤ n) && decide (n ≤ 16)) := rfl
theorem opB_none (n w size : Int) : opB 0 n w size = decide (n = 0) := rfl
theorem op_cases (op : Int) : op = 1 ∨ op = 2 ∨ op = 3 ∨ op = 4 ∨ op = 5 ∨ op = 6 ∨ op = 7 ∨ op = 8 ∨ op = 9 ∨ op = 10 ∨ op = 11 ∨ op = 12 ∨ op = 13 ∨ op = 14 ∨ (op < 1 ∨ 14 < op) := by omega
theorem ins_out {r : InsR} {w size : Int} (h : r.f0 < 1 ∨ 14 < r.f0) : insB r w size = false := by
  unfold insB
  rw [decide_eq_false (by omega)]
  rfl
theorem ins_in {r : InsR} {w size : Int} (h1 : 1 ≤ r.f0) (h2 : r.f0 ≤ 14) : insB r w size = (opB (fA r.f0) r.f1 w size && (opB (fB r.f0) r.f2 w size && opB (fC r.f0) r.f3 w size)) := by
  unfold insB
  rw [decide_eq_true ⟨h1, h2⟩]
  rfl
theorem pr_out {vw vm vi : Int} {L : List InsR} (h : ¬ (2 ≤ vw ∧ vw ≤ 8 ∧ 1 ≤ vm ∧ vm ≤ 6 ∧ wkB vw vm = true ∧ 0 ≤ vi ∧ vi ≤ 3 ∧ 1 ≤ L.length ∧ L.length ≤ 40)) : prB vw vm vi L = false := by
  unfold prB
  rw [decide_eq_false h]
  rfl
theorem pr_bad {vw vm vi : Int} {L : List InsR} {j : Nat} (hj : j < L.length) (h : insB L[j] vw L.length = false) : prB vw vm vi L = false := by
  unfold prB
  rw [Bool.and_eq_false_iff]
  refine .inr (Bool.eq_false_iff.2 fun hh => ?_)
  have := List.all_eq_true.1 hh _ (List.getElem_mem hj)
  rw [h] at this
  cases this
theorem pr_ok {vw vm vi : Int} {L : List InsR} (h1 : 2 ≤ vw) (h2 : vw ≤ 8) (h3 : 1 ≤ vm) (h4 : vm ≤ 6) (h5 : wkB vw vm = true) (h6 : 0 ≤ vi) (h7 : vi ≤ 3) (h8 : 1 ≤ L.length) (h9 : L.length ≤ 40) (h : ∀ j (hj : j < L.length), insB L[j] vw L.length = true) : prB vw vm vi L = true := by
  unfold prB
  rw [decide_eq_true ⟨h1, h2, h3, h4, h5, h6, h7, h8, h9⟩, Bool.true_and, List.all_eq_true]
  intro r hr
  obtain ⟨j, hj, rfl⟩ := List.getElem_of_mem hr
  exact h j hj
theorem pr_in {vw vm vi : Int} {L : List InsR} (h : prB vw vm vi L = true) : (2 ≤ vw ∧ vw ≤ 8 ∧ 1 ≤ vm ∧ vm ≤ 6 ∧ wkB vw vm = true ∧ 0 ≤ vi ∧ vi ≤ 3 ∧ 1 ≤ L.length ∧ L.length ≤ 40) ∧ ∀ j (hj : j < L.length), insB L[j] vw L.length = true := by
  unfold prB at h
  rw [Bool.and_eq_true] at h
  exact ⟨of_decide_eq_true h.1, fun j hj => List.all_eq_true.1 h.2 _ (List.getElem_mem hj)⟩
end Go.Proofs.YthmababifgaejaaGreatDoor
