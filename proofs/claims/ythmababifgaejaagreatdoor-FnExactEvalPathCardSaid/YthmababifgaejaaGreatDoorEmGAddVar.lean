/- addVar, walked. accepts: the check of a term, node by node. checkTerm, TermOk and VarsOf of the program. l02Node, whole: whether a node and all below it fit. The specification's TermOk and VarsOf, and that they say what the program's check says. -/
import Derived.Test.YthmababifgaejaaGreatDoorEmAdd
import Derived.Test.YthmababifgaejaaGreatDoorEmFits
import Derived.Deep.RegionWith
import Derived.Test.YthmababifgaejaaGreatDoorEmNodeOk
import Derived.Test.YthmababifgaejaaGreatDoorEmNodeA
import Derived.Test.YthmababifgaejaaGreatDoorEmNodeD
import Derived.Test.YthmababifgaejaaGreatDoorEmVarsAll
import Derived.Test.YthmababifgaejaaGreatDoorEmGWk
namespace Go.Proofs.YthmababifgaejaaGreatDoor
open Go.ChangeShapes Go.WideShapes Go.ChangeAt Go.RowKit
open ValueR (all costs)
/-- what a check has seen: how many nodes, and the variables -/
def StAt (B bc c : Nat) (V : List ValueR) (w : World) : Prop := ∃ vv, w.heap[bc]? = some (.cells #[.int .i64 c, vv] 133 (0, 0)) ∧ w.ownsRow B 79 3 vv V.length (all V) ∧ bc ∉ vv.ownBlock.toList ∧ Asc V ∧ B ≤ bc
theorem StAt.keep {B bc c : Nat} {V : List ValueR} {w w' : World} (h : StAt B bc c V w) (hb : Below w.heap.size w w') : StAt B bc c V w' := by
  obtain ⟨vv, h1, h2, h3, h4, h5⟩ := h
  exact ⟨vv, by rw [hb.block bc (Array.getElem?_eq_some_iff.1 h1).1]; exact h1, own_keep h2 hb, h3, h4, h5⟩
def AddEnd (B bc c : Nat) (V : List ValueR) (nm : ByteArray) (wd : Int) (w : World) (e : Ending) (w' : World) : Prop := Below B w w' ∧ match addV V nm wd with
  | some V' => e = .returned (.bool true) ∧ StAt B bc c V' w'
  | none => e = .returned (.bool false)
set_option maxRecDepth 100000 in
set_option maxHeartbeats 2000000 in
theorem add_there (B bc c : Nat) (V : List ValueR) (op wd n : Int) (nm : ByteArray) (s : Value) (w : World) (hst : StAt B bc c V w) (hB : B ≤ w.heap.size) (hn : V.length ≤ 1048575) (hat : isAt V nm = true) :
    Calls Tryz.prog 134 #[.pointer (some ⟨bc, 0, none⟩), .agg #[.int .i64 op, .int .i64 wd, .int .i64 n, .string nm, s]] w (AddEnd B bc c V nm wd w) := by
  have HST := Lib.hid hst
  obtain ⟨vv, hbk, hown, hno, hasc, hbc⟩ := hst
  have hbs : bc < w.heap.size := (Array.getElem?_eq_some_iff.1 hbk).1
  have f0 : w.cell? ⟨bc, 0, none⟩ = some (.int .i64 c) := cell_of_row w bc 0 _ _ _ hbk
  have f1 : w.cell? ⟨bc, 1, none⟩ = some vv := cell_of_row w bc 1 _ _ _ hbk
  obtain ⟨r, hr, hrn⟩ : ∃ r, V[pos V nm]? = some r ∧ r.f0 = nm := by
    unfold isAt at hat
    split at hat
    · rename_i r hr; exact ⟨r, hr, of_decide_eq_true hat⟩
    · cases hat
  have hpl := (List.getElem?_eq_some_iff.1 hr).1
  obtain ⟨g, cap, rfl, hgw, hcap⟩ : ∃ g cap, vv = .slice (some ⟨g, 0, none⟩) V.length cap ∧ g < w.heap.size ∧ V.length ≤ cap := by
    rcases hown.2 with ⟨_, h⟩ | ⟨g, cap, cur, rfl, _, h3, h4, _⟩
    · omega
    · exact ⟨g, cap, rfl, (Array.getElem?_eq_some_iff.1 h3).1, h4⟩
  have hcellr : ∀ j, j < 3 → w.cell? ⟨g, pos V nm * 3 + j, none⟩ = r.cells[j]? := fun j hj => by
    rw [hown.cellAt _ (by omega)]
    have h1 := all_drop V (pos V nm) (by omega)
    have h2 : V.drop (pos V nm) = r :: V.drop (pos V nm + 1) := by
      rw [List.drop_eq_getElem_cons hpl, (List.getElem?_eq_some_iff.1 hr).2]
    rw [← List.getElem?_drop, ← h1, h2]
    exact List.getElem?_append_left (by show j < 3; exact hj)
  have c1 : w.cell? ⟨g, pos V nm * 3 + 1, none⟩ = some (.int .i64 r.f1) := hcellr 1 (by omega)
  have KS := Lib.hid (fun W hW => search_value V (.slice (some ⟨g, 0, none⟩) V.length cap) nm W hW (by omega) hasc)
  have HV : Hid (Cs.Shows w 0 3 (.slice (some ⟨g, 0, none⟩) V.length cap) V.length (all V)) := Lib.hid ((Cs.shows_of_owns hown).down (Nat.zero_le _))
  have HRES : Hid (AddEnd B bc c V nm wd w = fun e w' => Below B w w' ∧ if r.f1 = wd then e = .returned (.bool true) ∧ StAt B bc c V w' else e = .returned (.bool false)) := Lib.hid (by
    funext e w'
    unfold AddEnd addV
    rw [if_pos hat, hr]
    dsimp only
    by_cases h : r.f1 = wd
    · rw [if_pos h, if_pos h]
    · rw [if_neg h, if_neg h])
  rw [hat] at KS
  generalize pos V nm = p at *
  have hpp : (p : Int) < (V.length : Int) := by omega
  clear hown hasc hr hrn hcellr hat hbk hno hbc
  generalize hL : V.length = m at *
  clear hL
  go_enter Tryz.func134, Tryz.ntmps134
  go_wp2
  have X0 := Lib.hid (cell5_alloc w 64 (.int .i64 op) (.int .i64 wd) (.int .i64 n) (.string nm) s)
  go_region_with (go_at_call 51; refine (KS.out _ (HV.out.below ((Below.refl _ _).alloc (Nat.le_refl _) _).drew)).mono ?_; rintro e w1 ⟨rfl, hb1⟩; have HB1 := Lib.hid (((Below.refl w.heap.size w).alloc (Nat.le_refl _) _).drew.trans (hb1.mono (by simp))); obtain ⟨x0, x1, x2, x3, x4⟩ := (X0.out.below (Below.refl _ _).drew).below hb1; have y1 := (HB1.out.cell (p := ⟨bc, 1, none⟩) hbs).trans f1; have y2 := (HB1.out.cell (p := ⟨g, p * 3 + 1, none⟩) hgw).trans c1; clear hb1)
  all_goals
    go_wp2
    go_region
    go_wp2
    go_ret
    have hbw := HB1.out.drew
    refine (congrFun (congrFun HRES.out _) _).mpr ⟨hbw.mono hB, ?_⟩
    have hx := HST.out.keep hbw
    by_cases h : r.f1 = wd
    · rw [if_pos h, h]; exact ⟨by simp, hx⟩
    · rw [if_neg h]; simp [h]
/-- what Insert gives addVar -/
theorem insert_st {B bc c : Nat} {V V' : List ValueR} {q : Option Addr} {cap : Nat} {nm : ByteArray} {wd : Int} {w : World} (hn : V.length ≤ 1048575) (hB : B ≤ w.heap.size) (hbk : w.heap[bc]? = some (.cells #[.int .i64 c, .slice q V.length cap] 133 (0, 0))) (hown : w.ownsRow B 79 3 (.slice q V.length cap) V.length (all V))
    (hno : bc ∉ (Value.slice q V.length cap).ownBlock.toList) (hbc : B ≤ bc) (hasc : Asc V) (hat : isAt V nm = false) (hV' : V.take (pos V nm) ++ ⟨nm, wd, 0⟩ :: V.drop (pos V nm) = V')
    (W : World) (hW : Below w.heap.size w W) (g0 : Nat) (hg0 : w.heap.size ≤ g0) (hr : W.heap[g0]? = some (.cells #[.string nm, .int .i64 wd, .int .i64 0] 79 (0, 0))) :
    Calls Tryz.prog 144 #[.slice q V.length cap, .int .i64 (pos V nm : Nat), .slice (some ⟨g0, 0, none⟩) 1 1] W fun e w2 => ∃ q2 cap2, e = .returned (.slice q2 (V.length + 1) cap2) ∧ w2.cell? ⟨bc, 1, none⟩ = some (.slice q V.length cap) ∧ w2.frozen? ⟨bc, 1, none⟩ = false ∧
      StAt B bc c V' (w2.setCell ⟨bc, 1, none⟩ (.slice q2 (V.length + 1) cap2)) ∧ Below B w (w2.setCell ⟨bc, 1, none⟩ (.slice q2 (V.length + 1) cap2)) := by
  have hbs : bc < w.heap.size := (Array.getElem?_eq_some_iff.1 hbk).1
  have hsz := hW.size
  refine (insert_any V ⟨nm, wd, 0⟩ B g0 (pos V nm) (.slice q V.length cap) W (by omega) (pos_le V nm) (own_keep hown hW) (by omega) hr (fun h => by have := (own_lt hown h).2; omega)).mono ?_
  rintro e w2 ⟨v2, rfl, hown2, hbel2, hap2⟩
  have hadd : addV V nm wd = some V' := by unfold addV; rw [if_neg (by rw [hat]; simp), hV']
  have z0 := (hap2.block bc (by omega) hno).trans ((hW.block bc hbs).trans hbk)
  have hlen : V'.length = V.length + 1 := by
    have := pos_le V nm
    rw [← hV']
    simp only [List.length_append, List.length_take, List.length_cons, List.length_drop]
    omega
  have hv2 : ∃ q2 cap2, v2 = .slice q2 (V.length + 1) cap2 ∧ bc ∉ (Value.slice q2 (V.length + 1) cap2).ownBlock.toList := by
    rcases hown2.2 with ⟨_, h⟩ | ⟨g, cap3, cur, rfl, _, h3, _⟩
    · omega
    · refine ⟨_, _, rfl, fun h => ?_⟩
      have e : bc = g := by simpa [Value.ownBlock] using h
      subst e
      rw [z0] at h3
      injection h3 with h3
      injection h3 with _ h3
      exact absurd h3 (by decide)
  obtain ⟨q2, cap2, rfl, hno2⟩ := hv2
  rw [hV'] at hown2
  refine ⟨q2, cap2, rfl, cell_of_row w2 bc 1 _ _ _ z0, frozen_of_row w2 bc 1 _ _ z0, ⟨_, heap_setCell_same w2 bc 1 _ _ _ z0, ?_, hno2, addV_asc hasc hadd, hbc⟩, ((hW.mono hB).trans hbel2).setCell hbc _⟩
  rw [hlen]
  exact own_same hown2 fun g hg => heap_setCell_other w2 _ g _ (fun e => hno2 (by rw [← show g = bc from e]; exact hg))
set_option maxRecDepth 100000 in
set_option maxHeartbeats 2000000 in
theorem add_new (B bc c : Nat) (V : List ValueR) (op wd n : Int) (nm : ByteArray) (s : Value) (w : World) (hst : StAt B bc c V w) (hB : B ≤ w.heap.size) (hn : V.length ≤ 1048575) (hat : isAt V nm = false) :
    Calls Tryz.prog 134 #[.pointer (some ⟨bc, 0, none⟩), .agg #[.int .i64 op, .int .i64 wd, .int .i64 n, .string nm, s]] w (AddEnd B bc c V nm wd w) := by
  obtain ⟨vv, hbk, hown, hno, hasc, hbc⟩ := hst
  have hbs : bc < w.heap.size := (Array.getElem?_eq_some_iff.1 hbk).1
  have f1 : w.cell? ⟨bc, 1, none⟩ = some vv := cell_of_row w bc 1 _ _ _ hbk
  obtain ⟨q, cap, rfl⟩ : ∃ q cap, vv = .slice q V.length cap := by
    rcases hown.2 with ⟨rfl, h⟩ | ⟨g, cap, cur, rfl, _⟩
    · exact ⟨none, 0, by rw [h]⟩
    · exact ⟨_, cap, rfl⟩
  have hadd : addV V nm wd = some (V.take (pos V nm) ++ ⟨nm, wd, 0⟩ :: V.drop (pos V nm)) := by unfold addV; rw [if_neg (by rw [hat]; simp)]
  obtain ⟨V', hV'⟩ : ∃ V', V.take (pos V nm) ++ ⟨nm, wd, 0⟩ :: V.drop (pos V nm) = V' := ⟨_, rfl⟩
  have HRES : Hid (∀ e w', Below B w w' → e = .returned (.bool true) → StAt B bc c V' w' → AddEnd B bc c V nm wd w e w') := Lib.hid (fun e w' h1 h2 h3 => by
    unfold AddEnd
    rw [hadd, hV']
    exact ⟨h1, h2, h3⟩)
  have KS := Lib.hid (fun W hW => search_value V (.slice q V.length cap) nm W hW (by omega) hasc)
  have HV : Hid (Cs.Shows w 0 3 (.slice q V.length cap) V.length (all V)) := Lib.hid ((Cs.shows_of_owns hown).down (Nat.zero_le _))
  have KI := Lib.hid (insert_st hn hB hbk hown hno hbc hasc hat hV')
  rw [hat] at KS
  clear hown hasc hat hbk hno hadd hbc hV'
  generalize pos V nm = p at *
  generalize V.length = m at *
  have X0 := Lib.hid (cell5_alloc w 64 (.int .i64 op) (.int .i64 wd) (.int .i64 n) (.string nm) s)
  go_enter Tryz.func134, Tryz.ntmps134
  go_wp2
  go_region_with (go_at_call 51; refine (KS.out _ (HV.out.below ((Below.refl _ _).alloc (Nat.le_refl _) _).drew)).mono ?_; rintro e w1 ⟨rfl, hb1⟩; have HB1 := Lib.hid (((Below.refl w.heap.size w).alloc (Nat.le_refl _) _).drew.trans (hb1.mono (by simp))); obtain ⟨x0, x1, x2, x3, x4⟩ := (X0.out.below (Below.refl _ _).drew).below hb1; have y1 := (HB1.out.cell (p := ⟨bc, 1, none⟩) hbs).trans f1; have hs1 := HB1.out.size; have hs2 : w.heap.size < w1.heap.size := (by have := hb1.size; simp at this; omega); have hs3 : bc < w1.heap.size := (by omega); clear hb1)
  all_goals
    go_wp2
    have HR : Hid ((w1.drew.alloc (.cells #[.string nm, .int .i64 wd, .int .i64 0] 79)).heap[w1.heap.size]? = some (.cells #[.string nm, .int .i64 wd, .int .i64 0] 79 (0, 0))) := Lib.hid (heap_alloc_new w1.drew _)
    go_region_with (go_at_call 144; refine (KI.out _ (HB1.out.drew.alloc hs1 _) w1.heap.size hs1 HR.out).mono ?_; rintro e w2 ⟨q2, cap2, rfl, z1, z2, hs2, hb2⟩; have HS2 := Lib.hid hs2; have HB2 := Lib.hid hb2; clear hs2 hb2)
  all_goals
    go_wp2
    go_ret
    exact HRES.out _ _ HB2.out rfl HS2.out
theorem add_var (B bc c : Nat) (V : List ValueR) (op wd n : Int) (nm : ByteArray) (s : Value) (w : World) (hst : StAt B bc c V w) (hB : B ≤ w.heap.size) (hn : V.length ≤ 1048575) :
    Calls Tryz.prog 134 #[.pointer (some ⟨bc, 0, none⟩), .agg #[.int .i64 op, .int .i64 wd, .int .i64 n, .string nm, s]] w (AddEnd B bc c V nm wd w) := by
  cases hat : isAt V nm with
  | true => exact add_there B bc c V op wd n nm s w hst hB hn hat
  | false => exact add_new B bc c V op wd n nm s w hst hB hn hat
end Go.Proofs.YthmababifgaejaaGreatDoor
namespace Go.Proofs.YthmababifgaejaaGreatDoor
open Go.ChangeShapes Go.WideShapes Go.ChangeAt Go.RowKit
open ValueR (all costs)
namespace Fo
/-- the check of a slice of nodes: how many nodes have been seen, and which variables -/
noncomputable def acc : Fo → Nat → List ValueR → Option (Nat × List ValueR)
  | .nil, c, V => some (c, V)
  | .cons op wd n nm k r, c, V => (if c + 1 ≤ 240 ∧ fitB op wd n nm k.ws = true then (if op = 22 then (addV V nm wd).map (fun V' => (c + 1, V')) else k.acc (c + 1) V) else none).bind (fun p => r.acc p.1 p.2)
end Fo
/-- .. of one node -/
noncomputable def accOne (op wd n : Int) (nm : ByteArray) (k : Fo) (c : Nat) (V : List ValueR) : Option (Nat × List ValueR) :=
  if c + 1 ≤ 240 ∧ fitB op wd n nm k.ws = true then (if op = 22 then (addV V nm wd).map (fun V' => (c + 1, V')) else k.acc (c + 1) V) else none
theorem acc_drop (F : Fo) (j : Nat) {op wd n : Int} {nm : ByteArray} {k : Fo} (h : F.At j op wd n nm k) (c : Nat) (V : List ValueR) : (F.drop j).acc c V = (accOne op wd n nm k c V).bind (fun p => (F.drop (j + 1)).acc p.1 p.2) := by
  rw [Fo.drop_at F j h]; rfl
def AccEnd (w0 : World) (bc : Nat) (res : Option (Nat × List ValueR)) (e : Ending) (w' : World) : Prop := Below w0.heap.size w0 w' ∧ match res with
  | some p => e = .returned (.bool true) ∧ StAt w0.heap.size bc p.1 p.2 w' ∧ p.2.length ≤ p.1 ∧ p.1 ≤ 240
  | none => e = .returned (.bool false)
theorem acc_none {w0 w' : World} {bc : Nat} {res : Option (Nat × List ValueR)} {e : Ending} (hb : Below w0.heap.size w0 w') (hr : res = none) (he : e = .returned (.bool false)) : AccEnd w0 bc res e w' := by
  subst hr; exact ⟨hb, he⟩
theorem acc_some {w0 w' : World} {bc c : Nat} {V : List ValueR} {res : Option (Nat × List ValueR)} {e : Ending} (hb : Below w0.heap.size w0 w') (hr : res = some (c, V)) (he : e = .returned (.bool true)) (hs : StAt w0.heap.size bc c V w') (hl : V.length ≤ c) (hc : c ≤ 240) : AccEnd w0 bc res e w' := by
  subst hr; exact ⟨hb, he, hs, hl, hc⟩
def AccC (k : Fo) : Prop := ∀ (w0 : World) (op wd n : Int) (nm : ByteArray) (s : Value) (bc c : Nat) (V : List ValueR) (w : World), (k.cs 64).Is w0 0 5 k.len s → Below w0.heap.size w0 w → StAt w0.heap.size bc c V w → nm.size ≤ 1048576 → k.cost ≤ 1048576 → V.length ≤ c → c ≤ 240 →
  Calls Tryz.prog 117 #[.pointer (some ⟨bc, 0, none⟩), .agg #[.int .i64 op, .int .i64 wd, .int .i64 n, .string nm, s]] w (AccEnd w0 bc (accOne op wd n nm k c V))
/-- the counter, one further -/
theorem StAt.step {B bc c c' : Nat} {V : List ValueR} {w : World} (h : StAt B bc c V w) : StAt B bc c' V (w.setCell ⟨bc, 0, none⟩ (.int .i64 (c' : Nat))) := by
  obtain ⟨vv, h1, h2, h3, h4, h5⟩ := h
  exact ⟨vv, heap_setCell_same w bc 0 _ _ _ h1, own_same h2 fun g hg => heap_setCell_other w _ g _ (fun e => h3 (by rw [← show g = bc from e]; exact hg)), h3, h4, h5⟩
set_option maxRecDepth 100000 in
set_option maxHeartbeats 4000000 in
theorem acc_loop (F : Fo) (hF : F.AllK AccC) : AccC F := by
  intro w0 op0 wd0 n0 nm0 v bc c V w hv hb0 hst hnm hcost hVc hc240
  have hml : maxLen = 9223372036854775807 := rfl
  have hFl : F.len ≤ F.nodes := F.len_le
  have hFn := F.nodes_le
  have hFc := F.cost_eq
  have HV := Lib.hid hv
  obtain ⟨_, ⟨_, q, cap, rfl, _⟩, _⟩ := hv
  have hsz0 := hb0.size
  obtain ⟨vv, hbk, _, _, _, hbc⟩ := id hst
  have hbs : bc < w.heap.size := (Array.getElem?_eq_some_iff.1 hbk).1
  have f0 : w.cell? ⟨bc, 0, none⟩ = some (.int .i64 c) := cell_of_row w bc 0 _ _ _ hbk
  have z0 : w.frozen? ⟨bc, 0, none⟩ = false := frozen_of_row w bc 0 _ _ hbk
  have hwr : IntKind.i64.wrap ((c : Int) + 1) = (c : Int) + 1 := IntWalk.i64_in _ (by omega)
  obtain ⟨W1, hW1⟩ : ∃ W1, W1 = (w.setCell ⟨bc, 0, none⟩ (.int .i64 ((c : Int) + 1))).alloc (.cells #[.int .i64 op0, .int .i64 wd0, .int .i64 n0, .string nm0, .slice q F.len cap] 64) := ⟨_, rfl⟩
  have hss : (w.setCell ⟨bc, 0, none⟩ (.int .i64 ((c : Int) + 1))).heap.size = w.heap.size := by simp [World.setCell]
  have HS1 : Hid (StAt w0.heap.size bc (c + 1) V W1) := Lib.hid (by rw [hW1]; exact (hst.step (c' := c + 1)).keep ((Below.refl _ _).alloc (Nat.le_refl _) _))
  have HB1 : Hid (Below w0.heap.size w0 W1) := Lib.hid (by rw [hW1]; exact (hb0.setCell hbc _).alloc (by rw [hss]; exact hsz0) _)
  have X1 : Hid (Cell5 W1 w.heap.size (.int .i64 op0) (.int .i64 wd0) (.int .i64 n0) (.string nm0) (.slice q F.len cap)) := Lib.hid (by
    rw [hW1, ← hss]
    exact cell5_alloc _ _ _ _ _ _ _)
  have FT := Lib.hid (fun W (hW : Below w0.heap.size w0 W) => fits_any op0 wd0 n0 nm0 (.slice q F.len cap) F W (HV.out.below hW) hnm)
  have hsW : W1.heap.size = w.heap.size + 1 := by rw [hW1]; simp [World.setCell]
  have hsW0 : w0.heap.size ≤ W1.heap.size := by omega
  obtain ⟨res, hres⟩ : ∃ res, accOne op0 wd0 n0 nm0 F c V = res := ⟨_, rfl⟩
  have HRES := Lib.hid hres
  rw [hres]
  unfold accOne at hres
  clear hst hbk hb0
  go_enter Tryz.func117, Tryz.ntmps117
  by_cases hc1 : c + 1 ≤ 240
  · have hd : ¬ (240 : Int) < (c : Int) + 1 := by omega
    go_wp2_with fail
    rw [← hW1]
    refine (FT.out W1 HB1.out).mono ?_
    rintro e w2 ⟨rfl, hb2⟩
    obtain ⟨x0, x1, x2, x3, x4⟩ := X1.out.below hb2
    have HS2 : Hid (StAt w0.heap.size bc (c + 1) V w2) := Lib.hid (HS1.out.keep hb2)
    have HB2 : Hid (Below w0.heap.size w0 w2) := Lib.hid (HB1.out.trans (hb2.mono hsW0))
    have hs2 := HB2.out.size
    clear hb2 hW1 hss HS1 HB1 X1
    cases hf : fitB op0 wd0 n0 nm0 F.ws with
    | false =>
      have HR : Hid (res = none) := Lib.hid (by rw [← hres, if_neg (by rw [hf]; simp)])
      clear hres hf
      go_wp2
      go_ret
      exact acc_none HB2.out HR.out rfl
    | true =>
      rw [hf, if_pos ⟨hc1, rfl⟩] at hres
      by_cases h22 : op0 = 22
      · subst h22
        rw [if_pos rfl] at hres
        have AV := Lib.hid (add_var w0.heap.size bc (c + 1) V 22 wd0 n0 nm0 (.slice q F.len cap) w2 HS2.out hs2 (by omega))
        have HR := Lib.hid hres
        have HL : Hid (∀ V', addV V nm0 wd0 = some V' → V'.length ≤ c + 1) := Lib.hid (fun V' h => by have := addV_len h; omega)
        have HC := Lib.hid hc1
        clear hres hf
        cases hav : addV V nm0 wd0 with
        | none =>
          rw [hav] at HR
          unfold AddEnd at AV
          rw [hav] at AV
          dsimp only at AV
          go_wp2_with (go_at_call 134; refine AV.out.mono ?_; rintro e w3 ⟨hb3, rfl⟩)
          go_ret
          exact acc_none (HB2.out.trans hb3) HR.out.symm rfl
        | some V' =>
          rw [hav] at HR
          unfold AddEnd at AV
          rw [hav] at AV
          dsimp only at AV
          have HL' := Lib.hid (HL.out V' hav)
          go_wp2_with (go_at_call 134; refine AV.out.mono ?_; rintro e w3 ⟨hb3, rfl, hs3⟩)
          go_ret
          exact acc_some (HB2.out.trans hb3) HR.out.symm rfl hs3 HL'.out HC.out
      · rw [if_neg h22] at hres
        have h22b : ((op0 : Int) == 22) = false := by simpa using h22
        rcases Fo.is_cases HV.out with ⟨h0, q', cap', hq⟩ | ⟨hpos, b, o, cap', ys, hq, _, _, _, hbl, hvs, hr⟩
        · injection hq with e1 e2 e3
          subst e1 e3
          have hnil : F = .nil := by cases F with | nil => rfl | cons => simp [Fo.len] at h0
          subst hnil
          have HR := Lib.hid hres
          clear hres hf hF
          go_wp2
          refine wp_loop_rounds 1 ?_
          rw [rounds_succ]
          go_wp2
          go_ret
          exact acc_some HB2.out HR.out.symm rfl HS2.out (by omega) hc1
        · injection hq with e1 e2 e3
          subst e1 e3
          have HI := Lib.hid (fun j (hj : j < F.len) => Fo.nth F hvs hr j hj)
          have HK := Lib.hid hF
          have HD := Lib.hid F.drop_all
          have HD0 := Lib.hid F.drop_zero
          have HR := Lib.hid hres
          have HF := Lib.hid hf
          clear hres hf hF hvs hr
          go_wp2
          go_loopw [33] (fun i wr => ∃ (j cj : Nat) (Vj : List ValueR), j ≤ F.len ∧ i = .int .i64 j ∧ (F.drop j).acc cj Vj = res ∧ Below w0.heap.size w0 wr ∧ StAt w0.heap.size bc cj Vj wr ∧ Vj.length ≤ cj ∧ cj ≤ 240) (fun i _ => F.len - (intOf i).toNat)
          case atStart => exact ⟨0, c + 1, V, Nat.zero_le _, rfl, by rw [HD0.out]; exact HR.out, HB2.out, HS2.out, by omega, hc1⟩
          case round =>
            clear x0 x1 x2 x3 x4 HS2 HB2 hs2
            obtain ⟨j, cj, Vj, hj, rfl, hacc, hb, hstj, hvl, hcl⟩ := hrel
            by_cases hjn : j < F.len
            · obtain ⟨op, wd, n, nm, k, v, hat, his, hrr⟩ := HI.out j hjn
              have hpd := Fo.at_paid F j hat
              rw [acc_drop F j hat] at hacc
              have hk := Fo.at_allK F j hat HK.out
              have HIS := Lib.hid his
              obtain ⟨_, ⟨_, q', cap2, rfl, _⟩, _⟩ := his
              have hrr := rangeAt_below hb hrr
              have c0 : wr.cell? ⟨b, o + j * 5, none⟩ = some (.int .i64 op) := hrr 0 _ rfl
              have c1 : wr.cell? ⟨b, o + j * 5 + 1, none⟩ = some (.int .i64 wd) := hrr 1 _ rfl
              have c2 : wr.cell? ⟨b, o + j * 5 + 2, none⟩ = some (.int .i64 n) := hrr 2 _ rfl
              have c3 : wr.cell? ⟨b, o + j * 5 + 3, none⟩ = some (.string nm) := hrr 3 _ rfl
              have c4 : wr.cell? ⟨b, o + j * 5 + 4, none⟩ = some (.slice q' k.len cap2) := hrr 4 _ rfl
              have SO := Lib.hid (fun W (hW : Below w0.heap.size w0 W) (hs : StAt w0.heap.size bc cj Vj W) => hk w0 op wd n nm _ bc cj Vj W HIS.out hW hs (by omega) (by omega) hvl hcl)
              have HB := Lib.hid hb
              have HS := Lib.hid hstj
              have hsz := hb.size
              have hki : (j : Int) < (F.len : Int) := by omega
              unfold AccEnd at SO
              clear hb hstj hrr hat hk hpd HIS HI
              have HSA := Lib.hid (HS.out.keep ((Below.refl _ _).alloc (Nat.le_refl _) (.cells #[.int .i64 op, .int .i64 wd, .int .i64 n, .string nm, .slice q' k.len cap2] 64)))
              cases ho : accOne op wd n nm k cj Vj with
              | none =>
                rw [ho] at SO hacc
                dsimp only at SO
                have HRN : Hid (res = none) := Lib.hid hacc.symm
                clear hacc
                go_wp2_with (go_at_call 117; refine (SO.out _ (HB.out.alloc hsz _) HSA.out).mono ?_; rintro e w3 ⟨hb3, rfl⟩)
                go_ret
                exact acc_none hb3 HRN.out rfl
              | some p =>
                obtain ⟨c', V'⟩ := p
                rw [ho] at SO hacc
                dsimp only at SO
                have HRN : Hid ((F.drop (j + 1)).acc c' V' = res) := Lib.hid hacc
                clear hacc
                go_wp2_with (go_at_call 117; refine (SO.out _ (HB.out.alloc hsz _) HSA.out).mono ?_; rintro e w3 ⟨hb3, rfl, hs3, hl3, hc3⟩)
                go_roundw
                case rel => exact ⟨j + 1, c', V', by omega, by go_num, HRN.out, hb3, hs3, hl3, hc3⟩
                case measure => simp [intOf]; omega
            · have ej : j = F.len := by omega
              have HA : Hid (res = some (cj, Vj)) := Lib.hid (by rw [← hacc, ej, HD.out]; rfl)
              have HB := Lib.hid hb
              have HS := Lib.hid hstj
              have hnj : ¬ ((j : Int) < (F.len : Int)) := by omega
              clear hb hstj hacc
              go_wp2
              go_ret
              exact acc_some HB.out HA.out rfl HS.out hvl hcl
  · have hd : (240 : Int) < (c : Int) + 1 := by omega
    have HR : Hid (res = none) := Lib.hid (by rw [← hres, if_neg (fun h => hc1 h.1)])
    clear hres
    go_wp2
    rw [← hW1]
    go_ret
    exact acc_none HB1.out HR.out rfl
theorem acc_any : ∀ F : Fo, AccC F := Fo.every acc_loop
end Go.Proofs.YthmababifgaejaaGreatDoor
namespace Go.Proofs.YthmababifgaejaaGreatDoor
open Go.ChangeShapes Go.WideShapes Go.ChangeAt Go.RowKit
open ValueR (all costs)
def ChkEnd (w : World) (res : Option (Nat × List ValueR)) (e : Ending) (w' : World) : Prop := Below w.heap.size w w' ∧ match res with
  | some p => ∃ q cap, e = .returned (.tuple #[.slice q p.2.length cap, .bool true]) ∧ w'.ownsRow w.heap.size 79 3 (.slice q p.2.length cap) p.2.length (all p.2) ∧ p.2.length ≤ 240
  | none => e = .returned (.tuple #[.slice none 0 0, .bool false])
set_option maxRecDepth 100000 in
set_option maxHeartbeats 2000000 in
theorem check_term (k : Fo) (op wd n : Int) (nm : ByteArray) (s : Value) (w : World) (his : (k.cs 64).Is w 0 5 k.len s) (hnm : nm.size ≤ 1048576) (hk : k.cost ≤ 1048576) :
    Calls Tryz.prog 111 #[.agg #[.int .i64 op, .int .i64 wd, .int .i64 n, .string nm, s]] w (ChkEnd w (accOne op wd n nm k 0 [])) := by
  have HIS := Lib.hid his
  obtain ⟨_, ⟨_, q, cap, rfl, _⟩, _⟩ := his
  obtain ⟨W1, hW1⟩ : ∃ W1, W1 = (w.alloc (.cells #[.int .i64 op, .int .i64 wd, .int .i64 n, .string nm, .slice q k.len cap] 64)).alloc (.cells #[.int .i64 0, .slice none 0 0] 133) := ⟨_, rfl⟩
  have HB : Hid (Below w.heap.size w W1) := Lib.hid (by rw [hW1]; exact ((Below.refl _ _).alloc (Nat.le_refl _) _).alloc (by simp) _)
  have HS : Hid (StAt w.heap.size (w.heap.size + 1) 0 [] W1) := Lib.hid ⟨.slice none 0 0, by
    rw [hW1]
    have := heap_alloc_new (w.alloc (.cells #[.int .i64 op, .int .i64 wd, .int .i64 n, .string nm, .slice q k.len cap] 64)) (.cells #[.int .i64 0, .slice none 0 0] 133)
    simpa using this, ⟨rfl, .inl ⟨rfl, rfl⟩⟩, by simp [Value.ownBlock], List.Pairwise.nil, by omega⟩
  have AC := Lib.hid (acc_any k w op wd n nm _ (w.heap.size + 1) 0 [] W1 HIS.out HB.out HS.out hnm hk (by simp) (by omega))
  unfold AccEnd at AC
  obtain ⟨res, hres⟩ : ∃ res, accOne op wd n nm k 0 [] = res := ⟨_, rfl⟩
  rw [hres] at AC ⊢
  clear hres
  go_enter Tryz.func111, Tryz.ntmps111
  cases res with
  | none =>
    dsimp only at AC
    go_wp2_with fail
    rw [← hW1]
    refine AC.out.mono ?_
    rintro e w2 ⟨hb2, rfl⟩
    go_wp2
    go_ret2
    exact ⟨hb2, rfl⟩
  | some p =>
    dsimp only at AC
    go_wp2_with fail
    rw [← hW1]
    refine AC.out.mono ?_
    rintro e w2 ⟨hb2, rfl, hs2, hl2, hc2⟩
    obtain ⟨vv, hbk, hown, _, _, _⟩ := hs2
    obtain ⟨q2, cap2, rfl⟩ : ∃ q cap, vv = .slice q p.2.length cap := by
      rcases hown.2 with ⟨rfl, h⟩ | ⟨g, cap, cur, rfl, _⟩
      · exact ⟨none, 0, by rw [h]⟩
      · exact ⟨_, cap, rfl⟩
    have f1 : w2.cell? ⟨w.heap.size + 1, 1, none⟩ = some (.slice q2 p.2.length cap2) := cell_of_row w2 _ 1 _ _ _ hbk
    have HO := Lib.hid hown
    clear hown hbk
    go_wp2
    go_ret2
    exact ⟨hb2, q2, cap2, rfl, HO.out, by omega⟩
/-- TermOk of the program -/
theorem i_termok (k : Fo) (op wd n : Int) (nm : ByteArray) (s : Value) (w : World) (his : (k.cs 64).Is w 0 5 k.len s) (hnm : nm.size ≤ 1048576) (hk : k.cost ≤ 1048576) :
    Calls Tryz.prog 86 #[.agg #[.int .i64 op, .int .i64 wd, .int .i64 n, .string nm, s]] w fun e w' => e = .returned (.bool (accOne op wd n nm k 0 []).isSome) ∧ Below w.heap.size w w' := by
  have HIS := Lib.hid his
  obtain ⟨_, ⟨_, q, cap, rfl, _⟩, _⟩ := his
  have CT := Lib.hid (fun W (hW : Below w.heap.size w W) => check_term k op wd n nm _ W (HIS.out.below hW) hnm hk)
  unfold ChkEnd at CT
  obtain ⟨res, hres⟩ : ∃ res, accOne op wd n nm k 0 [] = res := ⟨_, rfl⟩
  rw [hres] at CT ⊢
  clear hres
  go_enter Tryz.func86, Tryz.ntmps86
  cases res with
  | none =>
    dsimp only at CT
    go_wp2_with (go_at_call 111; refine (CT.out _ ((Below.refl _ _).alloc (Nat.le_refl _) _)).mono ?_; rintro e w1 ⟨hb1, rfl⟩)
    go_ret
    exact ⟨rfl, ((Below.refl _ _).alloc (Nat.le_refl _) _).trans (hb1.mono (by simp))⟩
  | some p =>
    dsimp only at CT
    go_wp2_with (go_at_call 111; refine (CT.out _ ((Below.refl _ _).alloc (Nat.le_refl _) _)).mono ?_; rintro e w1 ⟨hb1, q1, cap1, rfl, _, _⟩)
    go_ret
    exact ⟨rfl, ((Below.refl _ _).alloc (Nat.le_refl _) _).trans (hb1.mono (by simp))⟩
/-- what VarsOf gives back -/
def VarsEnd (w : World) (V : List ValueR) (e : Ending) (w' : World) : Prop := Below w.heap.size w w' ∧ ∃ q cap, e = .returned (.slice q V.length cap) ∧ w'.ownsRow w.heap.size 79 3 (.slice q V.length cap) V.length (all V)
/-- the variables of a term -/
noncomputable def varsAll (op wd n : Int) (nm : ByteArray) (k : Fo) : List ValueR := match accOne op wd n nm k 0 [] with
  | some p => p.2
  | none => []
end Go.Proofs.YthmababifgaejaaGreatDoor
namespace Go.Proofs.YthmababifgaejaaGreatDoor
open Go.ChangeShapes Go.WideShapes Go.ChangeAt Go.RowKit
theorem node_loop (F : Fo) (hF : F.AllK NodeC) : NodeC F := by
  intro op wd n nm s w his hsz hcost
  have bad : fitB op wd n nm F.ws = false → (fitB op wd n nm F.ws && F.allB) = false := fun h => by rw [h, Bool.false_and]
  cases hw : wdB wd with
  | false =>
    rw [bad (by unfold fitB; rw [hw]; simp)]
    exact nd_bad_w op wd n nm s F w his hw
  | true =>
    cases hne : nm.toList.isEmpty with
    | false =>
      by_cases h22 : op = 22
      · subst h22
        by_cases hn : n = 0
        · subst hn; exact nd_g4 wd nm s F hF w his hsz hcost hw hne
        · rw [bad (by unfold fitB; simp [hn])]
          exact nd_bad_n2 wd n nm s F w his hw hne hn
      · rw [bad (by unfold fitB; rw [hne]; simp [h22])]
        exact nd_bad_nm op wd n nm s F w his hw hne h22
    | true =>
      obtain rfl := empty_of hne
      by_cases hn : n = 0
      · subst hn
        rcases op_casesT op with rfl | rfl | rfl | ⟨h1, h2⟩ | ⟨h1, h2⟩ | rfl | rfl | rfl | rfl | rfl | rfl | h
        · exact nd_c0 wd s F hF w his hcost hw
        · exact nd_c12 1 wd s F hF w his hcost hw (by omega) (by omega)
        · exact nd_c12 2 wd s F hF w his hcost hw (by omega) (by omega)
        · exact nd_c3 op wd s F hF w his hcost hw h1 h2
        · exact nd_c14 op wd s F hF w his hcost hw h1 h2
        · exact nd_c17 wd s F hF w his hcost hw
        · exact nd_c18 wd s F hF w his hcost hw
        · exact nd_c19 wd s F hF w his hcost hw
        · exact nd_c20 20 wd s F hF w his hcost hw (by omega) (by omega)
        · exact nd_c20 21 wd s F hF w his hcost hw (by omega) (by omega)
        · exact nd_c22 wd s F hF w his hcost hw
        · exact nd_no op wd s F hF w his hcost hw h
      · by_cases h0 : op = 0
        · subst h0; exact nd_g2 wd n s F hF w his hcost hw hn
        · by_cases h19 : op = 19
          · subst h19; exact nd_g3 wd n s F hF w his hcost hw hn
          · rw [bad (by unfold fitB; simp [hn, h0, h19])]
            exact nd_bad_n op wd n s F w his hw hn h0 h19
theorem node_any : ∀ F : Fo, NodeC F := Fo.every node_loop
end Go.Proofs.YthmababifgaejaaGreatDoor
namespace Go.Proofs.YthmababifgaejaaGreatDoor
open Go.ChangeShapes Go.WideShapes Go.ChangeAt Go.RowKit
open ValueR (all costs)
theorem fit_22_nil {wd n : Int} {nm : ByteArray} {k : Fo} (h : fitB 22 wd n nm k.ws = true) : k = .nil := by
  by_cases hl : (k.ws.length : Int) = kc 22
  · rw [kc_22, k.ws_len] at hl
    cases k with
    | nil => rfl
    | cons => simp [Fo.len] at hl; omega
  · rw [fit_mis hl] at h; cases h
theorem acc_eq : ∀ (F : Fo) (c : Nat) (V : List ValueR), c ≤ 240 → F.acc c V = if c + F.nodes ≤ 240 ∧ F.allB = true then (F.vars V).map (fun V' => (c + F.nodes, V')) else none
  | .nil, c, V, hc => by simp [Fo.acc, Fo.nodes, Fo.allB, Fo.vars, hc]
  | .cons op wd n nm k r, c, V, hc => by
    unfold Fo.acc Fo.vars
    simp only [Fo.nodes, Fo.allB, Bool.and_eq_true]
    by_cases h1 : c + 1 ≤ 240 ∧ fitB op wd n nm k.ws = true
    · rw [if_pos h1]
      by_cases h22 : op = 22
      · subst h22
        obtain rfl := fit_22_nil h1.2
        rw [if_pos rfl, if_pos rfl]
        cases ha : addV V nm wd with
        | none => simp
        | some V1 =>
          simp only [Option.map_some, Option.bind_some]
          rw [acc_eq r (c + 1) V1 h1.1]
          simp only [Fo.nodes, Fo.allB, h1.2, true_and, Nat.add_zero]
          rw [show c + 1 + r.nodes = c + (1 + r.nodes) by omega]
      · rw [if_neg h22, if_neg h22, acc_eq k (c + 1) V h1.1]
        by_cases h2 : c + 1 + k.nodes ≤ 240 ∧ k.allB = true
        · rw [if_pos h2]
          cases ha : k.vars V with
          | none => simp
          | some V1 =>
            simp only [Option.map_some, Option.bind_some]
            rw [acc_eq r (c + 1 + k.nodes) V1 h2.1]
            simp only [h1.2, h2.2, true_and]
            rw [show c + 1 + k.nodes + r.nodes = c + (1 + k.nodes + r.nodes) by omega]
        · rw [if_neg h2, if_neg (fun h => h2 ⟨by omega, h.2.1.2⟩)]
          rfl
    · rw [if_neg h1, if_neg (fun h => h1 ⟨by omega, h.2.1.1⟩)]
      rfl
theorem accOne_eq (op wd n : Int) (nm : ByteArray) (k : Fo) : accOne op wd n nm k 0 [] = if 1 + k.nodes ≤ 240 ∧ (fitB op wd n nm k.ws && k.allB) = true then (varsOne op wd nm k []).map (fun V' => (1 + k.nodes, V')) else none := by
  unfold accOne varsOne
  simp only [Bool.and_eq_true]
  by_cases h1 : 0 + 1 ≤ 240 ∧ fitB op wd n nm k.ws = true
  · rw [if_pos h1]
    by_cases h22 : op = 22
    · subst h22
      obtain rfl := fit_22_nil h1.2
      rw [if_pos rfl, if_pos rfl]
      simp [Fo.nodes, Fo.allB, h1.2]
    · rw [if_neg h22, if_neg h22, acc_eq k (0 + 1) [] (by omega)]
      simp only [h1.2, true_and, Nat.zero_add]
  · rw [if_neg h1, if_neg (fun h => h1 ⟨by omega, h.2.1⟩)]
set_option maxRecDepth 100000 in
set_option maxHeartbeats 2000000 in
theorem s_termok (k : Fo) (op wd n : Int) (nm : ByteArray) (s : Value) (w : World) (his : (k.cs 64).Is w 0 5 k.len s) (hnm : nm.size ≤ 1048576) (hk : k.cost ≤ 1048576) :
    Calls Tryz.prog 79 #[.agg #[.int .i64 op, .int .i64 wd, .int .i64 n, .string nm, s]] w fun e w' => e = .returned (.bool (accOne op wd n nm k 0 []).isSome) ∧ Below w.heap.size w w' := by
  have hkn := k.nodes_le
  have HIS := Lib.hid his
  obtain ⟨_, ⟨_, q, cap, rfl, _⟩, _⟩ := his
  obtain ⟨W1, hW1⟩ : ∃ W1, W1 = (w.alloc (.cells #[.int .i64 op, .int .i64 wd, .int .i64 n, .string nm, .slice q k.len cap] 64)).alloc (.cells #[.int .i64 240] 3) := ⟨_, rfl⟩
  have HB1 : Hid (Below w.heap.size w W1) := Lib.hid (by rw [hW1]; exact ((Below.refl _ _).alloc (Nat.le_refl _) _).alloc (by simp) _)
  have HC1 : Hid (Cnt (w.heap.size + 1) ((240 : Nat) : Int) W1) := Lib.hid (by
    rw [hW1]
    have := heap_alloc_new (w.alloc (.cells #[.int .i64 op, .int .i64 wd, .int .i64 n, .string nm, .slice q k.len cap] 64)) (.cells #[.int .i64 240] 3)
    unfold Cnt
    simpa using this)
  have X1 : Hid (Cell5 W1 w.heap.size (.int .i64 op) (.int .i64 wd) (.int .i64 n) (.string nm) (.slice q k.len cap)) := Lib.hid (by
    rw [hW1]
    exact (cell5_alloc _ _ _ _ _ _ _).below ((Below.refl _ _).alloc (Nat.le_refl _) _))
  have hsW : w.heap.size < W1.heap.size := by rw [hW1]; simp; omega
  have FW := Lib.hid (few_any k w op wd n nm _ (w.heap.size + 1) 240 W1 HIS.out HB1.out HC1.out (by omega) (Nat.le_refl _))
  have ND := Lib.hid (fun W (hW : Below w.heap.size w W) => node_any k op wd n nm _ W (HIS.out.below hW) hnm hk)
  have VR := Lib.hid (fun W (hW : Below w.heap.size w W) => vars_any k op wd n nm _ [] none 0 W (HIS.out.below hW) ⟨rfl, none, 0, rfl, Nat.le_refl _, by decide, fun _ => rfl, fun a h => by cases h⟩ (by simp; omega))
  have HE := Lib.hid (accOne_eq op wd n nm k)
  obtain ⟨res, hres⟩ : ∃ res, accOne op wd n nm k 0 [] = res := ⟨_, rfl⟩
  rw [hres] at HE ⊢
  clear hres
  go_enter Tryz.func79, Tryz.ntmps79
  go_wp2_with fail
  rw [← hW1]
  clear hW1
  refine FW.out.mono ?_
  rintro e w2 ⟨rfl, hb2, _, hap2⟩
  have HB2 := Lib.hid hb2
  have X2 : Hid (Cell5 w2 w.heap.size (.int .i64 op) (.int .i64 wd) (.int .i64 n) (.string nm) (.slice q k.len cap)) := Lib.hid (by
    obtain ⟨a0, a1, a2, a3, a4⟩ := X1.out
    have e : ∀ o, w2.cell? ⟨w.heap.size, o, none⟩ = W1.cell? ⟨w.heap.size, o, none⟩ := fun o => by
      unfold World.cell?
      rw [hap2.block w.heap.size hsW (by simp)]
    exact ⟨(e 0).trans a0, (e 1).trans a1, (e 2).trans a2, (e 3).trans a3, (e 4).trans a4⟩)
  have hs2 := hb2.size
  clear hb2 hap2
  obtain ⟨x0, x1, x2, x3, x4⟩ := X2.out
  by_cases hf : 1 + k.nodes ≤ 240
  · have hfd : decide (1 + k.nodes ≤ 240) = true := decide_eq_true hf
    rw [hfd]
    go_wp2_with fail
    refine (ND.out w2 HB2.out).mono ?_
    rintro e w3 ⟨rfl, hb3⟩
    have HB3 := Lib.hid (HB2.out.trans (hb3.mono hs2))
    have X3 := Lib.hid (X2.out.below hb3)
    have hs3 := HB3.out.size
    clear hb3 x0 x1 x2 x3 x4
    obtain ⟨x0, x1, x2, x3, x4⟩ := X3.out
    cases hg : (fitB op wd n nm k.ws && k.allB) with
    | false =>
      have HR : Hid (res = none) := Lib.hid (by rw [HE.out, if_neg (fun h => by rw [hg] at h; cases h.2)])
      clear hg hfd hf
      go_wp2
      go_ret
      exact ⟨by rw [HR.out]; rfl, HB3.out⟩
    | true =>
      have HR : Hid (res = (varsOne op wd nm k []).map (fun V' => (1 + k.nodes, V'))) := Lib.hid (by rw [HE.out, if_pos ⟨hf, hg⟩])
      clear hg hfd hf
      unfold VrEnd at VR
      cases hv : varsOne op wd nm k [] with
      | none =>
        rw [hv] at VR HR
        dsimp only at VR
        clear hv
        go_wp2_with (go_at_call 106; refine (VR.out _ HB3.out).mono ?_; rintro e w4 ⟨hb4, vx, rfl⟩)
        go_ret
        exact ⟨by rw [HR.out]; rfl, HB3.out.trans (hb4.mono hs3)⟩
      | some V' =>
        rw [hv] at VR HR
        dsimp only at VR
        clear hv
        go_wp2_with (go_at_call 106; refine (VR.out _ HB3.out).mono ?_; rintro e w4 ⟨hb4, q4, c4, rfl, _⟩)
        go_ret
        exact ⟨by rw [HR.out]; rfl, HB3.out.trans (hb4.mono hs3)⟩
  · have hfd : decide (1 + k.nodes ≤ 240) = false := decide_eq_false hf
    have HR : Hid (res = none) := Lib.hid (by rw [HE.out, if_neg (fun h => hf h.1)])
    rw [hfd]
    clear hfd hf
    go_wp2
    go_ret
    exact ⟨by rw [HR.out]; rfl, HB2.out⟩
end Go.Proofs.YthmababifgaejaaGreatDoor
