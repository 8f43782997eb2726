/- addVar, walked. -/
import Derived.Test.YtbdkningngpgcaaAdd
namespace Go.Proofs.Ytbdkningngpgcaa
open Go.ChangeShapes Go.WideShapes Go.ChangeAt Go.RowKit
open ValueR (all costs)
/-- what a check has seen: how many nodes, and the variables -/
def StAt (B bc c : Nat) (V : List ValueR) (w : World) : Prop := ∃ vv, w.heap[bc]? = some (.cells #[.int .i64 c, vv] 164 (0, 0)) ∧ w.ownsRow B 162 3 vv V.length (all V) ∧ bc ∉ vv.ownBlock.toList ∧ Asc V ∧ B ≤ bc
theorem StAt.keep {B bc c : Nat} {V : List ValueR} {w w' : World} (h : StAt B bc c V w) (hb : Below w.heap.size w w') : StAt B bc c V w' := by
  obtain ⟨vv, h1, h2, h3, h4, h5⟩ := h
  exact ⟨vv, by rw [hb.block bc (Array.getElem?_eq_some_iff.1 h1).1]; exact h1, own_keep h2 hb, h3, h4, h5⟩
def AddEnd (B bc c : Nat) (V : List ValueR) (nm : ByteArray) (wd : Int) (w : World) (e : Ending) (w' : World) : Prop := Below B w w' ∧ match addV V nm wd with
  | some V' => e = .returned (.bool true) ∧ StAt B bc c V' w'
  | none => e = .returned (.bool false)
set_option maxRecDepth 100000 in
set_option maxHeartbeats 2000000 in
theorem add_there (B bc c : Nat) (V : List ValueR) (op wd n : Int) (nm : ByteArray) (s : Value) (w : World) (hst : StAt B bc c V w) (hB : B ≤ w.heap.size) (hn : V.length ≤ 1048575) (hat : isAt V nm = true) :
    Calls Try.prog 165 #[.pointer (some ⟨bc, 0, none⟩), .agg #[.int .i64 op, .int .i64 wd, .int .i64 n, .string nm, s]] w (AddEnd B bc c V nm wd w) := by
  have HST := Lib.hid hst
  obtain ⟨vv, hbk, hown, hno, hasc, hbc⟩ := hst
  have hbs : bc < w.heap.size := (Array.getElem?_eq_some_iff.1 hbk).1
  have f0 : w.cell? ⟨bc, 0, none⟩ = some (.int .i64 c) := cell_of_row w bc 0 _ _ _ hbk
  have f1 : w.cell? ⟨bc, 1, none⟩ = some vv := cell_of_row w bc 1 _ _ _ hbk
  obtain ⟨r, hr, hrn⟩ : ∃ r, V[pos V nm]? = some r ∧ r.f0 = nm := by
    unfold isAt at hat
    split at hat
    · rename_i r hr; exact ⟨r, hr, of_decide_eq_true hat⟩
    · cases hat
  have hpl := (List.getElem?_eq_some_iff.1 hr).1
  obtain ⟨g, cap, rfl, hgw, hcap⟩ : ∃ g cap, vv = .slice (some ⟨g, 0, none⟩) V.length cap ∧ g < w.heap.size ∧ V.length ≤ cap := by
    rcases hown.2 with ⟨_, h⟩ | ⟨g, cap, cur, rfl, _, h3, h4, _⟩
    · omega
    · exact ⟨g, cap, rfl, (Array.getElem?_eq_some_iff.1 h3).1, h4⟩
  have hcellr : ∀ j, j < 3 → w.cell? ⟨g, pos V nm * 3 + j, none⟩ = r.cells[j]? := fun j hj => by
    rw [hown.cellAt _ (by omega)]
    have h1 := all_drop V (pos V nm) (by omega)
    have h2 : V.drop (pos V nm) = r :: V.drop (pos V nm + 1) := by
      rw [List.drop_eq_getElem_cons hpl, (List.getElem?_eq_some_iff.1 hr).2]
    rw [← List.getElem?_drop, ← h1, h2]
    exact List.getElem?_append_left (by show j < 3; exact hj)
  have c1 : w.cell? ⟨g, pos V nm * 3 + 1, none⟩ = some (.int .i64 r.f1) := hcellr 1 (by omega)
  have KS := Lib.hid (fun W hW => search_value V (.slice (some ⟨g, 0, none⟩) V.length cap) nm W hW (by omega) hasc)
  have HV : Hid (Cs.Shows w 0 3 (.slice (some ⟨g, 0, none⟩) V.length cap) V.length (all V)) := Lib.hid ((Cs.shows_of_owns hown).down (Nat.zero_le _))
  have HRES : Hid (AddEnd B bc c V nm wd w = fun e w' => Below B w w' ∧ if r.f1 = wd then e = .returned (.bool true) ∧ StAt B bc c V w' else e = .returned (.bool false)) := Lib.hid (by
    funext e w'
    unfold AddEnd addV
    rw [if_pos hat, hr]
    dsimp only
    by_cases h : r.f1 = wd
    · rw [if_pos h, if_pos h]
    · rw [if_neg h, if_neg h])
  rw [hat] at KS
  generalize pos V nm = p at *
  have hpp : (p : Int) < (V.length : Int) := by omega
  clear hown hasc hr hrn hcellr hat hbk hno hbc
  generalize hL : V.length = m at *
  clear hL
  go_enter Try.func165, Try.ntmps165
  go_wp2
  have X0 := Lib.hid (cell5_alloc w 87 (.int .i64 op) (.int .i64 wd) (.int .i64 n) (.string nm) s)
  go_region_with (go_at_call 169; refine (KS.out _ (HV.out.below ((Below.refl _ _).alloc (Nat.le_refl _) _).drew)).mono ?_; rintro e w1 ⟨rfl, hb1⟩; have HB1 := Lib.hid (((Below.refl w.heap.size w).alloc (Nat.le_refl _) _).drew.trans (hb1.mono (by simp))); obtain ⟨x0, x1, x2, x3, x4⟩ := (X0.out.below (Below.refl _ _).drew).below hb1; have y1 := (HB1.out.cell (p := ⟨bc, 1, none⟩) hbs).trans f1; have y2 := (HB1.out.cell (p := ⟨g, p * 3 + 1, none⟩) hgw).trans c1; clear hb1)
  all_goals
    go_wp2
    go_region
    go_wp2
    go_ret
    have hbw := HB1.out.drew
    refine (congrFun (congrFun HRES.out _) _).mpr ⟨hbw.mono hB, ?_⟩
    have hx := HST.out.keep hbw
    by_cases h : r.f1 = wd
    · rw [if_pos h, h]; exact ⟨by simp, hx⟩
    · rw [if_neg h]; simp [h]
/-- what Insert gives addVar -/
theorem insert_st {B bc c : Nat} {V V' : List ValueR} {q : Option Addr} {cap : Nat} {nm : ByteArray} {wd : Int} {w : World} (hn : V.length ≤ 1048575) (hB : B ≤ w.heap.size) (hbk : w.heap[bc]? = some (.cells #[.int .i64 c, .slice q V.length cap] 164 (0, 0))) (hown : w.ownsRow B 162 3 (.slice q V.length cap) V.length (all V))
    (hno : bc ∉ (Value.slice q V.length cap).ownBlock.toList) (hbc : B ≤ bc) (hasc : Asc V) (hat : isAt V nm = false) (hV' : V.take (pos V nm) ++ ⟨nm, wd, 0⟩ :: V.drop (pos V nm) = V')
    (W : World) (hW : Below w.heap.size w W) (g0 : Nat) (hg0 : w.heap.size ≤ g0) (hr : W.heap[g0]? = some (.cells #[.string nm, .int .i64 wd, .int .i64 0] 162 (0, 0))) :
    Calls Try.prog 170 #[.slice q V.length cap, .int .i64 (pos V nm : Nat), .slice (some ⟨g0, 0, none⟩) 1 1] W fun e w2 => ∃ q2 cap2, e = .returned (.slice q2 (V.length + 1) cap2) ∧ w2.cell? ⟨bc, 1, none⟩ = some (.slice q V.length cap) ∧ w2.frozen? ⟨bc, 1, none⟩ = false ∧
      StAt B bc c V' (w2.setCell ⟨bc, 1, none⟩ (.slice q2 (V.length + 1) cap2)) ∧ Below B w (w2.setCell ⟨bc, 1, none⟩ (.slice q2 (V.length + 1) cap2)) := by
  have hbs : bc < w.heap.size := (Array.getElem?_eq_some_iff.1 hbk).1
  have hsz := hW.size
  refine (insert_any V ⟨nm, wd, 0⟩ B g0 (pos V nm) (.slice q V.length cap) W (by omega) (pos_le V nm) (own_keep hown hW) (by omega) hr (fun h => by have := (own_lt hown h).2; omega)).mono ?_
  rintro e w2 ⟨v2, rfl, hown2, hbel2, hap2⟩
  have hadd : addV V nm wd = some V' := by unfold addV; rw [if_neg (by rw [hat]; simp), hV']
  have z0 := (hap2.block bc (by omega) hno).trans ((hW.block bc hbs).trans hbk)
  have hlen : V'.length = V.length + 1 := by
    have := pos_le V nm
    rw [← hV']
    simp only [List.length_append, List.length_take, List.length_cons, List.length_drop]
    omega
  have hv2 : ∃ q2 cap2, v2 = .slice q2 (V.length + 1) cap2 ∧ bc ∉ (Value.slice q2 (V.length + 1) cap2).ownBlock.toList := by
    rcases hown2.2 with ⟨_, h⟩ | ⟨g, cap3, cur, rfl, _, h3, _⟩
    · omega
    · refine ⟨_, _, rfl, fun h => ?_⟩
      have e : bc = g := by simpa [Value.ownBlock] using h
      subst e
      rw [z0] at h3
      injection h3 with h3
      injection h3 with _ h3
      exact absurd h3 (by decide)
  obtain ⟨q2, cap2, rfl, hno2⟩ := hv2
  rw [hV'] at hown2
  refine ⟨q2, cap2, rfl, cell_of_row w2 bc 1 _ _ _ z0, frozen_of_row w2 bc 1 _ _ z0, ⟨_, heap_setCell_same w2 bc 1 _ _ _ z0, ?_, hno2, addV_asc hasc hadd, hbc⟩, ((hW.mono hB).trans hbel2).setCell hbc _⟩
  rw [hlen]
  exact own_same hown2 fun g hg => heap_setCell_other w2 _ g _ (fun e => hno2 (by rw [← show g = bc from e]; exact hg))
set_option maxRecDepth 100000 in
set_option maxHeartbeats 2000000 in
theorem add_new (B bc c : Nat) (V : List ValueR) (op wd n : Int) (nm : ByteArray) (s : Value) (w : World) (hst : StAt B bc c V w) (hB : B ≤ w.heap.size) (hn : V.length ≤ 1048575) (hat : isAt V nm = false) :
    Calls Try.prog 165 #[.pointer (some ⟨bc, 0, none⟩), .agg #[.int .i64 op, .int .i64 wd, .int .i64 n, .string nm, s]] w (AddEnd B bc c V nm wd w) := by
  obtain ⟨vv, hbk, hown, hno, hasc, hbc⟩ := hst
  have hbs : bc < w.heap.size := (Array.getElem?_eq_some_iff.1 hbk).1
  have f1 : w.cell? ⟨bc, 1, none⟩ = some vv := cell_of_row w bc 1 _ _ _ hbk
  obtain ⟨q, cap, rfl⟩ : ∃ q cap, vv = .slice q V.length cap := by
    rcases hown.2 with ⟨rfl, h⟩ | ⟨g, cap, cur, rfl, _⟩
    · exact ⟨none, 0, by rw [h]⟩
    · exact ⟨_, cap, rfl⟩
  have hadd : addV V nm wd = some (V.take (pos V nm) ++ ⟨nm, wd, 0⟩ :: V.drop (pos V nm)) := by unfold addV; rw [if_neg (by rw [hat]; simp)]
  obtain ⟨V', hV'⟩ : ∃ V', V.take (pos V nm) ++ ⟨nm, wd, 0⟩ :: V.drop (pos V nm) = V' := ⟨_, rfl⟩
  have HRES : Hid (∀ e w', Below B w w' → e = .returned (.bool true) → StAt B bc c V' w' → AddEnd B bc c V nm wd w e w') := Lib.hid (fun e w' h1 h2 h3 => by
    unfold AddEnd
    rw [hadd, hV']
    exact ⟨h1, h2, h3⟩)
  have KS := Lib.hid (fun W hW => search_value V (.slice q V.length cap) nm W hW (by omega) hasc)
  have HV : Hid (Cs.Shows w 0 3 (.slice q V.length cap) V.length (all V)) := Lib.hid ((Cs.shows_of_owns hown).down (Nat.zero_le _))
  have KI := Lib.hid (insert_st hn hB hbk hown hno hbc hasc hat hV')
  rw [hat] at KS
  clear hown hasc hat hbk hno hadd hbc hV'
  generalize pos V nm = p at *
  generalize V.length = m at *
  have X0 := Lib.hid (cell5_alloc w 87 (.int .i64 op) (.int .i64 wd) (.int .i64 n) (.string nm) s)
  go_enter Try.func165, Try.ntmps165
  go_wp2
  go_region_with (go_at_call 169; refine (KS.out _ (HV.out.below ((Below.refl _ _).alloc (Nat.le_refl _) _).drew)).mono ?_; rintro e w1 ⟨rfl, hb1⟩; have HB1 := Lib.hid (((Below.refl w.heap.size w).alloc (Nat.le_refl _) _).drew.trans (hb1.mono (by simp))); obtain ⟨x0, x1, x2, x3, x4⟩ := (X0.out.below (Below.refl _ _).drew).below hb1; have y1 := (HB1.out.cell (p := ⟨bc, 1, none⟩) hbs).trans f1; have hs1 := HB1.out.size; have hs2 : w.heap.size < w1.heap.size := (by have := hb1.size; simp at this; omega); have hs3 : bc < w1.heap.size := (by omega); clear hb1)
  all_goals
    go_wp2
    have HR : Hid ((w1.drew.alloc (.cells #[.string nm, .int .i64 wd, .int .i64 0] 162)).heap[w1.heap.size]? = some (.cells #[.string nm, .int .i64 wd, .int .i64 0] 162 (0, 0))) := Lib.hid (heap_alloc_new w1.drew _)
    go_region_with (go_at_call 170; refine (KI.out _ (HB1.out.drew.alloc hs1 _) w1.heap.size hs1 HR.out).mono ?_; rintro e w2 ⟨q2, cap2, rfl, z1, z2, hs2, hb2⟩; have HS2 := Lib.hid hs2; have HB2 := Lib.hid hb2; clear hs2 hb2)
  all_goals
    go_wp2
    go_ret
    exact HRES.out _ _ HB2.out rfl HS2.out
theorem add_var (B bc c : Nat) (V : List ValueR) (op wd n : Int) (nm : ByteArray) (s : Value) (w : World) (hst : StAt B bc c V w) (hB : B ≤ w.heap.size) (hn : V.length ≤ 1048575) :
    Calls Try.prog 165 #[.pointer (some ⟨bc, 0, none⟩), .agg #[.int .i64 op, .int .i64 wd, .int .i64 n, .string nm, s]] w (AddEnd B bc c V nm wd w) := by
  cases hat : isAt V nm with
  | true => exact add_there B bc c V op wd n nm s w hst hB hn hat
  | false => exact add_new B bc c V op wd n nm s w hst hB hn hat
end Go.Proofs.Ytbdkningngpgcaa
