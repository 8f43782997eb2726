/- Formula by value: how it comes in, and what the laws do with it: sz, to, eq. No condition. -/
import Derived.Test.YtkgdmamafemniaaDoorIntSS
import Derived.Test.YtkgdmamafemniaaDoorPf
import Derived.Deep.RegionWith
namespace Go.Proofs.YtkgdmamafemniaaDoor
open Go.ChangeShapes Go.WideShapes Go.ChangeAt Go.RowKit
section
variable {H : Type} {enc : TypeId × Value → H} {w : World} {base b0 : Nat} {spare : Nat → Bool} {held : Bool} {r : Reach}
set_option maxRecDepth 100000 in
theorem tys_IntSS (m : Nat) (C : Cs) (h : Cs.Ty Tryd.prog m 33 C) : ∃ L : List (List Int), C = .sl 49 1 L.length (Cs.rows IntSS.c L) .nil ∧ IntSS.Ok L ∧ L.length ≤ maxLen := by
  cases m with
  | zero => exact h.elim
  | succ m =>
    unfold Cs.Ty at h
    rw [Tryd.underlying33] at h
    dsimp only at h
    have hC : Tryd.prog.cellsOf 49 = 1 := by kernel_rfl
    rw [hC] at h
    obtain ⟨n, k, rfl, hn, hr⟩ := h
    have key : ∀ (n : Nat) (k : Cs), Cs.Rows (Cs.Ty Tryd.prog m 49) n k → ∃ L : List (List Int), L.length = n ∧ k = Cs.rows IntSS.c L ∧ IntSS.Ok L := by
      intro n
      induction n with
      | zero => rintro k rfl; exact ⟨[], rfl, rfl, fun r h => by cases h⟩
      | succ n ihn =>
        rintro k ⟨c, q, rfl, hc, hq⟩
        obtain ⟨r, rfl, hok, hl⟩ := tys_Int m _ hc
        obtain ⟨L, rfl, rfl, hL⟩ := ihn _ hq
        exact ⟨r :: L, rfl, rfl, fun x hx => (List.mem_cons.1 hx).elim (fun e => by rw [e]; exact ⟨hok, hl⟩) (hL x)⟩
    obtain ⟨L, rfl, rfl, hL⟩ := key n k hr
    exact ⟨L, rfl, hL, hn⟩
theorem plain_Formula : [35, 33, 49, 3].all (Cs.plainAt Tryd.prog [35, 33, 49, 3]) = true := by kernel_rfl
set_option maxRecDepth 100000 in
/-- one by value -/
theorem open_Formula {v : Value} {d : DataW H} {p : List MemPlace} (hv : Value.okWide Tryd.prog w r b0 35 v) (h : DataW.Trod enc Tryd.prog w base spare held 35 v d p) :
    ∃ (vr : Int) (L : List (List Int)) (s : Value), v = .agg #[.int .i64 vr, s] ∧ (Cs.rows IntSS.c L).Is w base 1 L.length s ∧ ((-9223372036854775808 ≤ vr ∧ vr ≤ 9223372036854775807) ∧ IntSS.Ok L ∧ L.length ≤ maxLen) := by
  obtain ⟨cs, rfl, _⟩ := okWide_struct Tryd.underlying35 hv
  obtain ⟨m, C, h1, h2⟩ := Cs.open_arg (t := 35) plain_Formula (List.mem_cons_self ..) h
  cases m with
  | zero => exact h2.elim
  | succ m =>
    unfold Cs.Ty at h2
    rw [Tryd.underlying35] at h2
    simp only [List.map, Cs.Fields] at h2
    obtain ⟨c0, _, rfl, g0, c1, _, rfl, g1, rfl⟩ := h2
    obtain ⟨z0, rfl, w0⟩ := Fo.ty_int Tryd.underlying3 g0
    obtain ⟨L, rfl, hok, hl⟩ := tys_IntSS m _ g1
    obtain ⟨_, e, s, _, ys, rfl, g2, g3, rfl⟩ := h1
    refine ⟨z0, L, s, ?_, ⟨ys, g2, g3⟩, w0, hok, hl⟩
    have e : cs.toList = _ := e
    rw [← Array.toArray_toList (xs := cs), e]

end
set_option maxRecDepth 100000 in
set_option maxHeartbeats 1000000 in
theorem sz_Formula (vr : Int) (L : List (List Int)) (s : Value) (l : Nat) (w : World) (hl : l ≤ 1048576) (hv : (Cs.rows IntSS.c L).Is w 0 1 L.length s) (hok : IntSS.Ok L) (hlen : L.length ≤ maxLen) :
    Calls Tryd.prog 10 #[.agg #[.int .i64 vr, s], .int .i64 l] w fun e w' => e = .returned (.int .i64 (left l (IntSS.costs L))) ∧ Below w.heap.size w w' := by
  have hml : maxLen = 9223372036854775807 := rfl
  have SO := Lib.hid (fun W (hb : Below w.heap.size w W) => sz_IntSS L _ l W (by omega) (hv.below hb) hok hlen)
  obtain ⟨_, ⟨_, q, cap, rfl, _⟩, _⟩ := hv
  clear hok hlen
  generalize IntSS.costs L = c at *
  generalize L.length = n at *
  by_cases h : c ≤ l
  · have he : left l c = (l : Int) - c := by unfold left; rw [if_pos h]
    rw [he] at SO ⊢
    have hlo : 0 ≤ (l : Int) - c := by omega
    clear he
    go_enter Tryd.func10, Tryd.ntmps10
    go_wp2_with (go_at_call 22; refine (SO.out _ ((Below.refl _ _).alloc (Nat.le_refl _) _)).mono ?_; rintro e w1 ⟨rfl, hb1⟩)
    go_ret
    exact ⟨rfl, ((Below.refl _ _).alloc (Nat.le_refl _) _).trans (hb1.mono (by simp))⟩
  · have he : left l c = -1 := by unfold left; rw [if_neg h]
    rw [he] at SO ⊢
    clear he
    go_enter Tryd.func10, Tryd.ntmps10
    go_wp2_with (go_at_call 22; refine (SO.out _ ((Below.refl _ _).alloc (Nat.le_refl _) _)).mono ?_; rintro e w1 ⟨rfl, hb1⟩)
    go_ret
    exact ⟨rfl, ((Below.refl _ _).alloc (Nat.le_refl _) _).trans (hb1.mono (by simp))⟩
set_option maxRecDepth 100000 in
set_option maxHeartbeats 1000000 in
theorem eq_Formula (vr : Int) (L : List (List Int)) (s1 s2 : Value) (w : World) (hs1 : (Cs.rows IntSS.c L).Is w 0 1 L.length s1) (hs2 : (Cs.rows IntSS.c L).Is w 0 1 L.length s2) (hn : IntSS.costs L ≤ 2097152) :
    Calls Tryd.prog 14 #[.agg #[.int .i64 vr, s1], .agg #[.int .i64 vr, s2]] w fun e w' => e = .returned (.bool true) ∧ Below w.heap.size w w' := by
  have hll := IntSS.len_le L
  have SO := Lib.hid (fun W (hb : Below w.heap.size w W) => eq_IntSS L _ _ _ (hs1.below hb) (hs2.below hb) (by omega))
  obtain ⟨_, ⟨_, q1, cap1, rfl, _⟩, _⟩ := hs1
  obtain ⟨_, ⟨_, q2, cap2, rfl, _⟩, _⟩ := hs2
  go_enter Tryd.func14, Tryd.ntmps14
  go_wp2_with (go_at_call 32; refine (SO.out _ (((Below.refl _ _).alloc (Nat.le_refl _) _).alloc (by simp) _)).mono ?_; rintro e w1 ⟨rfl, hb1⟩)
  go_ret
  exact ⟨rfl, (((Below.refl _ _).alloc (Nat.le_refl _) _).alloc (by simp) _).trans (hb1.mono (by simp; omega))⟩
def ToFormulaEnd (vr : Int) (L : List (List Int)) (w : World) (e : Ending) (w' : World) : Prop := ∃ g, e = .returned (.agg #[.int .i64 vr, .slice (some ⟨g, 0, none⟩) L.length L.length]) ∧ (∃ bs, (Cs.rows IntSS.c L).Has w' w.heap.size 49 1 L.length (.slice (some ⟨g, 0, none⟩) L.length L.length) bs ∧ bs.Nodup) ∧ Below w.heap.size w w'
set_option maxRecDepth 100000 in
set_option maxHeartbeats 1000000 in
theorem to_Formula (vr : Int) (L : List (List Int)) (s : Value) (w : World) (hs : (Cs.rows IntSS.c L).Is w 0 1 L.length s) (hn : IntSS.costs L ≤ 1048576) :
    Calls Tryd.prog 12 #[.agg #[.int .i64 vr, s]] w (ToFormulaEnd vr L w) := by
  have hll := IntSS.len_le L
  have HC := Lib.hid (fun W (hb : Below w.heap.size w W) => to_IntSS L _ W (hs.below hb) (by omega))
  obtain ⟨_, ⟨_, q, cap, rfl, _⟩, _⟩ := hs
  unfold ToIntSSEnd at HC
  unfold ToFormulaEnd
  go_enter Tryd.func12, Tryd.ntmps12
  go_wp2_with fail
  refine (HC.out _ (by repeat (first | refine Below.setCell ?_ (by first | (simp; done) | (simp; omega)) _ | refine Below.alloc ?_ (by first | (simp; done) | (simp; omega)) _ | exact Below.refl _ _))).mono ?_
  rintro e w1 ⟨g, rfl, ⟨bs, hh, hd⟩, hb1⟩
  have hz : w.heap.size + 2 < w1.heap.size := by have := hb1.size; simp at this; omega
  obtain ⟨hc, hf⟩ := bcell hb1
  have HH := Lib.hid (hh.down (base' := w.heap.size) (by simp; omega))
  have HL := Lib.hid (fun g (hg : g ∈ bs) => show w.heap.size + 3 ≤ g by have := (hh.lt g hg).1; simp at this; omega)
  have HD := Lib.hid hd
  have HB1 : Hid (Below w.heap.size w w1) := Lib.hid (Below.trans (b := _) (by repeat (first | refine Below.alloc ?_ (by first | (simp; done) | (simp; omega)) _ | exact Below.refl _ _)) (hb1.mono (by simp; omega)))
  clear hh hd hb1
  go_wp2
  refine bodyPost_ret (v := .agg #[.int .i64 vr, .slice (some ⟨g, 0, none⟩) L.length L.length]) (by simp [results, Tryd.results12, go_sem, hc]) rfl ?_
  refine ⟨g, rfl, ⟨bs, ?_, HD.out⟩, ?_⟩
  · refine HH.out.apart (cs := [w.heap.size + 1, w.heap.size + 1 + 1]) ?_ (fun g hg => by have := HL.out g hg; simp; omega)
    repeat (first | refine Apart.setCell ?_ (by simp) _ | exact Apart.refl _ _)
  · repeat (first | refine Below.setCell ?_ (by first | (simp; done) | (simp; omega)) _ | exact HB1.out)
end Go.Proofs.YtkgdmamafemniaaDoor
