/- Program by value: how it comes in, and what the laws do with it: sz, to, eq. No condition. -/
import Derived.Test.YtbbalmeglgecgaaFlIns
import Derived.Test.YtbbalmeglgecgaaPf
import Derived.Deep.RegionWith
namespace Go.Proofs.Ytbbalmeglgecgaa
open Go.ChangeShapes Go.WideShapes Go.ChangeAt Go.RowKit
section
variable {H : Type} {enc : TypeId × Value → H} {w : World} {base b0 : Nat} {spare : Nat → Bool} {held : Bool} {r : Reach}
theorem plain_Program : [34, 106, 32, 3, 9].all (Cs.plainAt Try.prog [34, 106, 32, 3, 9]) = true := by kernel_rfl
set_option maxRecDepth 100000 in
/-- one by value -/
theorem open_Program {v : Value} {d : DataW H} {p : List MemPlace} (hv : Value.okWide Try.prog w r b0 34 v) (h : DataW.Trod enc Try.prog w base spare held 34 v d p) :
    ∃ (vw vm vi : Int) (L : List InsR) (s : Value), v = .agg #[.int .i64 vw, .int .i64 vm, .int .i64 vi, s] ∧ Cs.Shows w base 4 s L.length (InsR.all L) ∧ ((-9223372036854775808 ≤ vw ∧ vw ≤ 9223372036854775807) ∧ (-9223372036854775808 ≤ vm ∧ vm ≤ 9223372036854775807) ∧ (-9223372036854775808 ≤ vi ∧ vi ≤ 9223372036854775807) ∧ (∀ r ∈ L, r.Ok) ∧ L.length ≤ maxLen) := by
  obtain ⟨cs, rfl, _⟩ := okWide_struct Try.underlying34 hv
  obtain ⟨m, C, h1, h2⟩ := Cs.open_arg (t := 34) plain_Program (List.mem_cons_self ..) h
  cases m with
  | zero => exact h2.elim
  | succ m =>
    unfold Cs.Ty at h2
    rw [Try.underlying34] at h2
    simp only [List.map, Cs.Fields] at h2
    obtain ⟨c0, _, rfl, g0, c1, _, rfl, g1, c2, _, rfl, g2, c3, _, rfl, g3, rfl⟩ := h2
    obtain ⟨z0, rfl, w0⟩ := Fo.ty_int Try.underlying3 g0
    obtain ⟨z1, rfl, w1⟩ := Fo.ty_int Try.underlying3 g1
    obtain ⟨z2, rfl, w2⟩ := Fo.ty_int Try.underlying3 g2
    obtain ⟨L, rfl, hok, hl⟩ := tys_Ins m _ g3
    obtain ⟨_, e, _, rfl, _, rfl, s, _, ys, rfl, g2, g3, rfl⟩ := h1
    refine ⟨z0, z1, z2, L, s, ?_, by rw [Cs.flat_vs.1 g3] at g2; exact g2, w0, w1, w2, hok, hl⟩
    have e : cs.toList = _ := e
    rw [← Array.toArray_toList (xs := cs), e]

end
set_option maxRecDepth 100000 in
set_option maxHeartbeats 1000000 in
theorem sz_Program (vw vm vi : Int) (L : List InsR) (s : Value) (l : Nat) (w : World) (hl : l ≤ 1048576) (hv : Cs.Shows w 0 4 s L.length (InsR.all L)) (hok : (∀ r ∈ L, r.Ok)) (hlen : L.length ≤ maxLen) :
    Calls Try.prog 26 #[.agg #[.int .i64 vw, .int .i64 vm, .int .i64 vi, s], .int .i64 l] w fun e w' => e = .returned (.int .i64 (left l (InsR.costs L))) ∧ Below w.heap.size w w' := by
  have hml : maxLen = 9223372036854775807 := rfl
  have SO := Lib.hid (fun W (hb : Below w.heap.size w W) => sz_Ins L _ l W (by omega) (hv.below hb) hok hlen)
  obtain ⟨_, q, cap, rfl, _⟩ := hv
  clear hok hlen
  generalize InsR.costs L = c at *
  generalize L.length = n at *
  by_cases h : c ≤ l
  · have he : left l c = (l : Int) - c := by unfold left; rw [if_pos h]
    rw [he] at SO ⊢
    have hlo : 0 ≤ (l : Int) - c := by omega
    clear he
    go_enter Try.func26, Try.ntmps26
    go_wp2_with (go_at_call 65; refine (SO.out _ ((Below.refl _ _).alloc (Nat.le_refl _) _)).mono ?_; rintro e w1 ⟨rfl, hb1⟩)
    go_ret
    exact ⟨rfl, ((Below.refl _ _).alloc (Nat.le_refl _) _).trans (hb1.mono (by simp))⟩
  · have he : left l c = -1 := by unfold left; rw [if_neg h]
    rw [he] at SO ⊢
    clear he
    go_enter Try.func26, Try.ntmps26
    go_wp2_with (go_at_call 65; refine (SO.out _ ((Below.refl _ _).alloc (Nat.le_refl _) _)).mono ?_; rintro e w1 ⟨rfl, hb1⟩)
    go_ret
    exact ⟨rfl, ((Below.refl _ _).alloc (Nat.le_refl _) _).trans (hb1.mono (by simp))⟩
set_option maxRecDepth 100000 in
set_option maxHeartbeats 1000000 in
theorem eq_Program (vw vm vi : Int) (L : List InsR) (s1 s2 : Value) (w : World) (hs1 : Cs.Shows w 0 4 s1 L.length (InsR.all L)) (hs2 : Cs.Shows w 0 4 s2 L.length (InsR.all L)) (hn : InsR.costs L ≤ 2097152) :
    Calls Try.prog 31 #[.agg #[.int .i64 vw, .int .i64 vm, .int .i64 vi, s1], .agg #[.int .i64 vw, .int .i64 vm, .int .i64 vi, s2]] w fun e w' => e = .returned (.bool true) ∧ Below w.heap.size w w' := by
  have hll := InsR.len_le L
  have SO := Lib.hid (fun W (hb : Below w.heap.size w W) => eq_Ins L _ _ _ (hs1.below hb) (hs2.below hb) (by omega))
  obtain ⟨_, q1, cap1, rfl, _⟩ := hs1
  obtain ⟨_, q2, cap2, rfl, _⟩ := hs2
  go_enter Try.func31, Try.ntmps31
  go_wp2_with (go_at_call 70; refine (SO.out _ (((Below.refl _ _).alloc (Nat.le_refl _) _).alloc (by simp) _)).mono ?_; rintro e w1 ⟨rfl, hb1⟩)
  go_ret
  exact ⟨rfl, (((Below.refl _ _).alloc (Nat.le_refl _) _).alloc (by simp) _).trans (hb1.mono (by simp; omega))⟩
def ToProgramEnd (vw vm vi : Int) (L : List InsR) (w : World) (e : Ending) (w' : World) : Prop := ∃ g, e = .returned (.agg #[.int .i64 vw, .int .i64 vm, .int .i64 vi, .slice (some ⟨g, 0, none⟩) L.length L.length]) ∧ w'.ownsRow w.heap.size 68 4 (.slice (some ⟨g, 0, none⟩) L.length L.length) L.length (InsR.all L) ∧ Below w.heap.size w w'
set_option maxRecDepth 100000 in
set_option maxHeartbeats 1000000 in
theorem to_Program (vw vm vi : Int) (L : List InsR) (s : Value) (w : World) (hs : Cs.Shows w 0 4 s L.length (InsR.all L)) (hn : InsR.costs L ≤ 1048576) :
    Calls Try.prog 28 #[.agg #[.int .i64 vw, .int .i64 vm, .int .i64 vi, s]] w (ToProgramEnd vw vm vi L w) := by
  have hll := InsR.len_le L
  have HC := Lib.hid (fun W (hb : Below w.heap.size w W) => to_Ins L _ W (hs.below hb) (by omega))
  obtain ⟨_, q, cap, rfl, _⟩ := hs
  unfold ToInsEnd at HC
  unfold ToProgramEnd
  go_enter Try.func28, Try.ntmps28
  go_wp2_with fail
  refine (HC.out _ (by repeat (first | refine Below.setCell ?_ (by first | (simp; done) | (simp; omega)) _ | refine Below.alloc ?_ (by first | (simp; done) | (simp; omega)) _ | exact Below.refl _ _))).mono ?_
  rintro e w1 ⟨g, rfl, hh, hb1⟩
  have hz : w.heap.size + 2 < w1.heap.size := by have := hb1.size; simp at this; omega
  obtain ⟨hc, hf⟩ := bcell hb1
  have HH := Lib.hid (own_base (base' := w.heap.size) hh (by simp; omega))
  have HL := Lib.hid (show w.heap.size + 3 ≤ g by have := (own_lt hh (g := g) (by simp [Value.ownBlock])).1; simp at this; omega)
  have HB1 : Hid (Below w.heap.size w w1) := Lib.hid (Below.trans (b := _) (by repeat (first | refine Below.alloc ?_ (by first | (simp; done) | (simp; omega)) _ | exact Below.refl _ _)) (hb1.mono (by simp; omega)))
  clear hh hb1
  go_wp2
  refine bodyPost_ret (v := .agg #[.int .i64 vw, .int .i64 vm, .int .i64 vi, .slice (some ⟨g, 0, none⟩) L.length L.length]) (by simp [results, Try.results28, go_sem, hc]) rfl ?_
  refine ⟨g, rfl, ?_, ?_⟩
  · have hne := HL.out
    refine own_same HH.out (fun k hk => ?_)
    have hk : k = g := by simp [Value.ownBlock] at hk; omega
    subst hk
    repeat (first | rw [heap_setCell_other _ _ _ _ (by simp; omega)])
  · repeat (first | refine Below.setCell ?_ (by first | (simp; done) | (simp; omega)) _ | exact HB1.out)
end Go.Proofs.Ytbbalmeglgecgaa
