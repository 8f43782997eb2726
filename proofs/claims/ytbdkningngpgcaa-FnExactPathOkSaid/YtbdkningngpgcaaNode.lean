/- l02Few: whether a term has few nodes, counted down behind a pointer. l02Node: nodes that the specification's first test refuses. -/
import Derived.Test.YtbdkningngpgcaaTk
import Derived.Deep.RegionWith
import Derived.Deep.LoopGhost
namespace Go.Proofs.Ytbdkningngpgcaa
open Go.ChangeShapes Go.WideShapes Go.ChangeAt Go.RowKit
/-- the counter's block -/
def Cnt (pb : Nat) (l : Int) (w : World) : Prop := w.heap[pb]? = some (.cells #[.int .i64 l] 3 (0, 0))
theorem Cnt.keep {pb : Nat} {l : Int} {w w' : World} (h : Cnt pb l w) (hb : Below w.heap.size w w') : Cnt pb l w' := by
  unfold Cnt at h ⊢
  rw [hb.block pb (Array.getElem?_eq_some_iff.1 h).1]; exact h
theorem Cnt.step {pb : Nat} {l l' : Int} {w : World} (h : Cnt pb l w) : Cnt pb l' (w.setCell ⟨pb, 0, none⟩ (.int .i64 l')) := heap_setCell_same w pb 0 _ _ _ h
/-- what a node with its kids leaves of a counter -/
def FewC (k : Fo) : Prop := ∀ (w0 : World) (op wd n : Int) (nm : ByteArray) (s : Value) (pb l : Nat) (w : World), (k.cs 87).Is w0 0 5 k.len s → Below w0.heap.size w0 w → Cnt pb l w → w0.heap.size ≤ pb → l ≤ 240 →
  Calls Try.prog 138 #[.agg #[.int .i64 op, .int .i64 wd, .int .i64 n, .string nm, s], .pointer (some ⟨pb, 0, none⟩)] w fun e w' => e = .returned (.bool (decide (1 + k.nodes ≤ l))) ∧ Below w0.heap.size w0 w' ∧ Cnt pb (left l (1 + k.nodes)) w' ∧ Apart [pb] w w'
set_option maxRecDepth 100000 in
set_option maxHeartbeats 4000000 in
theorem few_loop (F : Fo) (hF : F.AllK FewC) : FewC F := by
  intro w0 op0 wd0 n0 nm0 v pb l w hv hb0 hst hpb hl
  have hml : maxLen = 9223372036854775807 := rfl
  have hFl : F.len ≤ F.nodes := F.len_le
  have HV := Lib.hid hv
  obtain ⟨_, ⟨_, q, cap, rfl, _⟩, _⟩ := hv
  have hsz0 := hb0.size
  have hbs : pb < w.heap.size := (Array.getElem?_eq_some_iff.1 hst).1
  have f0 : w.cell? ⟨pb, 0, none⟩ = some (.int .i64 l) := cell_of_row w pb 0 _ _ _ hst
  have z0 : w.frozen? ⟨pb, 0, none⟩ = false := frozen_of_row w pb 0 _ _ hst
  have hwr : IntKind.i64.wrap ((l : Int) - 1) = (l : Int) - 1 := IntWalk.i64_in _ (by omega)
  obtain ⟨W1, hW1⟩ : ∃ W1, W1 = (w.setCell ⟨pb, 0, none⟩ (.int .i64 ((l : Int) - 1))).alloc (.cells #[.int .i64 op0, .int .i64 wd0, .int .i64 n0, .string nm0, .slice q F.len cap] 87) := ⟨_, rfl⟩
  have hss : (w.setCell ⟨pb, 0, none⟩ (.int .i64 ((l : Int) - 1))).heap.size = w.heap.size := by simp [World.setCell]
  have HS1 : Hid (Cnt pb ((l : Int) - 1) W1) := Lib.hid (by rw [hW1]; exact hst.step.keep ((Below.refl _ _).alloc (Nat.le_refl _) _))
  have HB1 : Hid (Below w0.heap.size w0 W1) := Lib.hid (by rw [hW1]; exact (hb0.setCell hpb _).alloc (by rw [hss]; exact hsz0) _)
  have X1 : Hid (W1.heap[w.heap.size]? = some (.cells #[.int .i64 op0, .int .i64 wd0, .int .i64 n0, .string nm0, .slice q F.len cap] 87 (0, 0))) := Lib.hid (by
    rw [hW1, ← hss]
    exact heap_alloc_new _ _)
  have A1 : Hid (Apart [pb] w W1) := Lib.hid (by rw [hW1]; exact ((Apart.refl _ _).setCell (by simp) _).trans (Apart.of_below ((Below.refl _ _).alloc (Nat.le_refl _) _)))
  have hwW : w.heap.size < W1.heap.size := by rw [hW1]; simp [World.setCell]
  clear hst hb0
  go_enter Try.func138, Try.ntmps138
  go_wp2_with fail
  rw [← hW1]
  have HI : Hid (∀ j, j < F.len → ∃ b o cap', q = some ⟨b, o, none⟩ ∧ b < w0.heap.size ∧ ∃ op wd n nm k v, F.At j op wd n nm k ∧ (k.cs 87).Is w0 0 5 k.len v ∧ w0.rangeAt b (o + j * 5) [.int .i64 op, .int .i64 wd, .int .i64 n, .string nm, v] ∧ cap' = cap) := Lib.hid (fun j hj => by
    rcases Fo.is_cases HV.out with ⟨h0, _⟩ | ⟨hpos, b, o, cap', ys, hq, _, _, _, hbl, hvs, hr⟩
    · omega
    · injection hq with e1 e2 e3
      exact ⟨b, o, cap', e1, hbl, by
        obtain ⟨op, wd, n, nm, k, v, h1, h2, h3⟩ := Fo.nth F hvs hr j hj
        exact ⟨op, wd, n, nm, k, v, h1, h2, h3, e3.symm⟩⟩)
  have HK := Lib.hid hF
  have HD := Lib.hid F.drop_all
  have HD0 := Lib.hid F.drop_zero
  have HR : Hid (∃ x : Int, Cnt pb x W1 ∧ ((∃ m : Nat, x = m ∧ m + 1 + F.nodes = l + (F.drop 0).nodes ∧ m ≤ 240) ∨ (x = -1 ∧ l < 1 + F.nodes))) := Lib.hid ⟨_, HS1.out, by
    rw [HD0.out]
    by_cases h : l = 0
    · exact .inr ⟨by omega, by omega⟩
    · exact .inl ⟨l - 1, by omega, by omega, by omega⟩⟩
  have hend0 : ∀ m : Nat, m + 1 + F.nodes = l + (F.drop F.len).nodes → left l (1 + F.nodes) = m ∧ decide (1 + F.nodes ≤ l) = true := fun m h => by
    rw [HD.out] at h
    simp only [Fo.nodes, Nat.add_zero] at h
    refine ⟨by unfold left; rw [if_pos (by omega)]; omega, decide_eq_true (by omega)⟩
  have HE0 := Lib.hid hend0
  have HE1 : Hid (l < 1 + F.nodes → left l (1 + F.nodes) = -1 ∧ decide (1 + F.nodes ≤ l) = false) := Lib.hid (fun h => ⟨by unfold left; rw [if_neg (by omega)], decide_eq_false (by omega)⟩)
  clear hF hend0 hW1 hss HS1
  go_loopw [5] (fun i wr => ∃ (j : Nat) (x : Int), j ≤ F.len ∧ i = .int .i64 j ∧ Cnt pb x wr ∧ Below w0.heap.size w0 wr ∧ wr.heap[w.heap.size]? = some (.cells #[.int .i64 op0, .int .i64 wd0, .int .i64 n0, .string nm0, .slice q F.len cap] 87 (0, 0)) ∧ Apart [pb] w wr ∧ ((∃ m : Nat, x = m ∧ m + 1 + F.nodes = l + (F.drop j).nodes ∧ m ≤ 240) ∨ (x = -1 ∧ l < 1 + F.nodes))) (fun i _ => F.len - (intOf i).toNat)
  case atStart => obtain ⟨x, h1, h2⟩ := HR.out; exact ⟨0, x, Nat.zero_le _, rfl, h1, HB1.out, X1.out, A1.out, h2⟩
  case round =>
    clear HR HB1 X1 A1
    obtain ⟨j, x, hj, rfl, hcn, hb, hx5, hap, hor⟩ := hrel
    have y0 : wr.cell? ⟨pb, 0, none⟩ = some (.int .i64 x) := cell_of_row wr pb 0 _ _ _ hcn
    have HX := Lib.hid hx5
    have x4 : wr.cell? ⟨w.heap.size, 4, none⟩ = some (.slice q F.len cap) := cell_of_row wr _ 4 _ _ _ hx5
    have HA := Lib.hid hap
    clear hx5 hap
    have HB := Lib.hid hb
    have HC := Lib.hid hcn
    have hsz := hb.size
    rcases hor with ⟨m, rfl, hm, hm2⟩ | ⟨rfl, hm⟩
    · by_cases hjn : j < F.len
      · obtain ⟨b, o, _, rfl, hbl, op, wd, n, nm, k, v, hat, his, hrr, _⟩ := HI.out j hjn
        obtain ⟨hn1, hn2⟩ := Fo.at_nodes F j hat
        have hk := Fo.at_allK F j hat HK.out
        have HIS := Lib.hid his
        obtain ⟨_, ⟨_, q', cap2, rfl, _⟩, _⟩ := his
        have hrr := rangeAt_below hb hrr
        have c0 : wr.cell? ⟨b, o + j * 5, none⟩ = some (.int .i64 op) := hrr 0 _ rfl
        have c1 : wr.cell? ⟨b, o + j * 5 + 1, none⟩ = some (.int .i64 wd) := hrr 1 _ rfl
        have c2 : wr.cell? ⟨b, o + j * 5 + 2, none⟩ = some (.int .i64 n) := hrr 2 _ rfl
        have c3 : wr.cell? ⟨b, o + j * 5 + 3, none⟩ = some (.string nm) := hrr 3 _ rfl
        have c4 : wr.cell? ⟨b, o + j * 5 + 4, none⟩ = some (.slice q' k.len cap2) := hrr 4 _ rfl
        have SO := Lib.hid (hk w0 op wd n nm _ pb m wr HIS.out hb hcn hpb hm2)
        have hki : (j : Int) < (F.len : Int) := by omega
        have hm0 : decide ((0 : Int) ≤ (m : Int)) = true := by simp
        have HM := Lib.hid (And.intro hm hn1)
        clear hb hcn hrr hat hk hn1 hm hn2 HIS HI HV
        go_wp2_with (go_at_call 138; refine SO.out.mono ?_; rintro e w3 ⟨rfl, hb3, hc3, ha3⟩)
        have HX3 := Lib.hid ((ha3.block w.heap.size (by have := (Array.getElem?_eq_some_iff.1 HX.out).1; exact this) (by simp; omega)).trans HX.out)
        go_roundw
        case rel =>
          refine ⟨j + 1, _, by omega, by go_num, hc3, hb3, HX3.out, HA.out.trans ha3, ?_⟩
          obtain ⟨h1, h2⟩ := HM.out
          unfold left
          by_cases h : 1 + k.nodes ≤ m
          · rw [if_pos h]; exact .inl ⟨m - (1 + k.nodes), by omega, by omega, by omega⟩
          · rw [if_neg h]; exact .inr ⟨rfl, by omega⟩
        case measure => simp [intOf]; omega
      · have ej : j = F.len := by omega
        subst ej
        obtain ⟨h1, h2⟩ := HE0.out m hm
        have H12 := Lib.hid (And.intro h1 h2)
        clear h1 h2
        have hnj : decide ((F.len : Int) < (F.len : Int)) = false := by simp
        have hm0 : decide ((0 : Int) ≤ (m : Int)) = true := by simp
        clear hb hcn hm HI HV
        go_wp2
        go_ret
        exact ⟨by rw [H12.out.2]; rfl, HB.out, by rw [H12.out.1]; exact HC.out, HA.out⟩
    · obtain ⟨h1, h2⟩ := HE1.out hm
      have H12 := Lib.hid (And.intro h1 h2)
      clear h1 h2
      clear hb hcn hm HI HV
      by_cases hjn : j < F.len
      · have hki : decide ((j : Int) < (F.len : Int)) = true := by simp; omega
        go_wp2
        go_ret
        exact ⟨by rw [H12.out.2]; rfl, HB.out, by rw [H12.out.1]; exact HC.out, HA.out⟩
      · have hki : decide ((j : Int) < (F.len : Int)) = false := by simp; omega
        go_wp2
        go_ret
        exact ⟨by rw [H12.out.2]; rfl, HB.out, by rw [H12.out.1]; exact HC.out, HA.out⟩
theorem few_any : ∀ F : Fo, FewC F := Fo.every few_loop
end Go.Proofs.Ytbdkningngpgcaa
namespace Go.Proofs.Ytbdkningngpgcaa
open Go.ChangeShapes Go.WideShapes Go.ChangeAt Go.RowKit
theorem s_in (a lo hi : Int) (b : Bool) (h : (decide (lo ≤ a) && decide (a ≤ hi)) = b) (W : World) : Calls Try.prog 67 #[.int .i64 a, .int .i64 lo, .int .i64 hi] W fun e W' => e = .returned (.bool b) ∧ W = W' := by
  subst h
  by_cases h1 : lo ≤ a
  · have e1 : decide (lo ≤ a) = true := decide_eq_true h1
    by_cases h2 : a ≤ hi
    · have e2 : decide (a ≤ hi) = true := decide_eq_true h2
      rw [e1, e2]
      go_enter Try.func67, Try.ntmps67
      go_wp2
      go_ret
      exact ⟨rfl, rfl⟩
    · have e2 : decide (a ≤ hi) = false := decide_eq_false h2
      rw [e1, e2]
      go_enter Try.func67, Try.ntmps67
      go_wp2
      go_ret
      exact ⟨rfl, rfl⟩
  · have e1 : decide (lo ≤ a) = false := decide_eq_false h1
    rw [e1, Bool.false_and]
    go_enter Try.func67, Try.ntmps67
    go_wp2
    go_ret
    exact ⟨rfl, rfl⟩
set_option maxRecDepth 100000 in
set_option maxHeartbeats 2000000 in
theorem nd_bad_w (op wd n : Int) (nm : ByteArray) (s : Value) (k : Fo) (w : World) (his : (k.cs 87).Is w 0 5 k.len s) (hw : wdB wd = false) :
    Calls Try.prog 139 #[.agg #[.int .i64 op, .int .i64 wd, .int .i64 n, .string nm, s]] w fun e w' => e = .returned (.bool (false)) ∧ Below w.heap.size w w' := by
  obtain ⟨_, ⟨_, q, cap, rfl, _⟩, _⟩ := his
  have KW := Lib.hid (fun W => s_wd wd W)
  rw [hw] at KW
  go_enter Try.func139, Try.ntmps139
  go_wp2_with (go_at_call 67; refine (KW.out _).mono ?_; rintro e w1 ⟨rfl, rfl⟩)
  go_ret
  exact ⟨rfl, (Below.refl _ _).alloc (Nat.le_refl _) _⟩
set_option maxRecDepth 100000 in
set_option maxHeartbeats 2000000 in
theorem nd_bad_nm (op wd n : Int) (nm : ByteArray) (s : Value) (k : Fo) (w : World) (his : (k.cs 87).Is w 0 5 k.len s) (hw : wdB wd = true) (hnm : nm.toList.isEmpty = false) (hop22 : op ≠ 22) :
    Calls Try.prog 139 #[.agg #[.int .i64 op, .int .i64 wd, .int .i64 n, .string nm, s]] w fun e w' => e = .returned (.bool (false)) ∧ Below w.heap.size w w' := by
  obtain ⟨_, ⟨_, q, cap, rfl, _⟩, _⟩ := his
  have KW := Lib.hid (fun W => s_wd wd W)
  rw [hw] at KW
  have hne : (!nm.toList.isEmpty) = true := by rw [hnm]; rfl
  have hop_22 : ((op : Int) == 22) = false := by simpa using hop22
  have gop_22 : ((op : Int) != 22) = true := by simpa using hop22
  go_enter Try.func139, Try.ntmps139
  go_wp2_with (go_at_call 67; refine (KW.out _).mono ?_; rintro e w1 ⟨rfl, rfl⟩)
  go_ret
  exact ⟨rfl, (Below.refl _ _).alloc (Nat.le_refl _) _⟩
set_option maxRecDepth 100000 in
set_option maxHeartbeats 2000000 in
theorem nd_bad_n (op wd n : Int) (s : Value) (k : Fo) (w : World) (his : (k.cs 87).Is w 0 5 k.len s) (hw : wdB wd = true) (hn0 : n ≠ 0) (hop0 : op ≠ 0) (hop19 : op ≠ 19) :
    Calls Try.prog 139 #[.agg #[.int .i64 op, .int .i64 wd, .int .i64 n, .string ⟨#[]⟩, s]] w fun e w' => e = .returned (.bool (false)) ∧ Below w.heap.size w w' := by
  obtain ⟨_, ⟨_, q, cap, rfl, _⟩, _⟩ := his
  have KW := Lib.hid (fun W => s_wd wd W)
  rw [hw] at KW
  have hn_0 : ((n : Int) == 0) = false := by simpa using hn0
  have gn_0 : ((n : Int) != 0) = true := by simpa using hn0
  have hop_0 : ((op : Int) == 0) = false := by simpa using hop0
  have gop_0 : ((op : Int) != 0) = true := by simpa using hop0
  have hop_19 : ((op : Int) == 19) = false := by simpa using hop19
  have gop_19 : ((op : Int) != 19) = true := by simpa using hop19
  go_enter Try.func139, Try.ntmps139
  go_wp2_with (go_at_call 67; refine (KW.out _).mono ?_; rintro e w1 ⟨rfl, rfl⟩)
  go_ret
  exact ⟨rfl, (Below.refl _ _).alloc (Nat.le_refl _) _⟩
set_option maxRecDepth 100000 in
set_option maxHeartbeats 2000000 in
theorem nd_bad_n2 (wd n : Int) (nm : ByteArray) (s : Value) (k : Fo) (w : World) (his : (k.cs 87).Is w 0 5 k.len s) (hw : wdB wd = true) (hnm : nm.toList.isEmpty = false) (hn0 : n ≠ 0) :
    Calls Try.prog 139 #[.agg #[.int .i64 22, .int .i64 wd, .int .i64 n, .string nm, s]] w fun e w' => e = .returned (.bool (false)) ∧ Below w.heap.size w w' := by
  obtain ⟨_, ⟨_, q, cap, rfl, _⟩, _⟩ := his
  have KW := Lib.hid (fun W => s_wd wd W)
  rw [hw] at KW
  have hne : (!nm.toList.isEmpty) = true := by rw [hnm]; rfl
  have hn_0 : ((n : Int) == 0) = false := by simpa using hn0
  have gn_0 : ((n : Int) != 0) = true := by simpa using hn0
  go_enter Try.func139, Try.ntmps139
  go_wp2_with (go_at_call 67; refine (KW.out _).mono ?_; rintro e w1 ⟨rfl, rfl⟩)
  go_ret
  exact ⟨rfl, (Below.refl _ _).alloc (Nat.le_refl _) _⟩
end Go.Proofs.Ytbdkningngpgcaa
