/- What the program's FormatProgram returns. No condition but the tables. -/
import Derived.Test.YtmmcpjdcfhgkiabDoorFpM
import Derived.Deep.CutRange
namespace Go.Proofs.YtmmcpjdcfhgkiabDoor
open Go.ChangeShapes Go.WideShapes Go.ChangeAt Go.RowKit
theorem at_lit3I (W : World) (a b c : Int) : At (W.alloc (.cells #[.int .i64 a, .int .i64 b, .int .i64 c] 3)) W.heap.size 0 ([a, b, c].map (Value.int .i64)) := fun j u hu => by
  rw [Nat.zero_add, cell_of_row _ W.heap.size j _ 3 (0, 0) (heap_alloc_new W _)]
  simpa using hu
set_option maxRecDepth 100000 in
set_option maxHeartbeats 8000000 in
theorem i_fprog (vw vm vi : Int) (L : List InsR) (s : Value) (w : World) (hs : Cs.Shows w 0 4 s L.length (InsR.all L)) (hok : ∀ r ∈ L, r.Ok) (hL : L.length ≤ maxLen) (htab : Lib.TabIs Tryd.prog w "internal/strconv.uint64pow10" .u64 Lib.pow10Tab) (hvar : w.var? Tryd.prog "loop.example/g03219/impl.opNames" = some nmCells) :
    Calls Tryd.prog 7 #[.agg #[.int .i64 vw, .int .i64 vm, .int .i64 vi, s]] w fun e w' => e = .returned (.string (fpV vw vm vi L)) ∧ Below w.heap.size w w' := by
  have hml : maxLen = 9223372036854775807 := rfl
  have HT := Lib.hid htab
  have HVR := Lib.hid hvar
  clear htab hvar
  have HS := Lib.hid hs
  have KP := Lib.hid (fun W (hb : Below w.heap.size w W) => i_prog vw vm vi L s W (hs.below hb) hok hL)
  obtain ⟨_, q, cap, rfl, hcap, _⟩ := hs
  have HB0 := Lib.hid ((Below.refl w.heap.size w).alloc (Nat.le_refl _) (.cells #[.int .i64 vw, .int .i64 vm, .int .i64 vi, .slice q L.length cap] 29))
  have X0 := Lib.hid (cell4_alloc w 29 (.int .i64 vw) (.int .i64 vm) (.int .i64 vi) (.slice q L.length cap))
  obtain ⟨w0, hw0⟩ : ∃ w0, w0 = w.alloc (.cells #[.int .i64 vw, .int .i64 vm, .int .i64 vi, .slice q L.length cap] 29) := ⟨_, rfl⟩
  have hs0 : w0.heap.size = w.heap.size + 1 := by rw [hw0]; simp
  rw [← hw0] at HB0 X0
  obtain ⟨B, hB⟩ : ∃ B, prB vw vm vi L = B := ⟨_, rfl⟩
  obtain ⟨V, hV⟩ : ∃ V, fpV vw vm vi L = V := ⟨_, rfl⟩
  rw [hV]
  unfold fpV at hV
  rw [hB] at KP hV
  cases B
  case false =>
    have hv : V = ⟨#[]⟩ := hV.symm
    subst hv
    clear hV hok hB
    obtain ⟨x0, x1, x2, x3⟩ := X0.out
    rw [hw0] at x0 x1 x2 x3
    go_enter Tryd.func7, Tryd.ntmps7
    go_wp2_with fail
    rw [← hw0]
    clear hw0
    refine (KP.out _ HB0.out).mono ?_
    rintro e w1 ⟨rfl, hb⟩
    have HB1 := Lib.hid (HB0.out.trans (hb.mono HB0.out.size))
    clear hb x0 x1 x2 x3
    go_wp2
    go_ret
    exact ⟨rfl, HB1.out⟩
  case true =>
    have hv : V = fpPre vw vm vi L L.length := hV.symm
    subst hv
    obtain ⟨⟨hw2, hw8, hm1, hm6, _, hi0, hi3, hl1, hl40⟩, _⟩ := pr_in hB
    have hin : ∀ z ∈ [vw, vm, vi], InR z := fun z hz => by
      simp only [List.mem_cons, List.not_mem_nil, or_false] at hz
      unfold InR
      rcases hz with rfl | rfl | rfl <;> omega
    have HR : Hid (∀ j, (h : j < L.length) → ∃ b o, q = some ⟨b, o, none⟩ ∧ b < w.heap.size ∧ ∀ W, Below w.heap.size w W → W.cell? ⟨b, o + j * 4, none⟩ = some (.int .i64 L[j].f0) ∧ W.cell? ⟨b, o + j * 4 + 1, none⟩ = some (.int .i64 L[j].f1) ∧ W.cell? ⟨b, o + j * 4 + 2, none⟩ = some (.int .i64 L[j].f2) ∧ W.cell? ⟨b, o + j * 4 + 3, none⟩ = some (.int .i64 L[j].f3)) := Lib.hid (fun j h => by
      rcases Cs.shows_cases HS.out with ⟨h0, _⟩ | ⟨_, b, o, c, hq, _, _, hbl, hr⟩
      · omega
      · injection hq with e1 e2 e3
        refine ⟨b, o, e1, hbl, fun W hW => ?_⟩
        have hh := flat_nth InsR.cells 4 (fun _ => rfl) L j h (rangeAt_below hW hr)
        exact ⟨hh 0 _ rfl, hh 1 _ rfl, hh 2 _ rfl, hh 3 _ rfl⟩)
    have KF := Lib.hid (fun (g : Nat) W (hb : Below w.heap.size w W) (hl : g < W.heap.size) (h : At W g 0 ([vw, vm, vi].map (Value.int .i64))) => show Calls Tryd.prog 15 #[.slice (some ⟨g, 0, none⟩) 3 3] W fun e w' => e = .returned (.string (fsB vw vm vi)) ∧ Below W.heap.size W w' from i_fmts g 0 3 3 [vw, vm, vi] rfl hin (by omega) W (var_below hb HT.out) hl h)
    have hz := fsB_size vw vm vi hin
    have HSZ := Lib.hid (fpPre_size vw vm vi L hin hok)
    have HH := Lib.hid (show fpHead vw vm vi = ⟨#[109, 97, 99, 104, 105, 110, 101, 32]⟩ ++ fsB vw vm vi ++ ⟨#[10]⟩ from rfl)
    have H0 := Lib.hid (fpPre_zero vw vm vi L)
    have HN := Lib.hid (fun j hj => fpPre_succ vw vm vi L j hj)
    have HFZ := Lib.hid (fun j (hj : j < L.length) => fiV_size L[j] vw L.length (hok _ (List.getElem_mem hj)))
    have hz1 : (⟨#[109, 97, 99, 104, 105, 110, 101, 32]⟩ ++ fsB vw vm vi : ByteArray).size ≤ 80 := by
      rw [ByteArray.size_append]
      have e1 : (⟨#[109, 97, 99, 104, 105, 110, 101, 32]⟩ : ByteArray).size = 8 := rfl
      omega
    obtain ⟨F, hF⟩ : ∃ F, fsB vw vm vi = F := ⟨_, rfl⟩
    rw [hF] at KF hz HH hz1
    have hz8 : (⟨#[109, 97, 99, 104, 105, 110, 101, 32]⟩ : ByteArray).size = 8 := rfl
    have hz9 : (⟨#[10]⟩ : ByteArray).size = 1 := rfl
    have HX := Lib.hid (show ∀ j (hj : j < L.length), ∃ op a b c, L[j] = (⟨op, a, b, c⟩ : InsR) ∧ (-9223372036854775808 ≤ a ∧ a ≤ 9223372036854775807) ∧ (-9223372036854775808 ≤ b ∧ b ≤ 9223372036854775807) from fun j hj => ⟨_, _, _, _, rfl, (hok _ (List.getElem_mem hj)).2.1, (hok _ (List.getElem_mem hj)).2.2.1⟩)
    clear hV hok hB hF hin HS
    obtain ⟨x0, x1, x2, x3⟩ := X0.out
    rw [hw0] at x0 x1 x2 x3
    go_enter Tryd.func7, Tryd.ntmps7
    go_wp2_with fail
    rw [← hw0]
    clear hw0
    refine (KP.out _ HB0.out).mono ?_
    rintro e w1 ⟨rfl, hb⟩
    have HB1 := Lib.hid (HB0.out.trans (hb.mono HB0.out.size))
    have XX := Lib.hid (X0.out.below hb)
    have hs1 := hb.size
    clear hb x0 x1 x2 x3
    obtain ⟨x0, x1, x2, x3⟩ := XX.out
    go_wp2_with fail
    clear x0 x1 x2 x3
    refine (KF.out _ _ (HB1.out.alloc HB1.out.size _) (by simp) (at_lit3I w1 vw vm vi)).mono ?_
    rintro e w2 ⟨rfl, hb⟩
    have HBC := Lib.hid (HB1.out.trans ((((Below.refl _ _).alloc (Nat.le_refl _) _).trans (hb.mono (by simp))).mono HB1.out.size))
    have XC := Lib.hid (XX.out.below (((Below.refl _ _).alloc (Nat.le_refl _) (.cells #[.int .i64 vw, .int .i64 vm, .int .i64 vi] 3)).trans (hb.mono (by simp))))
    have hsc := HBC.out.size
    have hzc : w.heap.size < w2.heap.size := World.block_lt_of_cell? _ _ XC.out.1
    clear hb XX HB1
    obtain ⟨x0, x1, x2, x3⟩ := XC.out
    go_wp2
    clear x0 x1 x2 x3
    rw [← HH.out, ← H0.out]
    go_loopw [3, 22] (fun v i wr => ∃ j : Nat, j ≤ L.length ∧ v = .string (fpPre vw vm vi L j) ∧ i = .int .i64 j ∧ Below w2.heap.size w2 wr) (fun _ i _ => L.length - (intOf i).toNat)
    case atStart => exact ⟨0, Nat.zero_le _, rfl, rfl, Below.refl _ _⟩
    case round =>
      obtain ⟨j, hj, rfl, rfl, hb⟩ := hrel
      have HB := Lib.hid hb
      have hsz := hb.size
      by_cases hjn : j < L.length
      · obtain ⟨b, o, rfl, hbl, hcells⟩ := HR.out j hjn
        obtain ⟨c0, c1, c2, c3⟩ := hcells wr (HBC.out.trans (hb.mono HBC.out.size))
        have hzp := HSZ.out j (by omega)
        have hzf := HFZ.out j hjn
        have HNJ := Lib.hid (HN.out j hjn)
        obtain ⟨op, a, b', c, hLj, ha, hb'⟩ := HX.out j hjn
        rw [hLj] at c0 c1 c2 c3 hzf HNJ
        simp only at c0 c1 c2 c3
        have KX := Lib.hid (fun W (hbw : Below w.heap.size w W) => i_format op a b' c vw L.length ha hb' W (var_below hbw HT.out) (var_below hbw HVR.out))
        obtain ⟨t, ht⟩ : ∃ t, fiV ⟨op, a, b', c⟩ vw L.length = t := ⟨_, rfl⟩
        rw [ht] at KX hzf HNJ
        obtain ⟨p, hp⟩ : ∃ p, fpPre vw vm vi L j = p := ⟨_, rfl⟩
        rw [hp] at hzp HNJ ⊢
        have hzm : (t ++ ⟨#[10]⟩ : ByteArray).size ≤ 100 := by rw [ByteArray.size_append]; omega
        have XR := Lib.hid (XC.out.below hb)
        clear hb hLj ht hp ha hb' hcells
        have hki : decide ((j : Int) < (L.length : Int)) = true := by simp; omega
        have hlt : w.heap.size < wr.heap.size := by omega
        have hbw : b < wr.heap.size := by omega
        obtain ⟨x0, x1, x2, x3⟩ := XR.out
        go_wp2_with fail
        clear c0 c1 c2 c3 x0 x1 x2 x3
        have HBB := Lib.hid (HBC.out.trans ((HB.out.alloc hsz (.cells #[.int .i64 op, .int .i64 a, .int .i64 b', .int .i64 c] 39)).mono HBC.out.size))
        refine (KX.out _ HBB.out).mono ?_
        rintro e w3 ⟨rfl, hbb⟩
        have HBE := Lib.hid ((HB.out.alloc hsz _).trans (hbb.mono (by simp; omega)))
        clear hbb
        go_wp2
        go_roundw
        case rel => exact ⟨j + 1, by omega, by rw [HNJ.out, ByteArray.append_assoc], by go_num, HBE.out⟩
        case measure => simp [intOf]; omega
      · have hje : j = L.length := by omega
        subst hje
        have hki : decide ((L.length : Int) < (L.length : Int)) = false := by simp
        clear hb
        go_wp2
        go_ret
        exact ⟨rfl, HBC.out.trans (HB.out.mono HBC.out.size)⟩
end Go.Proofs.YtmmcpjdcfhgkiabDoor
