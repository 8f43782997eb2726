/- slices.Concat of lists of integers that can be read; parts of a slice that can be read. No condition. -/
import Derived.Test.YtkoeegeplginkaaApAny
import Derived.Test.YtkoeegeplginkaaIntSS
import Derived.Test.YtkoeegeplginkaaShelf
import Derived.Shelf.Spec.SlicesGrow
namespace Go.Proofs.Ytkoeegeplginkaa
open Go.ChangeShapes Go.WideShapes Go.ChangeAt Go.RowKit
theorem IntL.one' (L : List Int) : ∀ u ∈ IntL.all L, u.oneCell' = true := by
  intro u hu
  rw [IntL.all_map] at hu
  obtain ⟨x, _, rfl⟩ := List.mem_map.1 hu
  rfl
theorem shows_take {w : World} {base n c i : Nat} {q : Option Addr} {ys : List Value} (h : Cs.Shows w base 1 (.slice q n c) n ys) (hi : i ≤ n) : Cs.Shows w base 1 (.slice q i c) i (ys.take i) := by
  obtain ⟨hl, q', c', he, h1, h2, h3, h4⟩ := h
  cases he
  refine ⟨by rw [List.length_take]; omega, _, _, rfl, by omega, h2, h3, fun a ha => ?_⟩
  obtain ⟨k1, k2, k3⟩ := h4 a ha
  refine ⟨k1, fun hne => k2 (fun e => hne (by rw [e]; simp)), fun j u hu => ?_⟩
  exact k3 j u (by
    have hj := (List.getElem?_eq_some_iff.1 hu).1
    rw [List.length_take] at hj
    rw [List.getElem?_take_of_lt (by omega)] at hu; exact hu)
theorem shows_drop {w : World} {base n c i b o o' : Nat} {ys : List Value} (h : Cs.Shows w base 1 (.slice (some ⟨b, o, none⟩) n c) n ys) (hi : i ≤ n) (ho : o' = o + i ∨ i = n) : Cs.Shows w base 1 (.slice (some ⟨b, o', none⟩) (n - i) (c - i)) (n - i) (ys.drop i) := by
  obtain ⟨hl, q', c', he, h1, h2, h3, h4⟩ := h
  cases he
  obtain ⟨k1, k2, k3⟩ := h4 _ rfl
  refine ⟨by rw [List.length_drop]; omega, some ⟨b, o', none⟩, c - i, rfl, by omega, by omega, fun h => (by cases h), fun a ha => ?_⟩
  obtain rfl : (⟨b, o', none⟩ : Addr) = a := Option.some.inj ha
  refine ⟨k1, fun _ => rfl, fun j u hu => ?_⟩
  have hj := (List.getElem?_eq_some_iff.1 hu).1
  rw [List.length_drop] at hj
  rcases ho with rfl | rfl
  · rw [List.getElem?_drop] at hu
    have := k3 (i + j) u hu
    rw [show o + i + j = o + (i + j) by omega]; exact this
  · omega
theorem news_of {w : World} {base n : Nat} {q : Option Addr} {c : Nat} {ys : List Value} (h : Cs.Shows w base 1 (.slice q n c) n ys) : 0 < n → ∃ ad, q = some ad ∧ ∀ i u, ys[i]? = some u → w.cell? (ad.add i) = some u := by
  intro hn
  rcases Cs.shows_cases h with ⟨h0, _⟩ | ⟨_, b, o, c', he, _, _, _, hr⟩
  · omega
  · cases he
    exact ⟨_, rfl, fun i u hu => by rw [Addr.add_mid]; exact hr i u hu⟩
/-- what Grow makes of nil: room -/
def GrowEnd (w : World) (e : Ending) (w' : World) : Prop := Below w.heap.size w w' ∧ ∃ q c, e = .returned (.slice q 0 c) ∧ w'.ownsRow w.heap.size 3 1 (.slice q 0 c) 0 []
set_option maxRecDepth 100000 in
theorem i_grow (n : Nat) (hn : n ≤ 8388608) (w : World) : Calls Try.prog 169 #[.slice none 0 0, .int .i64 n] w (GrowEnd w) := by
  obtain ⟨i0, hi0, hz0, hzs, hzb⟩ := info_parts zero_Int
  rcases Nat.eq_zero_or_pos n with rfl | hpos
  · go_enter Try.func169, Try.ntmps169
    go_wp2
    go_ret
    exact ⟨Below.refl _ _, none, 0, rfl, rfl, .inl ⟨rfl, rfl⟩⟩
  · have h := Any8.slices_Grow_grow Try.lays8g4 i0 _ hi0 hz0 (by rw [hzs]; decide) none 0 0 n [] w (Nat.le_refl _) (by omega) (by rw [hzb]; omega) (by omega) (by simp) (fun _ => rfl) (fun a ha => by cases ha)
    refine h.mono ?_
    rintro e w' ⟨rfl, rfl⟩
    have h1 := grownCap_ge w (0 + n) 0 3
    have h2 := grownCap_le_maxLen w (0 + n) 0 3 (by unfold maxLen; omega)
    refine ⟨(Below.refl w.heap.size w).drew.alloc (Nat.le_refl _) _, _, _, rfl, rfl, .inr ⟨w.heap.size, _, _, rfl, Nat.le_refl _, heap_alloc_new w.drew _, Nat.zero_le _, h2, ?_, rfl⟩⟩
    simp only [Array.size_append, size_zeroCells]
    simp [Value.cells]
    have h3 := grownCap_ge w n 0 (Try.lays8g4_ren.t 25)
    omega
/-- lists, one behind the other -/
def catL (M : List (List Int)) : List Int := M.flatten
set_option maxRecDepth 100000 in
set_option maxHeartbeats 2000000 in
theorem i_concat (M : List (List Int)) (v : Value) (w : World) (hv : (Cs.rows IntSS.c M).Is w 0 1 M.length v) (hn : (catL M).length ≤ 8388608) (hm : M.length ≤ 1048576) :
    Calls Try.prog 132 #[v] w fun e w' => Below w.heap.size w w' ∧ ∃ q c, e = .returned (.slice q (catL M).length c) ∧ w'.ownsRow w.heap.size 3 1 (.slice q (catL M).length c) (catL M).length (IntL.all (catL M)) := by
  obtain ⟨i0, hi0, hz0, hzs, hzb⟩ := info_parts zero_Int
  have hml : maxLen = 9223372036854775807 := rfl
  have KG := Lib.hid (fun W => i_grow (catL M).length hn W)
  rcases IntSS.cases hv with ⟨hM, q, cap, rfl⟩ | ⟨hpos, b, o, cap, rfl, h1, h2, hbl, HI⟩
  · subst hM
    clear hv
    go_enter Try.func132, Try.ntmps132
    go_wp2
    refine wp_loop_rounds 1 ?_
    rw [rounds_succ]
    go_wp2_with fail
    refine (KG.out _).mono ?_
    rintro e w1 ⟨hb1, q1, c1, rfl, ho1⟩
    have HB1 := Lib.hid hb1
    have HO1 := Lib.hid ho1
    clear hb1 ho1
    go_wp2
    refine wp_loop_rounds 1 ?_
    rw [rounds_succ]
    go_wp2
    go_ret
    exact ⟨HB1.out, q1, c1, rfl, HO1.out⟩
  · have HC := Lib.hid HI
    have HT := Lib.hid (fun j (h : j < M.length) => show catL (M.take (j + 1)) = catL (M.take j) ++ M[j] by unfold catL; rw [List.take_add_one, List.getElem?_eq_getElem h, List.flatten_append]; simp)
    have HL := Lib.hid (fun j => show (catL (M.take j)).length ≤ (catL M).length by
      unfold catL
      conv => rhs; rw [← List.take_append_drop j M, List.flatten_append, List.length_append]
      omega)
    have HE := Lib.hid (show M.take M.length = M from List.take_length)
    have HBL := Lib.hid hbl
    clear hv HI
    go_enter Try.func132, Try.ntmps132
    go_wp2
    go_loopw [3, 11] (fun s i wr => ∃ (j t : Nat), j ≤ M.length ∧ i = .int .i64 j ∧ s = .int .i64 t ∧ t = (catL (M.take j)).length ∧ Below w.heap.size w wr) (fun _ i _ => M.length - (intOf i).toNat)
    case atStart => exact ⟨0, 0, Nat.zero_le _, rfl, rfl, rfl, Below.refl _ _⟩
    case round =>
      obtain ⟨j, t, hj, rfl, rfl, ht, hb⟩ := hrel
      have HB := Lib.hid hb
      by_cases hjn : j < M.length
      · obtain ⟨qj, mj, cj, hmj, cell, _⟩ := HC.out wr hb j hjn
        have hT := HT.out j hjn
        have hlen : (catL (M.take (j + 1))).length = t + mj := by rw [hT, List.length_append, hmj, ht]
        have hle := HL.out (j + 1)
        rw [hlen] at hle
        have HLN := Lib.hid hlen
        have hki : (j : Int) < (M.length : Int) := by omega
        clear hT hmj ht hlen hb
        go_wp2
        go_roundw
        case rel => exact ⟨j + 1, t + mj, by omega, by go_num, by go_num, HLN.out.symm, HB.out⟩
        case measure => simp [intOf]; omega
      · have hnj : ¬ ((j : Int) < (M.length : Int)) := by omega
        have hts : t = (catL M).length := by rw [ht, show j = M.length by omega, HE.out]
        have hls : (catL M).length ≤ 8388608 := hn
        subst hts
        clear ht hb
        go_wp2_with fail
        refine (KG.out _).mono ?_
        rintro e w1 ⟨hb1, q1, c1, rfl, ho1⟩
        have HB1 := Lib.hid (HB.out.trans (hb1.mono HB.out.size))
        have HO1 := Lib.hid (own_base ho1 HB.out.size)
        clear hb1 ho1
        go_wp2
        go_loopw [6, 27] (fun s i wr => ∃ (j t c : Nat) (q : Option Addr), j ≤ M.length ∧ i = .int .i64 j ∧ s = .slice q t c ∧ t = (catL (M.take j)).length ∧ wr.ownsRow w.heap.size 3 1 (.slice q t c) t (IntL.all (catL (M.take j))) ∧ Below w.heap.size w wr) (fun _ i _ => M.length - (intOf i).toNat)
        case atStart => exact ⟨0, 0, c1, q1, Nat.zero_le _, rfl, rfl, rfl, HO1.out, HB1.out⟩
        case round =>
          clear HO1 HB1
          obtain ⟨j, t, c, q, hj, rfl, rfl, ht, ho, hb⟩ := hrel
          have HB := Lib.hid hb
          have HO := Lib.hid ho
          by_cases hjn : j < M.length
          · obtain ⟨qj, mj, cj, hmj, cell, hsh⟩ := HC.out _ hb j hjn
            have hT := HT.out j hjn
            have hlen : (catL (M.take (j + 1))).length = t + mj := by rw [hT, List.length_append, hmj, ht]
            have hle := HL.out (j + 1)
            rw [hlen] at hle
            have HLN := Lib.hid hlen
            have HTT := Lib.hid hT
            rw [hmj] at hsh
            have HSH := Lib.hid hsh
            have hki : (j : Int) < (M.length : Int) := by omega
            have hsz := hb.size
            have hmjl : (IntL.all M[j]).length = mj := by rw [IntL.all_len]; exact hmj
            generalize M[j] = Lj at *
            clear hT hmj ht hlen hb ho hsh
            go_wp2_with (at_builtin; refine wpList_append_any rfl _ _ 47 rfl w.heap.size 3 i0 (.int .i64 0) 1 8 Try.underlying47 hi0 hz0 hzs hzb rfl (by decide) _ t _ rfl HO.out qj mj cj (IntL.all Lj) rfl ?c0 ?c1 ?c2 ?c3 ?c4 ?c5 ?_)
            case c0 => rw [hmjl]; omega
            case c1 => exact news_of HSH.out
            case c2 => exact IntL.one' _
            case c3 => unfold maxLen; omega
            case c4 => omega
            case c5 => exact hsz
            intro q3 c3 w3 ho3 hb3
            have HO3 : Hid (w3.ownsRow w.heap.size 3 1 (.slice q3 (t + mj) c3) (t + mj) (IntL.all (catL (M.take (j + 1))))) := Lib.hid (by rw [HTT.out, IntL.all_app]; exact ho3)
            have HB3 := Lib.hid (HB.out.trans hb3)
            clear ho3 hb3
            go_wp2
            go_roundw
            case rel => exact ⟨j + 1, t + mj, c3, q3, by omega, by go_num, rfl, HLN.out.symm, HO3.out, HB3.out⟩
            case measure => simp [intOf]; omega
          · have hnj : ¬ ((j : Int) < (M.length : Int)) := by omega
            have HF := Lib.hid (show M.take j = M by rw [show j = M.length by omega]; exact HE.out)
            have HTL := Lib.hid ht
            clear ht hb ho
            go_wp2
            go_ret
            refine ⟨HB.out, q, c, ?_, ?_⟩
            · have h := HTL.out
              rw [HF.out] at h
              rw [← h] <;> rfl
            · have h := HO.out
              have h2 := HTL.out
              rw [HF.out] at h h2
              rw [← h2]; exact h
end Go.Proofs.Ytkoeegeplginkaa
