/- What the specification's l06Evals returns. No condition. The specification's test of a range. No condition. -/
import Derived.Test.YtpojldocjaieoaaGreatDoorHmGHpM
import Derived.Test.YtpojldocjaieoaaGreatDoorHmGEvR
import Derived.Test.YtpojldocjaieoaaGreatDoorRows
import Derived.Test.YtpojldocjaieoaaGreatDoorHmGCs
import Derived.WalkSpells
namespace Go.Proofs.YtpojldocjaieoaaGreatDoor
open Go.ChangeShapes Go.WideShapes Go.ChangeAt Go.RowKit
open ValueR (all costs)
/-- the words of terms, or that there are not all -/
def EvsEnd (R : Option (List Int)) (w : World) (e : Ending) (w' : World) : Prop := Below w.heap.size w w' ∧ ∃ q c, e = .returned (.tuple #[.slice q (R.getD []).length c, .bool R.isSome]) ∧ Cs.Shows w' 0 1 (.slice q (R.getD []).length c) (R.getD []).length (IntL.all (R.getD [])) ∧ (R.isSome = true → w'.ownsRow w.heap.size 3 1 (.slice q (R.getD []).length c) (R.getD []).length (IntL.all (R.getD [])))
set_option maxRecDepth 100000 in
set_option maxHeartbeats 4000000 in
theorem s_evals (V : List ValueR) (hV : VlOk V) (F : Fo) (wd : Int) (hF : tmB F wd = true) (s v : Value) (w : World) (his : (F.cs 69).Is w 0 5 F.len s) (hv : Cs.Shows w 0 3 v V.length (all V)) (hc : F.cost ≤ 1048576) :
    Calls Tryz.prog 28 #[s, v] w (EvsEnd (F.evs V) w) := by
  have hml : maxLen = 9223372036854775807 := rfl
  have hFn := F.nodes_le
  have hFl := F.len_le
  have HV := Lib.hid hv
  obtain ⟨_, qv, cv, rfl, _⟩ := hv
  unfold EvsEnd
  have HO0 : Hid ((w.alloc (.cells #[] 3)).ownsRow w.heap.size 3 1 (.slice (some ⟨w.heap.size, 0, none⟩) 0 0) 0 []) := Lib.hid (by
    have := World.ownsRow_lit (base := w.heap.size) (e := 3) (size := 1) w #[] 0 (Nat.le_refl _) (by decide) rfl
    simpa using this)
  have HW0 := Lib.hid (show Below w.heap.size w (w.alloc (.cells #[] 3)) from (Below.refl _ _).alloc (Nat.le_refl _) _)
  rcases Fo.is_cases his with ⟨h0, q, cap, rfl⟩ | ⟨hpos, b, o, cap, ys, rfl, hc1, hc2, _, hbl, hvs, hr⟩
  · have hFe : F = .nil := by cases F with | nil => rfl | cons => simp [Fo.len] at h0
    subst hFe
    clear his h0 hc hFn hFl hF
    have e1 : (Fo.nil.evs V) = some [] := rfl
    rw [e1]
    go_enter Tryz.func28, Tryz.ntmps28
    go_wp2
    refine wp_loop_rounds 1 ?_
    rw [rounds_succ]
    go_wp2
    go_ret2
    exact ⟨HW0.out, _, _, rfl, (Cs.shows_of_owns HO0.out).down (Nat.zero_le _), fun _ => HO0.out⟩
  · have HI := Lib.hid (fun j (hj : j < F.len) => Fo.nth F hvs hr j hj)
    have HTM := Lib.hid (fun j op wd' n nm k (h : F.At j op wd' n nm k) => tm_at hF j h)
    have HNX := Lib.hid (fun j op wd n nm k xs (h : F.At j op wd n nm k) (hx : (F.take j).evs V = some xs) => evs_next h hx)
    have HTA := Lib.hid F.take_all
    have HTZ := Lib.hid F.take_zero
    have HLN := Lib.hid (fun j xs (hj : j ≤ F.len) (hx : (F.take j).evs V = some xs) => (evs_len V _ xs hx).trans (Fo.len_take F j hj))
    have HND := Lib.hid (fun j op wd n nm k (h : F.At j op wd n nm k) => (Fo.at_nodes F j h).2)
    clear his hvs hr hF
    go_enter Tryz.func28, Tryz.ntmps28
    go_wp2
    go_loopw [6, 14] (fun u i wr => ∃ (j : Nat) (xs : List Int), j ≤ F.len ∧ i = .int .i64 j ∧ (F.take j).evs V = some xs ∧ wr.ownsRow w.heap.size 3 1 u j (IntL.all xs) ∧ Below w.heap.size w wr) (fun _ i _ => F.len - (intOf i).toNat)
    case atStart => exact ⟨0, [], Nat.zero_le _, rfl, by rw [HTZ.out]; rfl, HO0.out, HW0.out⟩
    case round =>
      obtain ⟨j, xs, hj, rfl, hxs, ho, hb⟩ := hrel
      have HXS := Lib.hid hxs
      have HO := Lib.hid ho
      have HB := Lib.hid hb
      clear hxs ho hb
      by_cases hjn : j < F.len
      · obtain ⟨op', wd', n', nm', k, u, hat, his, hrr⟩ := HI.out j hjn
        obtain ⟨hwd, hT⟩ := HTM.out _ _ _ _ _ _ hat
        subst hwd
        obtain ⟨hf1, hf2⟩ := tk_ok hT
        have hnd := HND.out _ _ _ _ _ _ hat
        have HE := Lib.hid (HNX.out _ _ _ _ _ _ _ hat HXS.out)
        have hrr := rangeAt_below HB.out hrr
        have HISK := Lib.hid his
        obtain ⟨_, ⟨_, q', cap', rfl, _⟩, _⟩ := his
        have c0 : wr.cell? ⟨b, o + j * 5, none⟩ = some (.int .i64 op') := hrr 0 _ rfl
        have c1 : wr.cell? ⟨b, o + j * 5 + 1, none⟩ = some (.int .i64 wd') := hrr 1 _ rfl
        have c2 : wr.cell? ⟨b, o + j * 5 + 2, none⟩ = some (.int .i64 n') := hrr 2 _ rfl
        have c3 : wr.cell? ⟨b, o + j * 5 + 3, none⟩ = some (.string nm') := hrr 3 _ rfl
        have c4 : wr.cell? ⟨b, o + j * 5 + 4, none⟩ = some (.slice q' k.len cap') := hrr 4 _ rfl
        have SO := Lib.hid (fun W (hW : Below w.heap.size w W) => s_eval_any V hV k op' wd' n' nm' _ _ W (HISK.out.below hW) (HV.out.below hW) hf1 hf2 (by omega))
        have hsz := HB.out.size
        have hki : (j : Int) < (F.len : Int) := by omega
        have HBA := Lib.hid (HB.out.alloc hsz (.cells #[.int .i64 op', .int .i64 wd', .int .i64 n', .string nm', .slice q' k.len cap'] 69))
        clear hrr hat hf1 hf2
        cases hev : evOne V op' wd' n' nm' k with
        | none =>
          rw [hev] at SO
          have HN := Lib.hid (HE.out.2 hev)
          have hr0 : evV none = .tuple #[.int .i64 0, .bool false] := rfl
          rw [hr0] at SO
          clear hev hr0 hT
          go_wp2_with fail
          refine (SO.out _ HBA.out).mono ?_
          rintro e w1 ⟨rfl, hb1⟩
          have HB1 := Lib.hid (HBA.out.trans (hb1.mono (by simp; omega)))
          clear hb1
          go_wp2
          go_ret2
          rw [HN.out]
          exact ⟨HB1.out, none, 0, rfl, ⟨rfl, none, 0, rfl, Nat.le_refl _, Nat.zero_le _, fun _ => rfl, fun a h => by cases h⟩, fun h => by cases h⟩
        | some y =>
          rw [hev] at SO
          have HN := Lib.hid (HE.out.1 y hev)
          have hr0 : evV (some y) = .tuple #[.int .i64 y, .bool true] := rfl
          rw [hr0] at SO
          clear hev hr0 hT
          go_wp2_with fail
          refine (SO.out _ HBA.out).mono ?_
          rintro e w1 ⟨rfl, hb1⟩
          have HB1 := Lib.hid (HBA.out.trans (hb1.mono (by simp; omega)))
          have hb2 : Below wr.heap.size wr w1 := ((Below.refl _ _).alloc (Nat.le_refl _) (.cells #[.int .i64 op', .int .i64 wd', .int .i64 n', .string nm', .slice q' k.len cap'] 69)).trans (hb1.mono (by simp))
          have HO1 := Lib.hid (own_keep HO.out hb2)
          have hsz2 : w.heap.size ≤ w1.heap.size := by have := hb2.size; omega
          clear hb1 hb2 c0 c1 c2 c3 c4
          go_wp2_with (at_builtin; refine wpList_append_one rfl (.tmp 26) (.tmp 28) 26 rfl w.heap.size 3 (.int .i64 0) 1 8 Tryz.underlying26 infoI rfl (by decide) _ j _ rfl HO1.out [.int .i64 y] _ rfl rfl rfl ?c1 (by omega) (by omega) ?c2 ?_)
          case c1 => intro u hu; simp at hu; subst hu; rfl
          case c2 => exact hsz2
          intro v' w3 hown3 hb3 _
          have HO3 := Lib.hid (show w3.ownsRow w.heap.size 3 1 v' (j + 1) (IntL.all (xs ++ [y])) by rw [IntL.all_map, List.map_append, ← IntL.all_map]; exact hown3)
          have HB3 := Lib.hid (HB1.out.trans (hb3.mono (by omega)))
          clear hown3 hb3
          go_wp2
          go_roundw
          case rel => exact ⟨j + 1, xs ++ [y], by omega, by go_num, HN.out, HO3.out, HB3.out⟩
          case measure => simp [intOf]; omega
      · have hnj : ¬ ((j : Int) < (F.len : Int)) := by omega
        have ej : j = F.len := by omega
        have hxl := HLN.out j xs hj HXS.out
        have HXA := Lib.hid (show F.evs V = some xs by have h := HXS.out; rw [ej, HTA.out] at h; exact h)
        obtain ⟨g, cw, rfl⟩ : ∃ g cw, u6 = .slice g j cw := by
          rcases HO.out.2 with ⟨h1, h2⟩ | ⟨g, cw, cur, rfl, _⟩
          · exact ⟨none, 0, by rw [h1, h2]⟩
          · exact ⟨_, cw, rfl⟩
        clear ej
        go_wp2
        go_ret2
        rw [HXA.out]
        subst hxl
        exact ⟨HB.out, g, cw, rfl, (Cs.shows_of_owns HO.out).down (Nat.zero_le _), fun _ => HO.out⟩
end Go.Proofs.YtpojldocjaieoaaGreatDoor
namespace Go.Proofs.YtpojldocjaieoaaGreatDoor
open Go.ChangeShapes Go.RowKit
set_option maxRecDepth 100000 in
theorem s_in_lo (x a b : Int) (h : x < a) (w : World) : Calls Tryz.prog 46 #[.int .i64 x, .int .i64 a, .int .i64 b] w fun e w' => e = .returned (.bool false) ∧ w = w' := by
  go_enter Tryz.func46, Tryz.ntmps46
  go_wp2
  go_ret
  exact ⟨rfl, rfl⟩
set_option maxRecDepth 100000 in
theorem s_in_hi (x a b : Int) (h : b < x) (w : World) : Calls Tryz.prog 46 #[.int .i64 x, .int .i64 a, .int .i64 b] w fun e w' => e = .returned (.bool false) ∧ w = w' := by
  by_cases h1 : a ≤ x
  · have h2 : decide (x ≤ b) = false := by simp; omega
    go_enter Tryz.func46, Tryz.ntmps46
    go_wp2
    go_ret
    exact ⟨rfl, rfl⟩
  · exact s_in_lo x a b (by omega) w
set_option maxRecDepth 100000 in
theorem s_in_ok (x a b : Int) (h1 : a ≤ x) (h2 : x ≤ b) (w : World) : Calls Tryz.prog 46 #[.int .i64 x, .int .i64 a, .int .i64 b] w fun e w' => e = .returned (.bool true) ∧ w = w' := by
  go_enter Tryz.func46, Tryz.ntmps46
  go_wp2
  go_ret
  exact ⟨rfl, rfl⟩
theorem sz_arr (l : List UInt8) : (⟨l.toArray⟩ : ByteArray).size = l.length := by simp [ByteArray.size]
end Go.Proofs.YtpojldocjaieoaaGreatDoor
