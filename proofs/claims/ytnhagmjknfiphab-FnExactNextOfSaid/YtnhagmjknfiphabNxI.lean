/- What the program's NextOf returns. No condition. -/
import Derived.Test.YtnhagmjknfiphabNxM
import Derived.Test.YtnhagmjknfiphabAsI
import Derived.Test.YtnhagmjknfiphabPrI
namespace Go.Proofs.Ytnhagmjknfiphab
open Go.ChangeShapes Go.WideShapes Go.ChangeAt Go.RowKit
set_option maxRecDepth 100000 in
set_option maxHeartbeats 4000000 in
theorem i_next (vw vm vi : Int) (L : List InsR) (s : Value) (pc : Int) (w : World) (hs : Cs.Shows w 0 4 s L.length (InsR.all L)) (hok : ∀ r ∈ L, r.Ok) (hL : L.length ≤ maxLen) :
    Calls Try.prog 10 #[.agg #[.int .i64 vw, .int .i64 vm, .int .i64 vi, s], .int .i64 pc] w (NxOwn (nxL vw vm vi L pc) w) := by
  have hml : maxLen = 9223372036854775807 := rfl
  have HS := Lib.hid hs
  have K1 := Lib.hid (fun W (hb : Below w.heap.size w W) => i_prog vw vm vi L s W (hs.below hb) hok hL)
  obtain ⟨_, q, cap, rfl, _⟩ := hs
  obtain ⟨b1, hb1⟩ : ∃ B, prB vw vm vi L = B := ⟨_, rfl⟩
  rw [hb1] at K1
  obtain ⟨V, hV⟩ : ∃ V, nxL vw vm vi L pc = V := ⟨_, rfl⟩
  rw [hV]
  have HR : Hid (∀ j, (h : j < L.length) → ∃ b o, q = some ⟨b, o, none⟩ ∧ b < w.heap.size ∧ ∀ W, Below w.heap.size w W → W.cell? ⟨b, o + j * 4, none⟩ = some (.int .i64 L[j].f0) ∧ W.cell? ⟨b, o + j * 4 + 1, none⟩ = some (.int .i64 L[j].f1) ∧ W.cell? ⟨b, o + j * 4 + 2, none⟩ = some (.int .i64 L[j].f2) ∧ W.cell? ⟨b, o + j * 4 + 3, none⟩ = some (.int .i64 L[j].f3)) := Lib.hid (fun j h => by
    rcases Cs.shows_cases HS.out with ⟨h0, _⟩ | ⟨_, b, o, c, hq, _, _, hbl, hr⟩
    · omega
    · injection hq with e1 e2 e3
      refine ⟨b, o, e1, hbl, fun W hW => ?_⟩
      have hh := flat_nth InsR.cells 4 (fun _ => rfl) L j h (rangeAt_below hW hr)
      exact ⟨hh 0 _ rfl, hh 1 _ rfl, hh 2 _ rfl, hh 3 _ rfl⟩)
  have HB0 := Lib.hid ((Below.refl w.heap.size w).alloc (Nat.le_refl _) (.cells #[.int .i64 vw, .int .i64 vm, .int .i64 vi, .slice q L.length cap] 30))
  have X0 := Lib.hid (cell4_alloc w 30 (.int .i64 vw) (.int .i64 vm) (.int .i64 vi) (.slice q L.length cap))
  obtain ⟨w0, hw0⟩ : ∃ w0, w0 = w.alloc (.cells #[.int .i64 vw, .int .i64 vm, .int .i64 vi, .slice q L.length cap] 30) := ⟨_, rfl⟩
  have hs0 : w0.heap.size = w.heap.size + 1 := by rw [hw0]; simp
  rw [← hw0] at HB0 X0
  clear HS
  go_enter Try.func10, Try.ntmps10
  go_wp2_with fail
  rw [← hw0]
  clear hw0
  refine (K1.out _ HB0.out).mono ?_
  rintro e w1 ⟨rfl, hb⟩
  have HB1 := Lib.hid (HB0.out.trans (hb.mono HB0.out.size))
  have X1 := Lib.hid (X0.out.below hb)
  have hs1 := hb.size
  have hz0 : w.heap.size < w1.heap.size := by omega
  clear hb
  obtain ⟨x0, x1, x2, x3⟩ := X1.out
  cases b1
  case false =>
    have hv : V = [] := by rw [← hV]; unfold nxL; rw [hb1]; simp
    subst hv
    go_wp2
    go_ret
    exact nx_none rfl HB1.out
  case true =>
    obtain ⟨⟨-, -, -, -, -, -, -, hl1, hl40⟩, hins⟩ := pr_in hb1
    by_cases h0 : 0 ≤ pc
    case neg =>
      have hv : V = [] := by rw [← hV]; unfold nxL; rw [if_neg]; rintro ⟨-, h3, h4⟩; omega
      subst hv
      have n0 : pc < 0 := by omega
      go_wp2
      go_ret
      exact nx_none rfl HB1.out
    by_cases h2 : pc < L.length
    case neg =>
      have hv : V = [] := by rw [← hV]; unfold nxL; rw [if_neg]; rintro ⟨-, h3, h4⟩; omega
      subst hv
      have n2 : (L.length : Int) ≤ pc := by omega
      go_wp2
      go_ret
      exact nx_none rfl HB1.out
    case pos =>
      obtain ⟨j, rfl⟩ : ∃ j : Nat, pc = j := ⟨pc.toNat, by omega⟩
      have hjn : j < L.length := by omega
      have hv : V = nxR L[j] j := by
        rw [← hV]
        unfold nxL
        rw [if_pos ⟨hb1, by omega, by omega⟩, Int.toNat_natCast, List.getD_eq_getElem?_getD, List.getElem?_eq_getElem hjn, Option.getD_some]
      obtain ⟨bb, o, rfl, hbl, hcells⟩ := HR.out j hjn
      obtain ⟨c0, c1, c2, c3⟩ := hcells w1 HB1.out
      have hij := hins j hjn
      clear hcells hV HR hins
      generalize L[j] = g at *
      obtain ⟨op, a, b, c⟩ := g
      simp only at c0 c1 c2 c3
      have hbw : bb < w1.heap.size := by omega
      have hki : (j : Int) < (L.length : Int) := by omega
      have hkj : decide ((j : Int) < (L.length : Int)) = true := by simp; omega
      have hop : 1 ≤ op ∧ op ≤ 14 := by
        by_cases h : op < 1 ∨ 14 < op
        · rw [ins_out (r := ⟨op, a, b, c⟩) h] at hij; cases hij
        · omega
      have hzs : V = Lib.compact (sortI (nxI ⟨op, a, b, c⟩ j)) := by rw [hv, nx_eq (r := ⟨op, a, b, c⟩) hop.1 hop.2]
      obtain ⟨nm, F, hF⟩ := form_in hop.1 hop.2
      have KF := Lib.hid (fun W => i_form op W)
      rw [hF] at KF
      unfold nxI at hzs
      simp only at hzs
      clear hv hij hop hF
      obtain ⟨kl, hkl⟩ : ∃ k, fL op = k := ⟨_, rfl⟩
      obtain ⟨kb, hkb⟩ : ∃ k, fB op = k := ⟨_, rfl⟩
      rw [hkl, hkb] at hzs
      have HZ := Lib.hid hzs
      clear hzs
      rw [hkl, hkb] at KF
      generalize fA op = ka at *
      generalize fC op = kc at *
      clear hkl hkb
      have HB2 := Lib.hid (HB1.out.alloc HB1.out.size (.cells #[.int .i64 op, .int .i64 a, .int .i64 b, .int .i64 c] 49))
      have Y0 := Lib.hid (cell4_alloc w1 49 (.int .i64 op) (.int .i64 a) (.int .i64 b) (.int .i64 c))
      obtain ⟨w2, hw2⟩ : ∃ W, W = w1.alloc (.cells #[.int .i64 op, .int .i64 a, .int .i64 b, .int .i64 c] 49) := ⟨_, rfl⟩
      have hs2 : w2.heap.size = w1.heap.size + 1 := by rw [hw2]; simp
      rw [← hw2] at HB2 Y0
      go_wp2_with fail
      rw [← hw2]
      clear hw2 x0 x1 x2 x3 c0 c1 c2 c3
      refine (KF.out _).mono ?_
      rintro e w3 ⟨rfl, hb⟩
      have HB3 := Lib.hid (HB2.out.trans (hb.mono HB2.out.size))
      have Y3 := Lib.hid (Y0.out.below hb)
      have hs3 := hb.size
      have hz3 : w1.heap.size < w3.heap.size := by omega
      clear hb
      have HB4 := Lib.hid (HB3.out.alloc HB3.out.size (.cells #[.string nm, .int .i64 ka, .int .i64 kb, .int .i64 kc, .bool kl, .func (.func F) #[] #[]] 54))
      have Z4 := Lib.hid (heap_alloc_new w3 (.cells #[.string nm, .int .i64 ka, .int .i64 kb, .int .i64 kc, .bool kl, .func (.func F) #[] #[]] 54))
      have Y4 := Lib.hid (Y3.out.below ((Below.refl w3.heap.size w3).alloc (Nat.le_refl _) (.cells #[.string nm, .int .i64 ka, .int .i64 kb, .int .i64 kc, .bool kl, .func (.func F) #[] #[]] 54)))
      have hs4 : (w3.alloc (.cells #[.string nm, .int .i64 ka, .int .i64 kb, .int .i64 kc, .bool kl, .func (.func F) #[] #[]] 54)).heap.size = w3.heap.size + 1 := by simp
      obtain ⟨y0, y1, y2, y3⟩ := Y3.out
      by_cases hk3 : kb = 3
      · subst hk3
        cases kl
        case false =>
          go_wp2_with (at_builtin; refine wpList_append_one rfl (.tmp 33) (.tmp 36) 26 rfl w.heap.size 3 (.int .i64 0) 1 8 Try.underlying26 zero_Int rfl (by decide) _ 0 [] rfl (World.ownsRow_nil _ _ _ _) [.int .i64 ((j : Int) + 1)] _ rfl (by first | (simp; done) | rfl) rfl ?c1 (by omega) (by omega) ?c2 ?_)
          case c1 => intro u hu; simp at hu; subst hu; rfl
          case c2 => exact HB4.out.size
          intro vw5 w5 hown hb hap
          have Ow5 := Lib.hid hown
          have HBw5 := Lib.hid (HB4.out.trans hb)
          have hb5 := hap.below (Nat.le_refl _) (by intro g hg; simp [Value.ownBlock] at hg)
          have Y5 := Lib.hid (Y4.out.below hb5)
          have Z5 := Lib.hid ((hb5.block w3.heap.size (by omega)).trans Z4.out)
          have hs5 := hb5.size
          clear hown hb hap hb5 y0 y1 y2 y3
          obtain ⟨y0, y1, y2, y3⟩ := Y5.out
          have z2 : w5.cell? ⟨w3.heap.size, 2, none⟩ = some (.int .i64 3) := cell_of_row w5 w3.heap.size 2 _ _ _ Z5.out
          go_wp2_with (at_builtin; refine wpList_append_one rfl (.tmp 41) (.tmp 44) 26 rfl w.heap.size 3 (.int .i64 0) 1 8 Try.underlying26 zero_Int rfl (by decide) _ 1 [.int .i64 ((j : Int) + 1)] rfl Ow5.out [.int .i64 b] _ rfl (by first | (simp; done) | rfl) rfl ?c1 (by omega) (by omega) ?c2 ?_)
          case c1 => intro u hu; simp at hu; subst hu; rfl
          case c2 => exact HBw5.out.size
          intro vw6 w6 hown hb hap
          have Ow6 := Lib.hid hown
          have HBw6 := Lib.hid (HBw5.out.trans hb)
          clear hown hb hap
          have hzs2 : V = Lib.compact (sortI [(j : Int) + 1, b]) := by rw [HZ.out]; first | (simp; done) | (simp [hk3]; done)
          have KC := Lib.hid (i_asc [(j : Int) + 1, b] (n := 2) rfl Ow6.out HBw6.out (by omega))
          have HZ2 := Lib.hid hzs2
          clear hzs2 HZ
          rw [← HZ2.out] at KC
          go_wp2_with fail
          refine KC.out.mono ?_
          rintro e w9 ⟨q9, c9, rfl, ho, hb⟩
          have HO9 := Lib.hid ho
          have HB9 := Lib.hid hb
          clear ho hb
          go_wp2
          go_ret
          exact ⟨HB9.out, q9, c9, rfl, HO9.out⟩
        case true =>
          go_wp2_with (at_builtin; refine wpList_append_one rfl (.tmp 41) (.tmp 44) 26 rfl w.heap.size 3 (.int .i64 0) 1 8 Try.underlying26 zero_Int rfl (by decide) _ 0 [] rfl (World.ownsRow_nil _ _ _ _) [.int .i64 b] _ rfl (by first | (simp; done) | rfl) rfl ?c1 (by omega) (by omega) ?c2 ?_)
          case c1 => intro u hu; simp at hu; subst hu; rfl
          case c2 => exact HB4.out.size
          intro vw5 w5 hown hb hap
          have Ow5 := Lib.hid hown
          have HBw5 := Lib.hid (HB4.out.trans hb)
          clear hown hb hap
          have hzs2 : V = Lib.compact (sortI [b]) := by rw [HZ.out]; first | (simp; done) | (simp [hk3]; done)
          have KC := Lib.hid (i_asc [b] (n := 1) rfl Ow5.out HBw5.out (by omega))
          have HZ2 := Lib.hid hzs2
          clear hzs2 HZ
          rw [← HZ2.out] at KC
          go_wp2_with fail
          refine KC.out.mono ?_
          rintro e w9 ⟨q9, c9, rfl, ho, hb⟩
          have HO9 := Lib.hid ho
          have HB9 := Lib.hid hb
          clear ho hb
          go_wp2
          go_ret
          exact ⟨HB9.out, q9, c9, rfl, HO9.out⟩
      · have nk3 : (kb == 3) = false := by simpa using hk3
        cases kl
        case false =>
          go_wp2_with (at_builtin; refine wpList_append_one rfl (.tmp 33) (.tmp 36) 26 rfl w.heap.size 3 (.int .i64 0) 1 8 Try.underlying26 zero_Int rfl (by decide) _ 0 [] rfl (World.ownsRow_nil _ _ _ _) [.int .i64 ((j : Int) + 1)] _ rfl (by first | (simp; done) | rfl) rfl ?c1 (by omega) (by omega) ?c2 ?_)
          case c1 => intro u hu; simp at hu; subst hu; rfl
          case c2 => exact HB4.out.size
          intro vw5 w5 hown hb hap
          have Ow5 := Lib.hid hown
          have HBw5 := Lib.hid (HB4.out.trans hb)
          have hb5 := hap.below (Nat.le_refl _) (by intro g hg; simp [Value.ownBlock] at hg)
          have Z5 := Lib.hid ((hb5.block w3.heap.size (by omega)).trans Z4.out)
          have hs5 := hb5.size
          clear hown hb hap hb5 y0 y1 y2 y3
          have z2 : w5.cell? ⟨w3.heap.size, 2, none⟩ = some (.int .i64 kb) := cell_of_row w5 w3.heap.size 2 _ _ _ Z5.out
          have hzs2 : V = Lib.compact (sortI [(j : Int) + 1]) := by rw [HZ.out]; first | (simp; done) | (simp [hk3]; done)
          have KC := Lib.hid (i_asc [(j : Int) + 1] (n := 1) rfl Ow5.out HBw5.out (by omega))
          have HZ2 := Lib.hid hzs2
          clear hzs2 HZ
          rw [← HZ2.out] at KC
          go_wp2_with fail
          refine KC.out.mono ?_
          rintro e w9 ⟨q9, c9, rfl, ho, hb⟩
          have HO9 := Lib.hid ho
          have HB9 := Lib.hid hb
          clear ho hb
          go_wp2
          go_ret
          exact ⟨HB9.out, q9, c9, rfl, HO9.out⟩
        case true =>
          have HBw4 := HB4
          have hzs2 : V = Lib.compact (sortI ([] : List Int)) := by rw [HZ.out]; first | (simp; done) | (simp [hk3]; done)
          have KC := Lib.hid (i_asc ([] : List Int) (n := 0) rfl (World.ownsRow_nil _ _ _ _) HBw4.out (by omega))
          have HZ2 := Lib.hid hzs2
          clear hzs2 HZ
          rw [← HZ2.out] at KC
          go_wp2_with fail
          refine KC.out.mono ?_
          rintro e w9 ⟨q9, c9, rfl, ho, hb⟩
          have HO9 := Lib.hid ho
          have HB9 := Lib.hid hb
          clear ho hb
          go_wp2
          go_ret
          exact ⟨HB9.out, q9, c9, rfl, HO9.out⟩
end Go.Proofs.Ytnhagmjknfiphab
