/- What the specification's AllInputs returns. No condition. -/
import Derived.Test.YtbdkningngpgcaaPrS
import Derived.Test.YtbdkningngpgcaaInb
import Derived.Test.YtbdkningngpgcaaAiM
import Derived.Test.YtbdkningngpgcaaOwAt
import Derived.Test.YtbdkningngpgcaaReg
import Derived.Laws.BitsLemmas
import Derived.Laws.BitsAllLaws
namespace Go.Proofs.Ytbdkningngpgcaa
open Go.ChangeShapes Go.WideShapes Go.ChangeAt Go.RowKit
theorem wraps_i64 (n : Int) (h₀ : 0 ≤ n) (h₁ : n < 2 ^ 62) : IntKind.i64.wrap n = n := by rw [IntKind.wrap_i64]; omega
theorem and_mask (b n : Nat) (h2 : b ≤ 8) (hn : n ≤ 4096) : bits .and .i64 (n : Int) ((2 : Int) ^ b - 1) = ((n % 2 ^ b : Nat) : Int) := by
  rw [bits_mask .i64 62 (by decide) wraps_i64 b (by omega) (n : Int) (by omega) (by omega)]
  simp
theorem pow_wrap {m : Nat} (h : m ≤ 12) : wrap64 ((2 : Int) ^ m) = ((2 ^ m : Nat) : Int) := by
  have : m = 0 ∨ m = 1 ∨ m = 2 ∨ m = 3 ∨ m = 4 ∨ m = 5 ∨ m = 6 ∨ m = 7 ∨ m = 8 ∨ m = 9 ∨ m = 10 ∨ m = 11 ∨ m = 12 := by omega
  rcases this with h | h | h | h | h | h | h | h | h | h | h | h | h <;> subst h <;> first | kernel_rfl | decide +kernel
theorem own_off4 {w : World} {base n b : Nat} {e : TypeId} {v : Value} {xs : List Value} {cs : Array Value} {T : TypeId} {fr : Nat × Nat} (hT : T ≠ e) (h : w.ownsRow base e 1 v n xs) (hb : w.heap[b]? = some (.cells cs T fr)) : b ∉ v.ownBlock.toList := fun hm => by
  rcases h.2 with ⟨rfl, _⟩ | ⟨g, cap, cur, rfl, _, hg, _⟩
  · simp [Value.ownBlock] at hm
  · simp [Value.ownBlock] at hm
    subst hm
    rw [hb] at hg
    injection hg with hg
    injection hg with _ e5
    exact hT e5
theorem own_slcE {w : World} {base n : Nat} {e : TypeId} {v : Value} {xs : List Value} (h : w.ownsRow base e 1 v n xs) : ∃ q cap, v = .slice q n cap := by
  rcases h.2 with ⟨rfl, h0⟩ | ⟨g, cap, _, rfl, _⟩
  · exact ⟨none, 0, by rw [h0]⟩
  · exact ⟨_, cap, rfl⟩
set_option maxRecDepth 100000 in
set_option maxHeartbeats 1000000 in
theorem s_wordof (b n : Nat) (h1 : 2 ≤ b) (h2 : b ≤ 8) (hn : n ≤ 4096) (w : World) :
    Calls Try.prog 44 #[.int .i64 b, .int .i64 n] w fun e w' => e = .returned (.int .i64 ((n % 2 ^ b : Nat) : Int)) ∧ w = w' := by
  have K := Lib.hid (fun W => s_rng (b : Int) 1 16 true (by simp; omega) W)
  have HM := Lib.hid (and_mask b n h2 hn)
  have HP := Lib.hid (show wrap64 (wrap64 ((2 : Int) ^ b) - 1) = (2 : Int) ^ b - 1 by
    have : b = 2 ∨ b = 3 ∨ b = 4 ∨ b = 5 ∨ b = 6 ∨ b = 7 ∨ b = 8 := by omega
    rcases this with h | h | h | h | h | h | h <;> subst h <;> first | kernel_rfl | decide +kernel)
  go_enter Try.func44, Try.ntmps44
  go_wp2_with fail
  refine (K.out _).mono ?_
  rintro e w1 ⟨rfl, rfl⟩
  go_wp2
  rw [HP.out, HM.out]
  go_ret
  exact ⟨rfl, rfl⟩
set_option maxRecDepth 100000 in
set_option maxHeartbeats 4000000 in
theorem s_allin (vw vm vi : Int) (L : List InsR) (s : Value) (w : World) (hs : Cs.Shows w 0 4 s L.length (InsR.all L)) (hok : ∀ r ∈ L, r.Ok) (hL : L.length ≤ maxLen) :
    Calls Try.prog 10 #[.agg #[.int .i64 vw, .int .i64 vm, .int .i64 vi, s]] w fun e w' => Below w.heap.size w w' ∧ ∃ q cap, e = .returned (.slice q (aiV vw vm vi L).length cap) ∧ (Cs.rows IntSS.c (aiV vw vm vi L)).Is w' 0 1 (aiV vw vm vi L).length (.slice q (aiV vw vm vi L).length cap) := by
  have hml : maxLen = 9223372036854775807 := rfl
  have K1 := Lib.hid (fun W (hb : Below w.heap.size w W) => s_prog vw vm vi L s W (hs.below hb) hok hL)
  obtain ⟨_, q, cap, rfl, _⟩ := hs
  obtain ⟨b1, hb1⟩ : ∃ B, prB vw vm vi L = B := ⟨_, rfl⟩
  rw [hb1] at K1
  obtain ⟨V, hV⟩ : ∃ V, aiV vw vm vi L = V := ⟨_, rfl⟩
  rw [hV]
  have HV := Lib.hid hV
  clear hV
  obtain ⟨i9, hi9, hz9, hzs9, hzb9⟩ := info_parts zero_Int
  obtain ⟨i8, hi8, hz8, hzs8, hzb8⟩ := info_parts zero_IntS
  obtain ⟨w0, hw0⟩ : ∃ w0, w0 = w.alloc (.cells #[.int .i64 vw, .int .i64 vm, .int .i64 vi, .slice q L.length cap] 30) := ⟨_, rfl⟩
  have HB0 := Lib.hid (show Below w.heap.size w w0 by rw [hw0]; exact (Below.refl _ _).alloc (Nat.le_refl _) _)
  have XR0 := Lib.hid (show w0.heap[w.heap.size]? = some (.cells #[.int .i64 vw, .int .i64 vm, .int .i64 vi, .slice q L.length cap] 30 (0, 0)) by rw [hw0]; exact heap_alloc_new _ _)
  obtain ⟨x0, x1, x2, x3⟩ := cell4_row XR0.out
  rw [hw0] at x0 x1 x2 x3
  go_enter Try.func10, Try.ntmps10
  go_wp2_with fail
  rw [← hw0]
  clear hw0 x0 x1 x2 x3
  refine (K1.out _ HB0.out).mono ?_
  rintro e w1 ⟨rfl, hb⟩
  have HB1 := Lib.hid (HB0.out.trans (hb.mono HB0.out.size))
  have XR1 := Lib.hid ((hb.block w.heap.size (row_lt XR0.out)).trans XR0.out)
  clear hb
  obtain ⟨x0, x1, x2, x3⟩ := cell4_row XR1.out
  cases b1
  case false =>
    have hv : V = [] := by rw [← HV.out]; unfold aiV; rw [hb1]; simp
    subst hv
    go_wp2
    go_ret
    exact ⟨HB1.out, none, 0, rfl, ⟨[], Cs.shows_of_owns (e := 37) (World.ownsRow_nil _ _ _ _), rfl⟩⟩
  case true =>
    obtain ⟨⟨hw2, hw8, -, -, -, hi0, hi3, -, -⟩, -⟩ := pr_in hb1
    obtain ⟨b, rfl⟩ : ∃ b : Nat, vw = b := ⟨vw.toNat, by omega⟩
    obtain ⟨I, rfl⟩ : ∃ I : Nat, vi = I := ⟨vi.toNat, by omega⟩
    have hmul : (b : Int) * (I : Int) = ((b * I : Nat) : Int) := by simp
    obtain ⟨m, hm⟩ : ∃ m, b * I = m := ⟨_, rfl⟩
    have hm24 : m ≤ 24 := by rw [← hm]; exact Nat.le_trans (Nat.mul_le_mul (show b ≤ 8 by omega) (show I ≤ 3 by omega)) (by decide)
    by_cases h12 : m ≤ 12
    case neg =>
      have hv : V = [] := by rw [← HV.out]; unfold aiV; rw [if_neg]; rintro ⟨-, h⟩; rw [hmul, hm] at h; omega
      subst hv
      rw [hm] at hmul
      have hgt : (12 : Int) < (m : Int) := by omega
      go_wp2
      go_ret
      exact ⟨HB1.out, none, 0, rfl, ⟨[], Cs.shows_of_owns (e := 37) (World.ownsRow_nil _ _ _ _), rfl⟩⟩
    case pos =>
      have hv : V = aiT (2 ^ b) I (2 ^ m) := by rw [← HV.out]; unfold aiV; rw [if_pos ⟨hb1, by rw [hmul, hm]; omega⟩, hmul, hm]; simp
      have HVV := Lib.hid hv
      rw [hm] at hmul
      have hle : ¬ ((12 : Int) < (m : Int)) := by omega
      obtain ⟨N, hN⟩ : ∃ N, 2 ^ m = N := ⟨_, rfl⟩
      have hN1 : N ≤ 4096 := by rw [← hN]; exact Nat.pow_le_pow_right (by decide) h12
      have hshl : wrap64 ((2 : Int) ^ m) = (N : Int) := by rw [pow_wrap h12, hN]
      rw [hN] at HVV
      clear hv HV hN
      have HSHL := Lib.hid hshl
      clear hshl
      have hs1 := HB1.out.size
      obtain ⟨w2, hw2x⟩ : ∃ W, W = w1.alloc (.cells #[] 37) := ⟨_, rfl⟩
      have hb2 : Below w1.heap.size w1 w2 := by rw [hw2x]; exact (Below.refl _ _).alloc (Nat.le_refl _) _
      have OU := Lib.hid (show w2.ownsRow w.heap.size 37 1 (.slice (some ⟨w1.heap.size, 0, none⟩) 0 0) 0 [] by rw [hw2x]; exact World.ownsRow_made w1 #[] 0 (by omega) (by omega) rfl)
      have HB2 := Lib.hid (HB1.out.trans (hb2.mono hs1))
      have XR2 := Lib.hid ((hb2.block w.heap.size (row_lt XR1.out)).trans XR1.out)
      clear hb2
      go_wp2
      rw [← hw2x]
      clear hw2x x0 x1 x2 x3
      go_loopw [3, 4] (fun ov nv wr => ∃ n : Nat, n ≤ N ∧ nv = .int .i64 n ∧ (∃ bs, (Cs.rows IntSS.c (aiT (2 ^ b) I n)).Has wr w.heap.size 37 1 n ov bs ∧ bs.Nodup) ∧ Below w.heap.size w wr ∧ wr.heap[w.heap.size]? = some (.cells #[.int .i64 b, .int .i64 vm, .int .i64 I, .slice q L.length cap] 30 (0, 0))) (fun _ nv _ => N - (intOf nv).toNat)
      case atStart => exact ⟨0, Nat.zero_le _, rfl, ⟨[w1.heap.size], ⟨[], [], OU.out, ⟨rfl, rfl⟩, by simp [Value.ownBlock]⟩, by simp⟩, HB2.out, XR2.out⟩
      case round =>
        obtain ⟨n, hn, rfl, ⟨bs, ⟨ys, c1, ho, hown, rfl⟩, hnd⟩, hB, hX⟩ := hrel
        obtain ⟨oq, oc, rfl⟩ := own_slcE ho
        have OV := Lib.hid ho
        have OW := Lib.hid hown
        have HND := Lib.hid hnd
        have HBr := Lib.hid hB
        have XRr := Lib.hid hX
        have hsr := hB.size
        clear ho hown hnd hB hX
        obtain ⟨x0, x1, x2, x3⟩ := cell4_row XRr.out
        by_cases hnn : n < N
        case pos =>
          have hni : (n : Int) < (N : Int) := Int.ofNat_lt.2 hnn
          obtain ⟨w5, hw5⟩ : ∃ W, W = wr.alloc (.cells #[] 3) := ⟨_, rfl⟩
          have hb5 : Below wr.heap.size wr w5 := by rw [hw5]; exact (Below.refl _ _).alloc (Nat.le_refl _) _
          have OL := Lib.hid (show w5.ownsRow wr.heap.size 3 1 (.slice (some ⟨wr.heap.size, 0, none⟩) 0 0) 0 [] by rw [hw5]; exact World.ownsRow_made wr #[] 0 (by omega) (by omega) rfl)
          have HL5 := Lib.hid hb5
          have XR5 := Lib.hid ((hb5.block w.heap.size (row_lt XRr.out)).trans XRr.out)
          clear hb5
          obtain ⟨y0, y1, y2, y3⟩ := cell4_row XR5.out
          rw [hw5] at y0 y1 y2 y3
          have hshl := HSHL.out
          go_wp2
          rw [← hw5]
          clear hw5 x0 x1 x2 x3 y0 y1 y2 y3 hshl
          go_loopw [5, 6] (fun lv kv w9 => ∃ j : Nat, j ≤ I ∧ kv = .int .i64 ((I : Int) - 1 - j) ∧ w9.ownsRow wr.heap.size 3 1 lv j (IntL.all ((dg (2 ^ b) I n).take j)) ∧ Below wr.heap.size wr w9) (fun _ kv _ => (intOf kv + 1).toNat)
          case atStart => exact ⟨0, Nat.zero_le _, by go_num, by rw [List.take_zero]; exact OL.out, HL5.out⟩
          case round =>
            obtain ⟨j, hj, rfl, hl, hb9⟩ := hrel
            rename World => w9
            obtain ⟨lq, lc, rfl⟩ := own_slcE hl
            have OL9 := Lib.hid hl
            have BK := Lib.hid hb9
            have HB9 := Lib.hid (HBr.out.trans (hb9.mono hsr))
            have XR9 := Lib.hid ((hb9.block w.heap.size (row_lt XRr.out)).trans XRr.out)
            have hs9 := hb9.size
            clear hl hb9
            by_cases hjI : j < I
            case pos =>
              obtain ⟨k, hik⟩ : ∃ k, I = j + k + 1 := ⟨I - 1 - j, by omega⟩
              have hkk : ((I : Int) - 1 - (j : Int)) = (k : Int) := by omega
              rw [hkk]
              have hk3 : k ≤ 3 := by omega
              have HIK := Lib.hid hik
              clear hkk hik
              have hk0 : (0 : Int) ≤ (k : Int) := by omega
              have KW := Lib.hid (fun x (h : x ≤ 4096) W => s_wordof b x (by omega) (by omega) h W)
              obtain ⟨z0, z1, z2, z3⟩ := cell4_row XR9.out
              have hmb : (k : Int) * (b : Int) = ((k * b : Nat) : Int) := by simp
              obtain ⟨u, hu⟩ : ∃ u, k * b = u := ⟨_, rfl⟩
              have hu16 : u ≤ 24 := by rw [← hu]; exact Nat.le_trans (Nat.mul_le_mul hk3 (show b ≤ 8 by omega)) (by decide)
              rw [hu] at hmb
              have hwu : IntKind.i64.wrap (u : Int) = (u : Int) := wraps_i64 _ (by omega) (by omega)
              have hu0 : ¬ ((u : Int) < 0) := by omega
              obtain ⟨wd, hwd⟩ : ∃ W, W = w9.drew := ⟨_, rfl⟩
              have XRd := Lib.hid (show wd.heap[w.heap.size]? = some (.cells #[.int .i64 b, .int .i64 vm, .int .i64 I, .slice q L.length cap] 30 (0, 0)) by rw [hwd]; exact XR9.out)
              have OLd := Lib.hid (show wd.ownsRow wr.heap.size 3 1 (.slice lq j lc) j (IntL.all ((dg (2 ^ b) I n).take j)) by rw [hwd]; exact own_keep OL9.out (Below.refl _ _).drew)
              have BKd := Lib.hid (show Below wr.heap.size wr wd by rw [hwd]; exact BK.out.drew)
              have HG := Lib.hid (show (dg (2 ^ b) I n).take (j + 1) = (dg (2 ^ b) I n).take j ++ [(((n / 2 ^ u) % 2 ^ b : Nat) : Int)] by
                have h := dg_get (2 ^ b) I n j hjI
                rw [show I - 1 - j = k by have := HIK.out; omega, ← Nat.pow_mul, Nat.mul_comm b k, hu] at h
                rw [List.take_add_one, h]
                rfl)
              have hnu : n / 2 ^ u ≤ 4096 := Nat.le_trans (Nat.div_le_self _ _) (by omega)
              have hsd := BKd.out.size
              go_wp2
              have CH := XRd
              refine region_s [] (fun V => V.heap[w.heap.size]? = some (.cells #[.int .i64 b, .int .i64 vm, .int .i64 I, .slice q L.length cap] 30 (0, 0))) (by kernel_rfl) ?_
              rw [← hwd]
              clear hwd
              refine take_s (i := 0) (v := .slice lq j lc) rfl (by kernel_rfl) (fun _ _ _ h => h) CH.out rfl (fun V hV => ?_) ?_
              · go_simp
              refine take_s (i := 1) (v := .pointer (some ⟨w.heap.size, 0, none⟩)) rfl (by kernel_rfl) (fun _ _ _ h => h) CH.out rfl (fun V hV => ?_) ?_
              · go_simp
              refine take_s (i := 2) (v := .int .i64 b) rfl (by kernel_rfl) (fun _ _ _ h => h) CH.out rfl (fun V hV => ?_) ?_
              · obtain ⟨z0, z1, z2, z3⟩ := cell4_row hV
                go_simp
              refine take_s (i := 3) (v := .int .i64 n) rfl (by kernel_rfl) (fun _ _ _ h => h) CH.out rfl (fun V hV => ?_) ?_
              · go_simp
              refine take_s (i := 4) (v := .int .i64 k) rfl (by kernel_rfl) (fun _ _ _ h => h) CH.out rfl (fun V hV => ?_) ?_
              · go_simp
              refine take_s (i := 5) (v := .pointer (some ⟨w.heap.size, 0, none⟩)) rfl (by kernel_rfl) (fun _ _ _ h => h) CH.out rfl (fun V hV => ?_) ?_
              · go_simp
              refine take_s (i := 6) (v := .int .i64 b) rfl (by kernel_rfl) (fun _ _ _ h => h) CH.out rfl (fun V hV => ?_) ?_
              · obtain ⟨z0, z1, z2, z3⟩ := cell4_row hV
                go_simp
              refine take_s (i := 7) (v := .int .i64 u) rfl (by kernel_rfl) (fun _ _ _ h => h) CH.out rfl (fun V hV => ?_) ?_
              · go_simp
              refine take_s (i := 8) (v := .int .i64 (n / 2 ^ u : Nat)) rfl (by kernel_rfl) (fun _ _ _ h => h) CH.out rfl (fun V hV => ?_) ?_
              · go_simp
              refine one_s (i := 9) (by kernel_rfl) (op_list rfl ?_)
              obtain ⟨y, hy⟩ : ∃ y, n / 2 ^ u = y := ⟨_, rfl⟩
              rw [hy] at HG hnu ⊢
              clear hy
              go_wp2_with fail
              refine (KW.out y hnu _).mono ?_
              rintro e wx ⟨rfl, rfl⟩
              obtain ⟨d, hd⟩ : ∃ d, y % 2 ^ b = d := ⟨_, rfl⟩
              rw [hd] at HG ⊢
              clear hd
              go_wp2
              refine ⟨fun _ => CH.out, ?_⟩
              refine one_s (i := 10) (by kernel_rfl) (op_list rfl ?_)
              go_wp2
              have hal2 : Below wd.heap.size wd (wd.alloc (.cells #[.int .i64 d] 3)) := (Below.refl _ _).alloc (Nat.le_refl _) _
              refine ⟨fun _ => (hal2.block _ (row_lt XRd.out)).trans XRd.out, ?_⟩
              refine one_s (i := 11) (by kernel_rfl) (op_list rfl ?_)
              refine wpList_append_own_at _ rfl _ _ 37 rfl wr.heap.size 3 i9 (.int .i64 0) 1 8 Try.underlying37 hi9 hz9 hzs9 hzb9 rfl (by decide) (.slice lq j lc) j _ rfl (own_keep OLd.out hal2) _ 1 1 [.int .i64 d] rfl rfl ?c1 ?c2 ?c3 ?c4 ?c5 ?_
              case c1 => exact cell_one_new _ _ _
              case c2 => intro u hu; simp at hu; subst hu; rfl
              case c3 => omega
              case c4 => omega
              case c5 => simp; omega
              intro v' w11 hown hgrow _ hat
              have OL11 := Lib.hid (show w11.ownsRow wr.heap.size 3 1 v' (j + 1) (IntL.all ((dg (2 ^ b) I n).take (j + 1))) by rw [HG.out, IntL.all_map, List.map_append, ← IntL.all_map]; exact hown)
              have BK11 := Lib.hid ((BKd.out.alloc hsd (.cells #[.int .i64 d] 3)).grown hgrow (by simp; omega) (fun b hb => (own_lt OLd.out (g := b) (by rw [hb]; simp)).1))
              have XR11 := Lib.hid ((hgrow.block w.heap.size (by have := row_lt XRd.out; simp; omega) (fun h => own_off3 (T := 30) (by decide) OLd.out XRd.out (by rw [← h]; simp))).trans ((hal2.block _ (row_lt XRd.out)).trans XRd.out))
              clear hown hgrow hat hal2
              obtain ⟨q11, c11, rfl⟩ := own_slcE OL11.out
              go_wp2
              refine ⟨fun _ => XR11.out, ?_⟩
              refine one_s (i := 12) (by kernel_rfl) (op_list rfl ?_)
              go_wp2
              refine ⟨fun _ => XR11.out, done_s (by kernel_rfl) ?_ _⟩
              clear hmb hwu hu0 z0 z1 z2 z3
              go_wp2
              go_roundw
              case rel => exact ⟨j + 1, by omega, by have := HIK.out; go_num, OL11.out, BK11.out⟩
              case measure => have := HIK.out; simp [intOf] <;> omega
            case neg =>
              have hje : j = I := by omega
              subst hje
              have hkk : ((j : Int) - 1 - (j : Int)) = -1 := by omega
              rw [hkk]
              have hDG := Lib.hid (show (dg (2 ^ b) j n).take j = dg (2 ^ b) j n from List.take_of_length_le (by rw [dg_len]; exact Nat.le_refl _))
              rw [hDG.out] at OL9
              have OV9 := Lib.hid (own_keep OV.out BK.out)
              have OW9 := Lib.hid (OW.out.below BK.out)
              obtain ⟨l, hl⟩ : ∃ l, dg (2 ^ b) j n = l := ⟨_, rfl⟩
              have hll : l.length = j := by rw [← hl, dg_len]
              have HS := Lib.hid (show aiT (2 ^ b) j (n + 1) = aiT (2 ^ b) j n ++ [l] by rw [aiT_succ, hl])
              rw [hl] at OL9
              clear hl
              have hneg : ¬ ((0 : Int) ≤ -1) := by omega
              go_wp2_with (at_builtin; refine wpList_append_own_at _ rfl _ _ 26 rfl w.heap.size 37 i8 (.slice none 0 0) 1 24 Try.underlying26 hi8 hz8 hzs8 hzb8 rfl (by decide) (.slice oq n oc) n _ rfl (own_keep OV9.out ((Below.refl _ _).alloc (Nat.le_refl _) _)) _ 1 1 [.slice lq j lc] rfl rfl ?c1 ?c2 ?c3 ?c4 ?c5 ?_)
              try case c1 => exact cell_one_new _ _ _
              case c2 => first | rfl | (intro u hu; simp at hu; subst hu; rfl)
              case c3 => omega
              case c4 => omega
              case c5 => have := HB9.out.size; first | omega | (simp; omega)
              intro v' w11 hown hgrow _ hat
              have hal2 : Below w9.heap.size w9 (w9.alloc (.cells #[.slice lq j lc] 37)) := (Below.refl _ _).alloc (Nat.le_refl _) _
              have RP := Lib.hid (rows_push (A := aiT (2 ^ b) j n) (l := l) (v := .slice oq n oc) hown OW9.out HND.out (by rw [hll]; exact own_base OL9.out hsr) (fun g hg hm => by
                have h1 := (own_lt OL9.out hg).1
                rcases List.mem_append.1 hm with hm | hm
                · have := (own_lt OV.out hm).2; omega
                · have := (OW.out.lt g hm).2; omega) hal2 hgrow (by rcases hat with h | h; exact .inl h; exact .inr (by rw [h]; simp)))
              rw [← HS.out] at RP
              have RP := Lib.hid (let ⟨bs, h1, h2, _⟩ := RP.out; (⟨bs, h1, h2⟩ : ∃ bs, (Cs.rows IntSS.c (aiT (2 ^ b) j (n + 1))).Has w11 w.heap.size 37 1 (n + 1) v' bs ∧ bs.Nodup))
              have HB11 := Lib.hid ((HB9.out.alloc HB9.out.size (.cells #[.slice lq j lc] 37)).grown hgrow (by have := HB9.out.size; simp; omega) (fun b hb => (own_lt OV9.out (g := b) (by rw [hb]; simp)).1))
              have XR11 := Lib.hid ((hgrow.block w.heap.size (by have := row_lt XR9.out; simp; omega) (fun h => own_off4 (T := 30) (by decide) OV9.out XR9.out (by rw [← h]; simp))).trans ((hal2.block w.heap.size (row_lt XR9.out)).trans XR9.out))
              clear hown hgrow hal2 hat
              go_wp2
              go_roundw
              case rel => exact ⟨n + 1, by omega, by go_num, RP.out, HB11.out, XR11.out⟩
              case measure => simp [intOf]; omega
        case neg =>
          have hne : n = N := by omega
          subst hne
          have hni : ¬ ((n : Int) < (n : Int)) := by omega
          have hshl := HSHL.out
          have HVV2 := Lib.hid (show V.length = n by rw [HVV.out, aiT_len])
          go_wp2
          go_ret
          rw [HVV2.out]
          exact ⟨HBr.out, oq, oc, rfl, by rw [HVV.out]; exact (Cs.Has.is ⟨_, _, OV.out, OW.out, rfl⟩).down (Nat.zero_le _)⟩
end Go.Proofs.Ytbdkningngpgcaa
