/- What the specification's StartPath returns. No condition. -/
import Derived.Test.YtbdkningngpgcaaSpM
import Derived.Test.YtbdkningngpgcaaPrS
import Derived.Test.YtbdkningngpgcaaReg
import Derived.Maps.AppendAt
namespace Go.Proofs.Ytbdkningngpgcaa
open Go.ChangeShapes Go.WideShapes Go.ChangeAt Go.RowKit
theorem own_offZ {w : World} {base n b z : Nat} {e : TypeId} {v : Value} {xs : List Value} {cs : Array Value} {T : TypeId} {fr : Nat × Nat} (hT : T ≠ e) (h : w.ownsRow base e z v n xs) (hb : w.heap[b]? = some (.cells cs T fr)) : b ∉ v.ownBlock.toList := fun hm => by
  rcases h.2 with ⟨rfl, _⟩ | ⟨g, cap, cur, rfl, _, hg, _⟩
  · simp [Value.ownBlock] at hm
  · simp [Value.ownBlock] at hm
    subst hm
    rw [hb] at hg
    injection hg with hg
    injection hg with _ e5
    exact hT e5
theorem row_len {w : World} {b : Nat} {u : Obj} (h : w.heap[b]? = some u) : b < w.heap.size := (Array.getElem?_eq_some_iff.1 h).1
theorem own_slcZ {w : World} {base n z : Nat} {e : TypeId} {v : Value} {xs : List Value} (h : w.ownsRow base e z v n xs) : ∃ q cap, v = .slice q n cap := by
  rcases h.2 with ⟨rfl, h0⟩ | ⟨g, cap, _, rfl, _⟩
  · exact ⟨none, 0, by rw [h0]⟩
  · exact ⟨_, cap, rfl⟩
/-- what a function leaves that gives such a path -/
def SpEnd (x : PaR) (w : World) (e : Ending) (w' : World) : Prop := Below w.heap.size w w' ∧ ∃ rq rc mq mc sq sc oq oc cq cc uq uc B, e = .returned (.agg #[.int .i64 x.pc, .slice rq x.R.len rc, .slice mq x.M.len mc, .slice sq x.S.length sc, .int .i64 x.inn, .slice oq x.O.len oc, .int .i64 x.cd, .int .i64 x.st, .slice cq x.C.len cc, .slice uq x.U.length uc]) ∧ PaO w' w.heap.size x (.slice rq x.R.len rc) (.slice mq x.M.len mc) (.slice sq x.S.length sc) (.slice oq x.O.len oc) (.slice cq x.C.len cc) (.slice uq x.U.length uc) B
theorem nil_has {w : World} {base : Nat} : (Fo.nil.cs 87).Has w base 87 5 Fo.nil.len (.slice none 0 0) [] := ⟨[], [], World.ownsRow_nil _ _ _ _, ⟨rfl, rfl⟩, by simp [Value.ownBlock]⟩
theorem sp_zero {w w' : World} (hb : Below w.heap.size w w') : SpEnd zeroPa w (.returned (.agg #[.int .i64 0, .slice none 0 0, .slice none 0 0, .slice none 0 0, .int .i64 0, .slice none 0 0, .int .i64 0, .int .i64 0, .slice none 0 0, .slice none 0 0])) w' :=
  ⟨hb, none, 0, none, 0, none, 0, none, 0, none, 0, none, 0, [], rfl, [], [], [], [], nil_has, nil_has, World.ownsRow_nil _ _ _ _, nil_has, nil_has, World.ownsRow_nil _ _ _ _, rfl, by simp⟩
theorem sp_made {w w' : World} {vw : Int} {vn : Nat} {rq mq : Option Addr} {rc mc : Nat} (hb : Below w.heap.size w w') (hr : w'.ownsRow w.heap.size 87 5 (.slice rq 4 rc) 4 (zcs vw 4)) (hm : w'.ownsRow w.heap.size 87 5 (.slice mq vn mc) vn (zcs vw vn))
    (hd : ∀ g ∈ (Value.slice rq 4 rc).ownBlock.toList, g ∉ (Value.slice mq vn mc).ownBlock.toList) : SpEnd ⟨0, repF vw 4, repF vw vn, [], 0, .nil, 0, 0, .nil, []⟩ w (.returned (.agg #[.int .i64 0, .slice rq 4 rc, .slice mq vn mc, .slice none 0 0, .int .i64 0, .slice none 0 0, .int .i64 0, .int .i64 0, .slice none 0 0, .slice none 0 0])) w' := by
  have h4 := repF_len vw 4
  have hn := repF_len vw vn
  refine ⟨hb, rq, rc, mq, mc, none, 0, none, 0, none, 0, none, 0, _, ?_, (Value.slice rq 4 rc).ownBlock.toList, (Value.slice mq vn mc).ownBlock.toList, [], [], ?_, ?_, World.ownsRow_nil _ _ _ _, nil_has, nil_has, World.ownsRow_nil _ _ _ _, rfl, ?_⟩
  · show _ = Ending.returned (.agg #[_, .slice rq (repF vw 4).len rc, .slice mq (repF vw vn).len mc, _, _, _, _, _, _, _])
    rw [h4, hn]
    rfl
  · show ((repF vw 4).cs 87).Has _ _ _ _ _ (.slice rq (repF vw 4).len rc) _
    have := rep_has hr
    rw [h4] at this ⊢
    exact this
  · show ((repF vw vn).cs 87).Has _ _ _ _ _ (.slice mq (repF vw vn).len mc) _
    have := rep_has hm
    rw [hn] at this ⊢
    exact this
  · simp only [Value.ownBlock, Option.toList_none, List.append_nil]
    rw [List.nodup_append]
    refine ⟨by cases rq <;> simp, by cases mq <;> simp, fun a ha b hb2 h => ?_⟩
    subst h
    exact hd a (by simpa [Value.ownBlock] using ha) (by simpa [Value.ownBlock] using hb2)
set_option maxRecDepth 100000 in
theorem s_const (vw : Int) (w : World) : Calls Try.prog 75 #[.int .i64 vw, .int .i64 0] w fun e w' => e = .returned (.agg #[.int .i64 0, .int .i64 vw, .int .i64 0, .string ByteArray.empty, .slice none 0 0]) ∧ Below w.heap.size w w' := by
  go_enter Try.func75, Try.ntmps75
  go_wp2
  refine bodyPost_ret (v := .agg #[.int .i64 0, .int .i64 vw, .int .i64 0, .string ByteArray.empty, .slice none 0 0]) (by simp [results, Try.results75, go_sem]; rfl) rfl ?_
  exact ⟨rfl, by first | exact Below.refl _ _ | exact (Below.refl _ _).alloc (Nat.le_refl _) _⟩
set_option maxRecDepth 100000 in
set_option maxHeartbeats 8000000 in
theorem s_start (vw vm vi : Int) (L : List InsR) (s : Value) (w : World) (hs : Cs.Shows w 0 4 s L.length (InsR.all L)) (hok : ∀ r ∈ L, r.Ok) (hL : L.length ≤ maxLen) :
    Calls Try.prog 38 #[.agg #[.int .i64 vw, .int .i64 vm, .int .i64 vi, s]] w (SpEnd (spV vw vm vi L) w) := by
  have hml : maxLen = 9223372036854775807 := rfl
  have K1 := Lib.hid (fun W (hb : Below w.heap.size w W) => s_prog vw vm vi L s W (hs.below hb) hok hL)
  obtain ⟨_, q, cap, rfl, _⟩ := hs
  obtain ⟨b1, hb1⟩ : ∃ B, prB vw vm vi L = B := ⟨_, rfl⟩
  rw [hb1] at K1
  obtain ⟨V, hV⟩ : ∃ V, spV vw vm vi L = V := ⟨_, rfl⟩
  rw [hV]
  have HV := Lib.hid hV
  clear hV
  obtain ⟨i8, hi8, hz8, hzs8, hzb8⟩ := info_parts infoT
  obtain ⟨v1, hv1⟩ : ∃ W, W = w.alloc (.cells #[.int .i64 vw, .int .i64 vm, .int .i64 vi, .slice q L.length cap] 30) := ⟨_, rfl⟩
  have hv1s : v1.heap.size = w.heap.size + 1 := by rw [hv1]; simp
  obtain ⟨w0, hw0⟩ : ∃ W, W = v1.alloc (.cells #[.int .i64 0, .slice none 0 0, .slice none 0 0, .slice none 0 0, .int .i64 0, .slice none 0 0, .int .i64 0, .int .i64 0, .slice none 0 0, .slice none 0 0] 58) := ⟨_, rfl⟩
  have k1 : Below v1.heap.size v1 w0 := by rw [hw0]; exact (Below.refl _ _).alloc (Nat.le_refl _) _
  have HB0 := Lib.hid (show Below w.heap.size w w0 by rw [hw0, hv1]; exact ((Below.refl _ _).alloc (Nat.le_refl _) _).alloc (by simp) _)
  have X0 := Lib.hid (show w0.heap[w.heap.size]? = some (.cells #[.int .i64 vw, .int .i64 vm, .int .i64 vi, .slice q L.length cap] 30 (0, 0)) from (k1.block w.heap.size (by omega)).trans (by rw [hv1]; exact heap_alloc_new _ _))
  have Z0 := Lib.hid (show w0.heap[w.heap.size + 1]? = some (.cells #[.int .i64 0, .slice none 0 0, .slice none 0 0, .slice none 0 0, .int .i64 0, .slice none 0 0, .int .i64 0, .int .i64 0, .slice none 0 0, .slice none 0 0] 58 (0, 0)) by rw [hw0, ← hv1s]; exact heap_alloc_new _ _)
  clear k1 hv1s
  rw [hv1] at hw0
  clear hv1
  obtain ⟨x0, x1, x2, x3⟩ := cell4_row X0.out
  obtain ⟨d0, d1, d2, d3, d4, d5, d6, d7, d8, d9⟩ := cell10_row Z0.out
  rw [hw0] at x0 x1 x2 x3 d0 d1 d2 d3 d4 d5 d6 d7 d8 d9
  go_enter Try.func38, Try.ntmps38
  go_wp2_with fail
  rw [← hw0] at x0 x1 x2 x3 d0 d1 d2 d3 d4 d5 d6 d7 d8 d9 ⊢
  clear hw0 x0 x1 x2 x3 d0 d1 d2 d3 d4 d5 d6 d7 d8 d9
  refine (K1.out _ HB0.out).mono ?_
  rintro e w1 ⟨rfl, hb⟩
  have HB1 := Lib.hid (HB0.out.trans (hb.mono HB0.out.size))
  have X1 := Lib.hid ((hb.block w.heap.size (row_len X0.out)).trans X0.out)
  have Z1 := Lib.hid ((hb.block (w.heap.size + 1) (row_len Z0.out)).trans Z0.out)
  have hs1 := Lib.hid HB1.out.size
  clear hb
  cases b1
  case false =>
    have hv : V = zeroPa := by rw [← HV.out]; unfold spV; rw [hb1]; rfl
    subst hv
    obtain ⟨d0, d1, d2, d3, d4, d5, d6, d7, d8, d9⟩ := cell10_row Z1.out
    obtain ⟨f0, f1, f2, f3, f4, f5, f6, f7, f8, f9⟩ := froz10_row Z1.out
    go_wp2
    obtain ⟨we, hwe⟩ : ∃ W9, W9 = ((((((((((w1.setCell ⟨w.heap.size + 1, 0, none⟩ (.int .i64 0)).setCell ⟨w.heap.size + 1, 1, none⟩ (.slice none 0 0)).setCell ⟨w.heap.size + 1, 2, none⟩ (.slice none 0 0)).setCell ⟨w.heap.size + 1, 3, none⟩ (.slice none 0 0)).setCell ⟨w.heap.size + 1, 4, none⟩ (.int .i64 0)).setCell ⟨w.heap.size + 1, 5, none⟩ (.slice none 0 0)).setCell ⟨w.heap.size + 1, 6, none⟩ (.int .i64 0)).setCell ⟨w.heap.size + 1, 7, none⟩ (.int .i64 0)).setCell ⟨w.heap.size + 1, 8, none⟩ (.slice none 0 0)).setCell ⟨w.heap.size + 1, 9, none⟩ (.slice none 0 0)) := ⟨_, rfl⟩
    have D2 := Lib.hid (show we.heap[w.heap.size + 1]? = some (.cells #[.int .i64 0, .slice none 0 0, .slice none 0 0, .slice none 0 0, .int .i64 0, .slice none 0 0, .int .i64 0, .int .i64 0, .slice none 0 0, .slice none 0 0] 58 (0, 0)) by rw [hwe]; exact set10_row Z1.out (.int .i64 0) (.slice none 0 0) (.slice none 0 0) (.slice none 0 0) (.int .i64 0) (.slice none 0 0) (.int .i64 0) (.int .i64 0) (.slice none 0 0) (.slice none 0 0))
    have BE := Lib.hid (show Below w.heap.size w we by rw [hwe]; exact set10_below HB1.out (by omega) (.int .i64 0) (.slice none 0 0) (.slice none 0 0) (.slice none 0 0) (.int .i64 0) (.slice none 0 0) (.int .i64 0) (.int .i64 0) (.slice none 0 0) (.slice none 0 0))
    rw [← hwe]
    clear hwe d0 d1 d2 d3 d4 d5 d6 d7 d8 d9 f0 f1 f2 f3 f4 f5 f6 f7 f8 f9
    obtain ⟨d0, d1, d2, d3, d4, d5, d6, d7, d8, d9⟩ := cell10_row D2.out
    refine bodyPost_ret (v := .agg #[.int .i64 0, .slice none 0 0, .slice none 0 0, .slice none 0 0, .int .i64 0, .slice none 0 0, .int .i64 0, .int .i64 0, .slice none 0 0, .slice none 0 0]) (by simp [results, Try.results38, go_sem, d0, d1, d2, d3, d4, d5, d6, d7, d8, d9]) rfl ?_
    exact sp_zero BE.out
  case true =>
    obtain ⟨⟨-, -, hm1, hm6, -, -, -, -, -⟩, -⟩ := pr_in hb1
    obtain ⟨vn, rfl⟩ : ∃ n : Nat, vm = n := ⟨vm.toNat, by omega⟩
    have hv : V = ⟨0, repF vw 4, repF vw vn, [], 0, .nil, 0, 0, .nil, []⟩ := by rw [← HV.out]; unfold spV; rw [hb1, Int.toNat_natCast]; rfl
    have HW := Lib.hid hv
    clear hv HV
    obtain ⟨bs, hbs⟩ : ∃ g, g = w1.heap.size := ⟨_, rfl⟩
    obtain ⟨w2, hw2⟩ : ∃ W, W = w1.alloc (.cells #[.int .i64 0, .slice none 0 0, .slice none 0 0, .slice none 0 0, .int .i64 0, .slice none 0 0, .int .i64 0, .int .i64 0, .slice none 0 0, .slice none 0 0] 58) := ⟨_, rfl⟩
    have hb2 : Below w1.heap.size w1 w2 := by rw [hw2]; exact (Below.refl _ _).alloc (Nat.le_refl _) _
    have HB2 := Lib.hid (HB1.out.trans (hb2.mono hs1.out))
    have X2 := Lib.hid ((hb2.block w.heap.size (row_len X1.out)).trans X1.out)
    have Z2 := Lib.hid ((hb2.block (w.heap.size + 1) (row_len Z1.out)).trans Z1.out)
    have S2 := Lib.hid (show w2.heap[bs]? = some (.cells #[.int .i64 0, .slice none 0 0, .slice none 0 0, .slice none 0 0, .int .i64 0, .slice none 0 0, .int .i64 0, .int .i64 0, .slice none 0 0, .slice none 0 0] 58 (0, 0)) by rw [hw2, hbs]; exact heap_alloc_new _ _)
    have hbg := Lib.hid (show w.heap.size + 1 < bs by rw [hbs]; exact row_len Z1.out)
    clear hb2
    go_wp2
    rw [← hw2, ← hbs]
    clear hw2 hbs
    go_loopw [4] (fun kv wr => ∃ (j : Nat) (r : Value), j ≤ 4 ∧ kv = .int .i64 j ∧ wr.heap[bs]? = some (.cells #[.int .i64 0, r, .slice none 0 0, .slice none 0 0, .int .i64 0, .slice none 0 0, .int .i64 0, .int .i64 0, .slice none 0 0, .slice none 0 0] 58 (0, 0)) ∧ wr.ownsRow w.heap.size 87 5 (r) j (zcs vw j) ∧ wr.ownsRow w.heap.size 87 5 (.slice none 0 0) 0 (zcs vw 0) ∧ (∀ g ∈ (r : Value).ownBlock.toList, g ∉ (.slice none 0 0 : Value).ownBlock.toList) ∧ Below w.heap.size w wr ∧ wr.heap[w.heap.size]? = some (.cells #[.int .i64 vw, .int .i64 vn, .int .i64 vi, .slice q L.length cap] 30 (0, 0)) ∧ wr.heap[w.heap.size + 1]? = some (.cells #[.int .i64 0, .slice none 0 0, .slice none 0 0, .slice none 0 0, .int .i64 0, .slice none 0 0, .int .i64 0, .int .i64 0, .slice none 0 0, .slice none 0 0] 58 (0, 0))) (fun kv _ => 4 - (intOf kv).toNat)
    case atStart => exact ⟨0, .slice none 0 0, by omega, rfl, S2.out, World.ownsRow_nil _ _ _ _, World.ownsRow_nil _ _ _ _, fun g hg => by simp [Value.ownBlock] at hg, HB2.out, X2.out, Z2.out⟩
    case round =>
      obtain ⟨j, r, hj, rfl, hS, hr, hm, hap, hB, hX, hZ⟩ := hrel
      obtain ⟨tq, tc, rfl⟩ := own_slcZ hr
      have SR := Lib.hid hS
      have OV := Lib.hid hr
      have OO := Lib.hid hm
      have AP := Lib.hid hap
      have HBr := Lib.hid hB
      have XRr := Lib.hid hX
      have ZRr := Lib.hid hZ
      clear hS hr hm hap hB hX hZ
      by_cases hjn : j < 4
      case pos =>
        have hji : (j : Int) < 4 := by omega
        obtain ⟨wd, hwd⟩ : ∃ W, W = wr.drew := ⟨_, rfl⟩
        have SD := Lib.hid (show wd.heap[bs]? = some (.cells #[.int .i64 0, .slice tq j tc, .slice none 0 0, .slice none 0 0, .int .i64 0, .slice none 0 0, .int .i64 0, .int .i64 0, .slice none 0 0, .slice none 0 0] 58 (0, 0)) by rw [hwd]; exact SR.out)
        have XD := Lib.hid (show wd.heap[w.heap.size]? = some (.cells #[.int .i64 vw, .int .i64 vn, .int .i64 vi, .slice q L.length cap] 30 (0, 0)) by rw [hwd]; exact XRr.out)
        have ZD := Lib.hid (show wd.heap[w.heap.size + 1]? = some (.cells #[.int .i64 0, .slice none 0 0, .slice none 0 0, .slice none 0 0, .int .i64 0, .slice none 0 0, .int .i64 0, .int .i64 0, .slice none 0 0, .slice none 0 0] 58 (0, 0)) by rw [hwd]; exact ZRr.out)
        have OVD := Lib.hid (show wd.ownsRow w.heap.size 87 5 (.slice tq j tc) j (zcs vw j) by rw [hwd]; exact own_keep OV.out (Below.refl _ _).drew)
        have OOD := Lib.hid (show wd.ownsRow w.heap.size 87 5 (.slice none 0 0) 0 (zcs vw 0) by rw [hwd]; exact own_keep OO.out (Below.refl _ _).drew)
        have HD := Lib.hid (show Below w.heap.size w wd by rw [hwd]; exact HBr.out.drew)
        go_wp2
        refine region_s [8] (fun V => V.heap[bs]? = some (.cells #[.int .i64 0, .slice tq j tc, .slice none 0 0, .slice none 0 0, .int .i64 0, .slice none 0 0, .int .i64 0, .int .i64 0, .slice none 0 0, .slice none 0 0] 58 (0, 0)) ∧ V.heap[w.heap.size]? = some (.cells #[.int .i64 vw, .int .i64 vn, .int .i64 vi, .slice q L.length cap] 30 (0, 0))) (by kernel_rfl) ?_
        rw [← hwd]
        clear hwd
        have CH := Lib.hid (And.intro SD.out XD.out)
        refine take_s (i := 0) (v := .pointer (some ⟨bs, 1, none⟩)) rfl (by kernel_rfl) (fun _ _ _ h => h) CH.out rfl (fun V hV => ?_) ?_
        · go_simp
        refine take_s (i := 1) (v := .slice tq j tc) rfl (by kernel_rfl) (fun _ _ _ h => h) CH.out rfl (fun V hV => ?_) ?_
        · obtain ⟨y0, y1, y2, y3, y4, y5, y6, y7, y8, y9⟩ := cell10_row hV.1
          go_simp
        refine take_s (i := 2) (v := .pointer (some ⟨w.heap.size, 0, none⟩)) rfl (by kernel_rfl) (fun _ _ _ h => h) CH.out rfl (fun V hV => ?_) ?_
        · go_simp
        refine take_s (i := 3) (v := .int .i64 vw) rfl (by kernel_rfl) (fun _ _ _ h => h) CH.out rfl (fun V hV => ?_) ?_
        · obtain ⟨x0, x1, x2, x3⟩ := cell4_row hV.2
          go_simp
        refine one_s (i := 4) (by kernel_rfl) (op_list rfl ?_)
        go_wp2_with fail
        refine (s_const vw _).mono ?_
        rintro e w4 ⟨rfl, hb⟩
        have S4 := Lib.hid ((hb.block bs (row_len SD.out)).trans SD.out)
        have X4 := Lib.hid ((hb.block w.heap.size (row_len XD.out)).trans XD.out)
        have Z4 := Lib.hid ((hb.block (w.heap.size + 1) (row_len ZD.out)).trans ZD.out)
        have OV4 := Lib.hid (own_keep OVD.out hb)
        have OO4 := Lib.hid (own_keep OOD.out hb)
        have H4 := Lib.hid (HD.out.trans (hb.mono HD.out.size))
        clear hb
        go_wp2
        refine ⟨fun _ => ⟨S4.out, X4.out⟩, ?_⟩
        refine one_s (i := 5) (by kernel_rfl) (op_list rfl ?_)
        obtain ⟨w5, hw5⟩ : ∃ W, W = w4.alloc (.cells #[.int .i64 0, .int .i64 vw, .int .i64 0, .string ByteArray.empty, .slice none 0 0] 87) := ⟨_, rfl⟩
        have hb5 : Below w4.heap.size w4 w5 := by rw [hw5]; exact (Below.refl _ _).alloc (Nat.le_refl _) _
        have T5 := Lib.hid (show w5.heap[w4.heap.size]? = some (.cells #[.int .i64 0, .int .i64 vw, .int .i64 0, .string ByteArray.empty, .slice none 0 0] 87 (0, 0)) by rw [hw5]; exact heap_alloc_new _ _)
        have S5 := Lib.hid ((hb5.block bs (row_len S4.out)).trans S4.out)
        have X5 := Lib.hid ((hb5.block w.heap.size (row_len X4.out)).trans X4.out)
        have Z5 := Lib.hid ((hb5.block (w.heap.size + 1) (row_len Z4.out)).trans Z4.out)
        have OV5 := Lib.hid (own_keep OV4.out hb5)
        have OO5 := Lib.hid (own_keep OO4.out hb5)
        have H5 := Lib.hid (H4.out.trans (hb5.mono H4.out.size))
        clear hb5
        go_wp2
        rw [← hw5]
        clear hw5
        refine ⟨fun _ => ⟨S5.out, X5.out⟩, ?_⟩
        refine one_s (i := 6) (by kernel_rfl) (op_list rfl ?_)
        refine wpList_append_own_at _ rfl _ _ 56 rfl w.heap.size 87 i8 _ 5 64 Try.underlying56 hi8 hz8 hzs8 hzb8 rfl (by decide) (.slice tq j tc) j _ rfl OV5.out ⟨w4.heap.size, 0, none⟩ 1 1 (zc vw) rfl rfl ?c1 ?c2 ?c3 ?c4 ?c5 ?_
        case c1 => intro k u hu; rw [Addr.add_lit, cell_of_row _ _ _ _ _ _ T5.out]; simpa [zc] using hu
        case c2 => intro u hu; simp [zc] at hu; rcases hu with rfl | rfl | rfl | rfl | rfl <;> rfl
        case c3 => omega
        case c4 => omega
        case c5 => exact H5.out.size
        intro v' w6 hown hgrow _ hat
        rw [← zcs_succ] at hown
        obtain ⟨nq, nc, rfl⟩ := own_slcZ hown
        have hng : ∀ g, g ∉ (Value.slice tq j tc).ownBlock.toList → g < w5.heap.size → w6.heap[g]? = w5.heap[g]? := fun g h1 h2 => hgrow.block g h2 (fun h => h1 (by rw [← h]; simp))
        have S6 := Lib.hid ((hng bs (own_offZ (T := 58) (by decide) OV5.out S5.out) (row_len S5.out)).trans S5.out)
        have X6 := Lib.hid ((hng w.heap.size (own_offZ (T := 30) (by decide) OV5.out X5.out) (row_len X5.out)).trans X5.out)
        have Z6 := Lib.hid ((hng (w.heap.size + 1) (own_offZ (T := 58) (by decide) OV5.out Z5.out) (row_len Z5.out)).trans Z5.out)
        have OV6 := Lib.hid hown
        have OO6 := Lib.hid (own_same OO5.out (fun g hg => hng g (fun h => AP.out g h hg) (own_lt OO5.out hg).2))
        have AP6 : Hid (∀ g ∈ (.slice nq (j + 1) nc : Value).ownBlock.toList, g ∉ (.slice none 0 0 : Value).ownBlock.toList) := Lib.hid (fun g hg hm => by
          simp [Value.ownBlock] at hm)
        have H6 := Lib.hid ((H5.out).grown hgrow H5.out.size (fun b hb => (own_lt OV5.out (g := b) (by rw [hb]; simp)).1))
        clear hown hgrow hat hng
        go_wp2
        refine ⟨fun _ => ⟨S6.out, X6.out⟩, ?_⟩
        refine one_s (i := 7) (by kernel_rfl) (op_list rfl ?_)
        go_wp2
        refine ⟨fun _ => ⟨S6.out, X6.out⟩, ?_⟩
        obtain ⟨y0, y1, y2, y3, y4, y5, y6, y7, y8, y9⟩ := cell10_row S6.out
        obtain ⟨f0, f1, f2, f3, f4, f5, f6, f7, f8, f9⟩ := froz10_row S6.out
        obtain ⟨w7, hw7⟩ : ∃ W, W = w6.setCell ⟨bs, 1, none⟩ (.slice nq (j + 1) nc) := ⟨_, rfl⟩
        have S7 := Lib.hid (show w7.heap[bs]? = some (.cells #[.int .i64 0, .slice nq (j + 1) nc, .slice none 0 0, .slice none 0 0, .int .i64 0, .slice none 0 0, .int .i64 0, .int .i64 0, .slice none 0 0, .slice none 0 0] 58 (0, 0)) by rw [hw7]; exact heap_setCell_same w6 bs 1 _ _ _ S6.out)
        have hne : ∀ k, k ≠ bs → w7.heap[k]? = w6.heap[k]? := fun k hk => by rw [hw7]; exact heap_setCell_other _ _ _ _ hk
        have X7 := Lib.hid ((hne w.heap.size (by have := hbg.out; omega)).trans X6.out)
        have Z7 := Lib.hid ((hne (w.heap.size + 1) (by have := hbg.out; omega)).trans Z6.out)
        have OV7 := Lib.hid (own_same OV6.out (fun g hg => hne g (fun h => own_offZ (T := 58) (by decide) OV6.out S6.out (h ▸ hg))))
        have OO7 := Lib.hid (own_same OO6.out (fun g hg => hne g (fun h => own_offZ (T := 58) (by decide) OO6.out S6.out (h ▸ hg))))
        have H7 := Lib.hid (show Below w.heap.size w w7 by rw [hw7]; exact H6.out.setCell (by have := hbg.out; simp; omega) _)
        clear hne
        refine one_s (i := 8) (by kernel_rfl) (op_list rfl ?_)
        go_wp2
        rw [← hw7]
        clear hw7 y0 y1 y2 y3 y4 y5 y6 y7 y8 y9 f0 f1 f2 f3 f4 f5 f6 f7 f8 f9
        refine ⟨late_s (by kernel_rfl), done_s (by kernel_rfl) ?_ _⟩
        go_wp2
        go_roundw
        case rel => exact ⟨j + 1, _, by omega, by go_num, S7.out, OV7.out, OO7.out, AP6.out, H7.out, X7.out, Z7.out⟩
        case measure => simp [intOf] <;> omega
      case neg =>
        have hje : j = 4 := by omega
        subst hje
        have hji : ¬ (((4 : Nat) : Int) < 4) := by omega
        go_wp2
        go_loopw [5] (fun kv w9 => ∃ (j : Nat) (m : Value), j ≤ vn ∧ kv = .int .i64 j ∧ w9.heap[bs]? = some (.cells #[.int .i64 0, .slice tq 4 tc, m, .slice none 0 0, .int .i64 0, .slice none 0 0, .int .i64 0, .int .i64 0, .slice none 0 0, .slice none 0 0] 58 (0, 0)) ∧ w9.ownsRow w.heap.size 87 5 (.slice tq 4 tc) 4 (zcs vw 4) ∧ w9.ownsRow w.heap.size 87 5 (m) j (zcs vw j) ∧ (∀ g ∈ (.slice tq 4 tc : Value).ownBlock.toList, g ∉ (m : Value).ownBlock.toList) ∧ Below w.heap.size w w9 ∧ w9.heap[w.heap.size]? = some (.cells #[.int .i64 vw, .int .i64 vn, .int .i64 vi, .slice q L.length cap] 30 (0, 0)) ∧ w9.heap[w.heap.size + 1]? = some (.cells #[.int .i64 0, .slice none 0 0, .slice none 0 0, .slice none 0 0, .int .i64 0, .slice none 0 0, .int .i64 0, .int .i64 0, .slice none 0 0, .slice none 0 0] 58 (0, 0))) (fun kv _ => vn - (intOf kv).toNat)
        case atStart => exact ⟨0, _, Nat.zero_le _, rfl, SR.out, OV.out, OO.out, AP.out, HBr.out, XRr.out, ZRr.out⟩
        case round =>
          clear SR OV OO AP HBr XRr ZRr
          obtain ⟨j, m, hj, rfl, hS, hr, hm, hap, hB, hX, hZ⟩ := hrel
          obtain ⟨rq, hrq⟩ : ∃ x, x = tq := ⟨_, rfl⟩
          obtain ⟨rc, hrc⟩ : ∃ x, x = tc := ⟨_, rfl⟩
          rw [← hrq, ← hrc] at hS hr hap ⊢
          clear hrq hrc tq tc
          skip
          obtain ⟨tq, tc, rfl⟩ := own_slcZ hm
          have SR := Lib.hid hS
          have OV := Lib.hid hm
          have OO := Lib.hid hr
          have AP := Lib.hid hap
          have HBr := Lib.hid hB
          have XRr := Lib.hid hX
          have ZRr := Lib.hid hZ
          clear hS hr hm hap hB hX hZ
          obtain ⟨x0, x1, x2, x3⟩ := cell4_row XRr.out
          by_cases hjn : j < vn
          case pos =>
            have hji : (j : Int) < (vn : Int) := by omega
            obtain ⟨wd, hwd⟩ : ∃ W, W = wr.drew := ⟨_, rfl⟩
            have SD := Lib.hid (show wd.heap[bs]? = some (.cells #[.int .i64 0, .slice rq 4 rc, .slice tq j tc, .slice none 0 0, .int .i64 0, .slice none 0 0, .int .i64 0, .int .i64 0, .slice none 0 0, .slice none 0 0] 58 (0, 0)) by rw [hwd]; exact SR.out)
            have XD := Lib.hid (show wd.heap[w.heap.size]? = some (.cells #[.int .i64 vw, .int .i64 vn, .int .i64 vi, .slice q L.length cap] 30 (0, 0)) by rw [hwd]; exact XRr.out)
            have ZD := Lib.hid (show wd.heap[w.heap.size + 1]? = some (.cells #[.int .i64 0, .slice none 0 0, .slice none 0 0, .slice none 0 0, .int .i64 0, .slice none 0 0, .int .i64 0, .int .i64 0, .slice none 0 0, .slice none 0 0] 58 (0, 0)) by rw [hwd]; exact ZRr.out)
            have OVD := Lib.hid (show wd.ownsRow w.heap.size 87 5 (.slice tq j tc) j (zcs vw j) by rw [hwd]; exact own_keep OV.out (Below.refl _ _).drew)
            have OOD := Lib.hid (show wd.ownsRow w.heap.size 87 5 (.slice rq 4 rc) 4 (zcs vw 4) by rw [hwd]; exact own_keep OO.out (Below.refl _ _).drew)
            have HD := Lib.hid (show Below w.heap.size w wd by rw [hwd]; exact HBr.out.drew)
            go_wp2
            refine region_s [8] (fun V => V.heap[bs]? = some (.cells #[.int .i64 0, .slice rq 4 rc, .slice tq j tc, .slice none 0 0, .int .i64 0, .slice none 0 0, .int .i64 0, .int .i64 0, .slice none 0 0, .slice none 0 0] 58 (0, 0)) ∧ V.heap[w.heap.size]? = some (.cells #[.int .i64 vw, .int .i64 vn, .int .i64 vi, .slice q L.length cap] 30 (0, 0))) (by kernel_rfl) ?_
            rw [← hwd]
            clear hwd
            have CH := Lib.hid (And.intro SD.out XD.out)
            refine take_s (i := 0) (v := .pointer (some ⟨bs, 2, none⟩)) rfl (by kernel_rfl) (fun _ _ _ h => h) CH.out rfl (fun V hV => ?_) ?_
            · go_simp
            refine take_s (i := 1) (v := .slice tq j tc) rfl (by kernel_rfl) (fun _ _ _ h => h) CH.out rfl (fun V hV => ?_) ?_
            · obtain ⟨y0, y1, y2, y3, y4, y5, y6, y7, y8, y9⟩ := cell10_row hV.1
              go_simp
            refine take_s (i := 2) (v := .pointer (some ⟨w.heap.size, 0, none⟩)) rfl (by kernel_rfl) (fun _ _ _ h => h) CH.out rfl (fun V hV => ?_) ?_
            · go_simp
            refine take_s (i := 3) (v := .int .i64 vw) rfl (by kernel_rfl) (fun _ _ _ h => h) CH.out rfl (fun V hV => ?_) ?_
            · obtain ⟨x0, x1, x2, x3⟩ := cell4_row hV.2
              go_simp
            refine one_s (i := 4) (by kernel_rfl) (op_list rfl ?_)
            go_wp2_with fail
            refine (s_const vw _).mono ?_
            rintro e w4 ⟨rfl, hb⟩
            have S4 := Lib.hid ((hb.block bs (row_len SD.out)).trans SD.out)
            have X4 := Lib.hid ((hb.block w.heap.size (row_len XD.out)).trans XD.out)
            have Z4 := Lib.hid ((hb.block (w.heap.size + 1) (row_len ZD.out)).trans ZD.out)
            have OV4 := Lib.hid (own_keep OVD.out hb)
            have OO4 := Lib.hid (own_keep OOD.out hb)
            have H4 := Lib.hid (HD.out.trans (hb.mono HD.out.size))
            clear hb
            go_wp2
            refine ⟨fun _ => ⟨S4.out, X4.out⟩, ?_⟩
            refine one_s (i := 5) (by kernel_rfl) (op_list rfl ?_)
            obtain ⟨w5, hw5⟩ : ∃ W, W = w4.alloc (.cells #[.int .i64 0, .int .i64 vw, .int .i64 0, .string ByteArray.empty, .slice none 0 0] 87) := ⟨_, rfl⟩
            have hb5 : Below w4.heap.size w4 w5 := by rw [hw5]; exact (Below.refl _ _).alloc (Nat.le_refl _) _
            have T5 := Lib.hid (show w5.heap[w4.heap.size]? = some (.cells #[.int .i64 0, .int .i64 vw, .int .i64 0, .string ByteArray.empty, .slice none 0 0] 87 (0, 0)) by rw [hw5]; exact heap_alloc_new _ _)
            have S5 := Lib.hid ((hb5.block bs (row_len S4.out)).trans S4.out)
            have X5 := Lib.hid ((hb5.block w.heap.size (row_len X4.out)).trans X4.out)
            have Z5 := Lib.hid ((hb5.block (w.heap.size + 1) (row_len Z4.out)).trans Z4.out)
            have OV5 := Lib.hid (own_keep OV4.out hb5)
            have OO5 := Lib.hid (own_keep OO4.out hb5)
            have H5 := Lib.hid (H4.out.trans (hb5.mono H4.out.size))
            clear hb5
            go_wp2
            rw [← hw5]
            clear hw5
            refine ⟨fun _ => ⟨S5.out, X5.out⟩, ?_⟩
            refine one_s (i := 6) (by kernel_rfl) (op_list rfl ?_)
            refine wpList_append_own_at _ rfl _ _ 56 rfl w.heap.size 87 i8 _ 5 64 Try.underlying56 hi8 hz8 hzs8 hzb8 rfl (by decide) (.slice tq j tc) j _ rfl OV5.out ⟨w4.heap.size, 0, none⟩ 1 1 (zc vw) rfl rfl ?c1 ?c2 ?c3 ?c4 ?c5 ?_
            case c1 => intro k u hu; rw [Addr.add_lit, cell_of_row _ _ _ _ _ _ T5.out]; simpa [zc] using hu
            case c2 => intro u hu; simp [zc] at hu; rcases hu with rfl | rfl | rfl | rfl | rfl <;> rfl
            case c3 => omega
            case c4 => omega
            case c5 => exact H5.out.size
            intro v' w6 hown hgrow _ hat
            rw [← zcs_succ] at hown
            obtain ⟨nq, nc, rfl⟩ := own_slcZ hown
            have hng : ∀ g, g ∉ (Value.slice tq j tc).ownBlock.toList → g < w5.heap.size → w6.heap[g]? = w5.heap[g]? := fun g h1 h2 => hgrow.block g h2 (fun h => h1 (by rw [← h]; simp))
            have S6 := Lib.hid ((hng bs (own_offZ (T := 58) (by decide) OV5.out S5.out) (row_len S5.out)).trans S5.out)
            have X6 := Lib.hid ((hng w.heap.size (own_offZ (T := 30) (by decide) OV5.out X5.out) (row_len X5.out)).trans X5.out)
            have Z6 := Lib.hid ((hng (w.heap.size + 1) (own_offZ (T := 58) (by decide) OV5.out Z5.out) (row_len Z5.out)).trans Z5.out)
            have OV6 := Lib.hid hown
            have OO6 := Lib.hid (own_same OO5.out (fun g hg => hng g (fun h => AP.out g hg h) (own_lt OO5.out hg).2))
            have AP6 : Hid (∀ g ∈ (.slice rq 4 rc : Value).ownBlock.toList, g ∉ (.slice nq (j + 1) nc : Value).ownBlock.toList) := Lib.hid (fun g hg hm => by
              rcases hat with h | h
              · rw [h] at hm; exact AP.out g hg hm
              · rw [h] at hm
                simp at hm
                subst hm
                have := (own_lt OO5.out hg).2; omega)
            have H6 := Lib.hid ((H5.out).grown hgrow H5.out.size (fun b hb => (own_lt OV5.out (g := b) (by rw [hb]; simp)).1))
            clear hown hgrow hat hng
            go_wp2
            refine ⟨fun _ => ⟨S6.out, X6.out⟩, ?_⟩
            refine one_s (i := 7) (by kernel_rfl) (op_list rfl ?_)
            go_wp2
            refine ⟨fun _ => ⟨S6.out, X6.out⟩, ?_⟩
            obtain ⟨y0, y1, y2, y3, y4, y5, y6, y7, y8, y9⟩ := cell10_row S6.out
            obtain ⟨f0, f1, f2, f3, f4, f5, f6, f7, f8, f9⟩ := froz10_row S6.out
            obtain ⟨w7, hw7⟩ : ∃ W, W = w6.setCell ⟨bs, 2, none⟩ (.slice nq (j + 1) nc) := ⟨_, rfl⟩
            have S7 := Lib.hid (show w7.heap[bs]? = some (.cells #[.int .i64 0, .slice rq 4 rc, .slice nq (j + 1) nc, .slice none 0 0, .int .i64 0, .slice none 0 0, .int .i64 0, .int .i64 0, .slice none 0 0, .slice none 0 0] 58 (0, 0)) by rw [hw7]; exact heap_setCell_same w6 bs 2 _ _ _ S6.out)
            have hne : ∀ k, k ≠ bs → w7.heap[k]? = w6.heap[k]? := fun k hk => by rw [hw7]; exact heap_setCell_other _ _ _ _ hk
            have X7 := Lib.hid ((hne w.heap.size (by have := hbg.out; omega)).trans X6.out)
            have Z7 := Lib.hid ((hne (w.heap.size + 1) (by have := hbg.out; omega)).trans Z6.out)
            have OV7 := Lib.hid (own_same OV6.out (fun g hg => hne g (fun h => own_offZ (T := 58) (by decide) OV6.out S6.out (h ▸ hg))))
            have OO7 := Lib.hid (own_same OO6.out (fun g hg => hne g (fun h => own_offZ (T := 58) (by decide) OO6.out S6.out (h ▸ hg))))
            have H7 := Lib.hid (show Below w.heap.size w w7 by rw [hw7]; exact H6.out.setCell (by have := hbg.out; simp; omega) _)
            clear hne
            refine one_s (i := 8) (by kernel_rfl) (op_list rfl ?_)
            go_wp2
            rw [← hw7]
            clear hw7 y0 y1 y2 y3 y4 y5 y6 y7 y8 y9 f0 f1 f2 f3 f4 f5 f6 f7 f8 f9
            refine ⟨late_s (by kernel_rfl), done_s (by kernel_rfl) ?_ _⟩
            go_wp2
            go_roundw
            case rel => exact ⟨j + 1, _, by omega, by go_num, S7.out, OO7.out, OV7.out, AP6.out, H7.out, X7.out, Z7.out⟩
            case measure => simp [intOf] <;> omega
          case neg =>
            have hje : j = vn := by omega
            subst hje
            have hji : ¬ ((j : Int) < (j : Int)) := by omega
            obtain ⟨y0, y1, y2, y3, y4, y5, y6, y7, y8, y9⟩ := cell10_row SR.out
            obtain ⟨d0, d1, d2, d3, d4, d5, d6, d7, d8, d9⟩ := cell10_row ZRr.out
            obtain ⟨f0, f1, f2, f3, f4, f5, f6, f7, f8, f9⟩ := froz10_row ZRr.out
            have hs2 := Lib.hid HBr.out.size
            go_wp2
            obtain ⟨we, hwe⟩ : ∃ W9, W9 = ((((((((((wr.setCell ⟨w.heap.size + 1, 0, none⟩ (.int .i64 0)).setCell ⟨w.heap.size + 1, 1, none⟩ (.slice rq 4 rc)).setCell ⟨w.heap.size + 1, 2, none⟩ (.slice tq j tc)).setCell ⟨w.heap.size + 1, 3, none⟩ (.slice none 0 0)).setCell ⟨w.heap.size + 1, 4, none⟩ (.int .i64 0)).setCell ⟨w.heap.size + 1, 5, none⟩ (.slice none 0 0)).setCell ⟨w.heap.size + 1, 6, none⟩ (.int .i64 0)).setCell ⟨w.heap.size + 1, 7, none⟩ (.int .i64 0)).setCell ⟨w.heap.size + 1, 8, none⟩ (.slice none 0 0)).setCell ⟨w.heap.size + 1, 9, none⟩ (.slice none 0 0)) := ⟨_, rfl⟩
            have D2 := Lib.hid (show we.heap[w.heap.size + 1]? = some (.cells #[.int .i64 0, .slice rq 4 rc, .slice tq j tc, .slice none 0 0, .int .i64 0, .slice none 0 0, .int .i64 0, .int .i64 0, .slice none 0 0, .slice none 0 0] 58 (0, 0)) by rw [hwe]; exact set10_row ZRr.out (.int .i64 0) (.slice rq 4 rc) (.slice tq j tc) (.slice none 0 0) (.int .i64 0) (.slice none 0 0) (.int .i64 0) (.int .i64 0) (.slice none 0 0) (.slice none 0 0))
            have BE := Lib.hid (show Below w.heap.size w we by rw [hwe]; exact set10_below HBr.out (by omega) (.int .i64 0) (.slice rq 4 rc) (.slice tq j tc) (.slice none 0 0) (.int .i64 0) (.slice none 0 0) (.int .i64 0) (.int .i64 0) (.slice none 0 0) (.slice none 0 0))
            have hne : ∀ k, k ≠ w.heap.size + 1 → we.heap[k]? = wr.heap[k]? := fun k hk => by rw [hwe, heap_setCell_other _ _ _ _ hk, heap_setCell_other _ _ _ _ hk, heap_setCell_other _ _ _ _ hk, heap_setCell_other _ _ _ _ hk, heap_setCell_other _ _ _ _ hk, heap_setCell_other _ _ _ _ hk, heap_setCell_other _ _ _ _ hk, heap_setCell_other _ _ _ _ hk, heap_setCell_other _ _ _ _ hk, heap_setCell_other _ _ _ _ hk]
            have OR9 := Lib.hid (own_same OO.out (fun g hg => hne g (fun h => own_offZ (T := 58) (by decide) OO.out ZRr.out (h ▸ hg))))
            have OM9 := Lib.hid (own_same OV.out (fun g hg => hne g (fun h => own_offZ (T := 58) (by decide) OV.out ZRr.out (h ▸ hg))))
            clear hne
            rw [← hwe]
            clear hwe d0 d1 d2 d3 d4 d5 d6 d7 d8 d9 f0 f1 f2 f3 f4 f5 f6 f7 f8 f9
            obtain ⟨d0, d1, d2, d3, d4, d5, d6, d7, d8, d9⟩ := cell10_row D2.out
            refine bodyPost_ret (v := .agg #[.int .i64 0, .slice rq 4 rc, .slice tq j tc, .slice none 0 0, .int .i64 0, .slice none 0 0, .int .i64 0, .int .i64 0, .slice none 0 0, .slice none 0 0]) (by simp [results, Try.results38, go_sem, d0, d1, d2, d3, d4, d5, d6, d7, d8, d9]) rfl ?_
            rw [HW.out]
            exact sp_made BE.out OR9.out OM9.out AP.out
end Go.Proofs.Ytbdkningngpgcaa
