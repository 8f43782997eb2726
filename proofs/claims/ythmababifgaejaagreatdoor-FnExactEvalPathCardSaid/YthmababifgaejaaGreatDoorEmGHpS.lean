/- What the specification's HoldsPath returns. No condition. append of a slice of whatever length to an owned one. No condition. What the specification's EvalPath returns. No condition. -/
import Derived.Test.YthmababifgaejaaGreatDoorEmGReg
import Derived.Test.YthmababifgaejaaGreatDoorEmGEvS
import Derived.Test.YthmababifgaejaaGreatDoorEmPaS
import Derived.Test.YthmababifgaejaaGreatDoorEmGInW
import Derived.Test.YthmababifgaejaaGreatDoorEmGCs
import Derived.WalkKit
import Derived.ProofKit
import Derived.OpenShut
import Derived.Handy
import Derived.Lib.Hide
import Derived.Below
import Derived.IntWalk
import Derived.WalkLawsBesides
import Derived.Deep.QuietTactic
import Derived.BigQuiet
import Derived.OwnWalk
import Derived.Laws.OwnMore
import Derived.Deep.OwnRows
import Derived.Deep.MidRow
import Derived.Deep.Upon
import Derived.Deep.RegionWith
import Derived.Test.YthmababifgaejaaGreatDoorEmGStO
namespace Go.Proofs.YthmababifgaejaaGreatDoor
open Go.ChangeShapes Go.WideShapes Go.ChangeAt Go.RowKit
open ValueR (all costs)
theorem cd_evs (V : List ValueR) (F : Fo) : ((F.evs V).isSome && ((F.evs V).getD []).all fun y => decide (y = 1)) = cdB V F := by
  cases h : F.evs V with
  | none => rw [evs_none F h]; rfl
  | some xs => rw [evs_all F h]; rfl
set_option maxRecDepth 100000 in
set_option maxHeartbeats 4000000 in
theorem s_hpath (vw vm vi : Int) (L : List InsR) (x : PaR) (l : List Int) (s r m sk o c u li : Value) (w : World) (hs : Cs.Shows w 0 4 s L.length (InsR.all L)) (hx : PaI w 0 x r m sk o c u) (hls : Cs.Shows w 0 1 li l.length (IntL.all l)) (hok : ∀ r ∈ L, r.Ok) (hL : L.length ≤ maxLen) (hl : x.Long) (hcc : x.cost ≤ 1048576) (hll : l.length ≤ maxLen) :
    Calls Tryz.prog 23 #[.agg #[.int .i64 vw, .int .i64 vm, .int .i64 vi, s], .agg #[.int .i64 x.pc, r, m, sk, .int .i64 x.inn, o, .int .i64 x.cd, .int .i64 x.st, c, u], li] w fun e w' => e = .returned (.bool (hpB vw vm vi L x l)) ∧ Below w.heap.size w w' := by
  have hml : maxLen = 9223372036854775807 := rfl
  have hcx : x.cost = x.R.cost + x.M.cost + x.S.length + x.O.cost + x.C.cost + x.U.length := rfl
  have K1 := Lib.hid (fun W (hb : Below w.heap.size w W) => s_path vw vm vi L x s r m sk o c u W (hs.below hb) (hx.below hb) hok hL hl hcc)
  have K2 := Lib.hid (fun W (hb : Below w.heap.size w W) => s_inputs vw vm vi L l s li W (hs.below hb) (hls.below hb) hok hL hll)
  have K3 := Lib.hid (fun q cap W (hb : Below w.heap.size w W) (h3 : l.length ≤ 3) => s_values vw vm vi L.length q cap l li W (hls.below hb) h3)
  have hic := hx.2.2.2.2.1
  have K4 := Lib.hid (fun V (hV : VlOk V) (hF : tmB x.C 1 = true) v W (hb : Below w.heap.size w W) hv => s_evals V hV x.C 1 hF c v W (hic.below hb) hv (by omega))
  clear hic
  obtain ⟨_, q, cap, rfl, _⟩ := hs
  obtain ⟨_, lq, lcap, rfl, _⟩ := hls
  obtain ⟨hr, hm, hsk, ho, hc, hu⟩ := hx
  have HIC := Lib.hid hc
  obtain ⟨_, ⟨_, qr, cr, rfl, _⟩, _⟩ := hr
  obtain ⟨_, ⟨_, qm, cm, rfl, _⟩, _⟩ := hm
  obtain ⟨_, qsk, csk, rfl, _⟩ := hsk
  obtain ⟨_, ⟨_, qo, co, rfl, _⟩, _⟩ := ho
  obtain ⟨_, ⟨_, qc, cc, rfl, _⟩, _⟩ := hc
  obtain ⟨_, qu, cu, rfl, _⟩ := hu
  obtain ⟨V, hV⟩ : ∃ V, hpB vw vm vi L x l = V := ⟨_, rfl⟩
  rw [hV]
  unfold hpB at hV
  obtain ⟨b1, hb1⟩ : ∃ y, paB vw vm vi L x = y := ⟨_, rfl⟩
  obtain ⟨b2, hb2⟩ : ∃ y, inB vw vm vi L l = y := ⟨_, rfl⟩
  rw [hb1] at K1
  rw [hb2] at K2
  rw [hb1, hb2, ← cd_evs] at hV
  have HV := Lib.hid hV
  clear hV
  have HB0 := Lib.hid (((Below.refl w.heap.size w).alloc (Nat.le_refl _) (.cells #[.int .i64 vw, .int .i64 vm, .int .i64 vi, .slice q L.length cap] 37)).alloc (by simp) (.cells #[.int .i64 x.pc, .slice qr x.R.len cr, .slice qm x.M.len cm, .slice qsk x.S.length csk, .int .i64 x.inn, .slice qo x.O.len co, .int .i64 x.cd, .int .i64 x.st, .slice qc x.C.len cc, .slice qu x.U.length cu] 41))
  have X0 := Lib.hid ((cell4_alloc w 37 (.int .i64 vw) (.int .i64 vm) (.int .i64 vi) (.slice q L.length cap)).below ((Below.refl _ _).alloc (Nat.le_refl _) (.cells #[.int .i64 x.pc, .slice qr x.R.len cr, .slice qm x.M.len cm, .slice qsk x.S.length csk, .int .i64 x.inn, .slice qo x.O.len co, .int .i64 x.cd, .int .i64 x.st, .slice qc x.C.len cc, .slice qu x.U.length cu] 41)))
  have Y0 := Lib.hid (cell10_alloc (w.alloc (.cells #[.int .i64 vw, .int .i64 vm, .int .i64 vi, .slice q L.length cap] 37)) 41 (.int .i64 x.pc) (.slice qr x.R.len cr) (.slice qm x.M.len cm) (.slice qsk x.S.length csk) (.int .i64 x.inn) (.slice qo x.O.len co) (.int .i64 x.cd) (.int .i64 x.st) (.slice qc x.C.len cc) (.slice qu x.U.length cu))
  rw [show (w.alloc (.cells #[.int .i64 vw, .int .i64 vm, .int .i64 vi, .slice q L.length cap] 37)).heap.size = w.heap.size + 1 by simp] at Y0
  obtain ⟨w0, hw0⟩ : ∃ w0, w0 = (w.alloc (.cells #[.int .i64 vw, .int .i64 vm, .int .i64 vi, .slice q L.length cap] 37)).alloc (.cells #[.int .i64 x.pc, .slice qr x.R.len cr, .slice qm x.M.len cm, .slice qsk x.S.length csk, .int .i64 x.inn, .slice qo x.O.len co, .int .i64 x.cd, .int .i64 x.st, .slice qc x.C.len cc, .slice qu x.U.length cu] 41) := ⟨_, rfl⟩
  rw [← hw0] at HB0 X0 Y0
  obtain ⟨x0, x1, x2, x3⟩ := X0.out
  obtain ⟨y0, y1, y2, y3, y4, y5, y6, y7, y8, y9⟩ := Y0.out
  rw [hw0] at x0 x1 x2 x3 y0 y1 y2 y3 y4 y5 y6 y7 y8 y9
  go_enter Tryz.func23, Tryz.ntmps23
  go_wp2_with fail
  rw [← hw0] at x0 x1 x2 x3 y0 y1 y2 y3 y4 y5 y6 y7 y8 y9 ⊢
  clear hw0
  refine (K1.out _ HB0.out).mono ?_
  rintro e w1 ⟨rfl, hb⟩
  have HB1 := Lib.hid (HB0.out.trans (hb.mono HB0.out.size))
  have X1 := Lib.hid (X0.out.below hb)
  have Y1 := Lib.hid (Y0.out.below hb)
  clear hb x0 x1 x2 x3 y0 y1 y2 y3 y4 y5 y6 y7 y8 y9
  obtain ⟨x0, x1, x2, x3⟩ := X1.out
  obtain ⟨y0, y1, y2, y3, y4, y5, y6, y7, y8, y9⟩ := Y1.out
  cases b1
  case false =>
    have hv : V = false := HV.out.symm
    subst hv
    go_wp2
    go_ret
    exact ⟨rfl, HB1.out⟩
  case true =>
    go_wp2_with fail
    refine (K2.out _ HB1.out).mono ?_
    rintro e w2 ⟨rfl, hb⟩
    have HB2 := Lib.hid (HB1.out.trans (hb.mono HB1.out.size))
    have X2 := Lib.hid (X1.out.below hb)
    have Y2 := Lib.hid (Y1.out.below hb)
    clear hb x0 x1 x2 x3 y0 y1 y2 y3 y4 y5 y6 y7 y8 y9
    obtain ⟨x0, x1, x2, x3⟩ := X2.out
    obtain ⟨y0, y1, y2, y3, y4, y5, y6, y7, y8, y9⟩ := Y2.out
    cases b2
    case false =>
      have hv : V = false := HV.out.symm
      subst hv
      go_wp2
      go_ret
      exact ⟨rfl, HB2.out⟩
    case true =>
      have KV := Lib.hid (fun W hb => K3.out q cap W hb (in_facts hb2).1)
      have KE := Lib.hid (K4.out (inV vw l) (inV_ok hb2) (pa_tm hb1).2.2.2)
      obtain ⟨VL, hVL⟩ : ∃ VL, inV vw l = VL := ⟨_, rfl⟩
      rw [hVL] at KV KE HV
      clear hVL K3 K4 hb1 hb2 K1 K2
      obtain ⟨R, hR⟩ : ∃ R, x.C.evs VL = R := ⟨_, rfl⟩
      rw [hR] at KE HV
      clear hR
      unfold ValEnd at KV
      unfold EvsEnd at KE
      have HV2 : Hid ((R.isSome && (R.getD []).all fun y => decide (y = 1)) = V) := Lib.hid HV.out
      clear HV
      go_wp2
      clear x0 x1 x2 x3 y0 y1 y2 y3 y4 y5 y6 y7 y8 y9
      have CD := Lib.hid (show Below w2.heap.size w2 w2.drew from (Below.refl _ _).drew)
      have CH := Lib.hid (Below.refl w2.drew.heap.size w2.drew)
      refine region_s [] (fun V => Below w2.drew.heap.size w2.drew V) (by kernel_rfl) ?_
      refine take_s (i := 0) (v := .pointer (some ⟨w.heap.size + 1, 8, none⟩)) rfl (by kernel_rfl) (fun _ _ _ h => h) CH.out rfl (fun V hV => ?_) ?_
      · obtain ⟨x0, x1, x2, x3⟩ := X2.out.below (CD.out.trans (hV.mono (Nat.le_refl _)))
        obtain ⟨y0, y1, y2, y3, y4, y5, y6, y7, y8, y9⟩ := Y2.out.below (CD.out.trans (hV.mono (Nat.le_refl _)))
        go_simp
      refine take_s (i := 1) (v := .slice qc x.C.len cc) rfl (by kernel_rfl) (fun _ _ _ h => h) CH.out rfl (fun V hV => ?_) ?_
      · obtain ⟨x0, x1, x2, x3⟩ := X2.out.below (CD.out.trans (hV.mono (Nat.le_refl _)))
        obtain ⟨y0, y1, y2, y3, y4, y5, y6, y7, y8, y9⟩ := Y2.out.below (CD.out.trans (hV.mono (Nat.le_refl _)))
        go_simp
      refine take_s (i := 2) (v := .agg #[.int .i64 vw, .int .i64 vm, .int .i64 vi, .slice q L.length cap]) rfl (by kernel_rfl) (fun _ _ _ h => h) CH.out rfl (fun V hV => ?_) ?_
      · obtain ⟨x0, x1, x2, x3⟩ := X2.out.below (CD.out.trans (hV.mono (Nat.le_refl _)))
        obtain ⟨y0, y1, y2, y3, y4, y5, y6, y7, y8, y9⟩ := Y2.out.below (CD.out.trans (hV.mono (Nat.le_refl _)))
        go_simp
      refine take_s (i := 3) (v := .slice lq l.length lcap) rfl (by kernel_rfl) (fun _ _ _ h => h) CH.out rfl (fun V hV => ?_) ?_
      · obtain ⟨x0, x1, x2, x3⟩ := X2.out.below (CD.out.trans (hV.mono (Nat.le_refl _)))
        obtain ⟨y0, y1, y2, y3, y4, y5, y6, y7, y8, y9⟩ := Y2.out.below (CD.out.trans (hV.mono (Nat.le_refl _)))
        go_simp
      refine one_s (i := 4) (by kernel_rfl) (op_list rfl ?_)
      go_wp2_with fail
      refine (KV.out _ (HB2.out.trans ((CD.out.trans (CH.out.mono (Nat.le_refl _))).mono HB2.out.size))).mono ?_
      rintro e w3 ⟨hb, q3, c3, rfl, hsh⟩
      replace CH := Lib.hid (CH.out.trans (hb.mono CH.out.size))
      have KE2 := Lib.hid (KE.out _ w3 (HB2.out.trans ((CD.out.trans (CH.out.mono (Nat.le_refl _))).mono HB2.out.size)) hsh)
      clear hb hsh
      go_wp2
      refine ⟨fun _ => CH.out, ?_⟩
      refine one_s (i := 5) (by kernel_rfl) (op_list rfl ?_)
      go_wp2_with fail
      refine KE2.out.mono ?_
      rintro e w4 ⟨hb, q4, c4, rfl, hsh, _⟩
      replace CH := Lib.hid (CH.out.trans (hb.mono CH.out.size))
      have HSH := Lib.hid hsh
      have HROW := Lib.hid (in_row hsh)
      clear hb hsh
      go_wp2
      refine ⟨fun _ => CH.out, ?_⟩
      obtain ⟨XS, hXS⟩ : ∃ XS, R.getD [] = XS := ⟨_, rfl⟩
      obtain ⟨B0, hB0⟩ : ∃ B0, R.isSome = B0 := ⟨_, rfl⟩
      rw [hXS] at HSH HROW HV2 ⊢
      rw [hB0] at HV2 ⊢
      clear hXS hB0 KE2 KE KV
      refine take_s (i := 6) (v := .tuple #[.slice q4 XS.length c4, .bool B0]) rfl (by kernel_rfl) (fun _ _ _ h => h) CH.out rfl (fun V hV => ?_) ?_
      · go_simp
      refine take_s (i := 7) (v := .slice q4 XS.length c4) rfl (by kernel_rfl) (fun _ _ _ h => h) CH.out rfl (fun V hV => ?_) ?_
      · go_simp
      refine take_s (i := 8) (v := .bool B0) rfl (by kernel_rfl) (fun _ _ _ h => h) CH.out rfl (fun V hV => ?_) ?_
      · go_simp
      refine one_s (i := 9) (by kernel_rfl) (op_list rfl ?_)
      go_wp2
      refine ⟨fun _ => CH.out, ?_⟩
      refine one_s (i := 10) (by kernel_rfl) (op_list rfl ?_)
      go_wp2
      refine ⟨fun _ => CH.out, done_s (by kernel_rfl) ?_ _⟩
      have HB4 := Lib.hid (HB2.out.trans ((CD.out.trans (CH.out.mono (Nat.le_refl _))).mono HB2.out.size))
      have hxl : XS.length ≤ maxLen := by obtain ⟨_, _, cp, _, h2, h3, _⟩ := HSH.out; omega
      clear CH CD
      go_wp2
      go_loopw [8, 32] (fun b i wr => ∃ (j : Nat), j ≤ XS.length ∧ i = .int .i64 j ∧ b = .bool (B0 && (XS.take j).all fun y => decide (y = 1)) ∧ wr = w4) (fun _ i _ => XS.length - (intOf i).toNat)
      case atStart => exact ⟨0, Nat.zero_le _, rfl, by simp, rfl⟩
      case round =>
        obtain ⟨j, hj, rfl, rfl, hwr⟩ := hrel
        subst hwr
        by_cases hjn : j < XS.length
        · obtain ⟨b, oo, rfl, hbl, hc⟩ := HROW.out j hjn
          have c0 := hc wr (Below.refl _ _)
          have HT := Lib.hid (show (B0 && (XS.take (j + 1)).all fun y => decide (y = 1)) = ((B0 && (XS.take j).all fun y => decide (y = 1)) && decide (XS[j] = 1)) by rw [List.take_succ_eq_append_getElem hjn, List.all_append]; simp [Bool.and_assoc])
          generalize XS[j] = y at *
          have hki : (j : Int) < (XS.length : Int) := by omega
          clear hc
          obtain ⟨bb, hbb⟩ : ∃ bb, (B0 && (XS.take j).all fun y => decide (y = 1)) = bb := ⟨_, rfl⟩
          rw [hbb] at HT ⊢
          clear hbb
          cases bb
          case false =>
            go_wp2
            go_roundw
            case rel => exact ⟨j + 1, by omega, by go_num, by rw [HT.out]; rfl, (by first | trivial | rfl)⟩
            case measure => simp [intOf]; omega
          case true =>
            by_cases hy : y = 1
            · subst hy
              go_wp2
              go_roundw
              case rel => exact ⟨j + 1, by omega, by go_num, by rw [HT.out]; rfl, (by first | trivial | rfl)⟩
              case measure => simp [intOf]; omega
            · have hyz : (y == 1) = false := by simpa using hy
              go_wp2
              go_roundw
              case rel => exact ⟨j + 1, by omega, by go_num, by rw [HT.out, decide_eq_false hy]; rfl, (by first | trivial | rfl)⟩
              case measure => simp [intOf]; omega
        · have ej : j = XS.length := by omega
          subst ej
          have hki : ¬ ((XS.length : Int) < (XS.length : Int)) := by omega
          have HTK := Lib.hid (show (B0 && (XS.take XS.length).all fun y => decide (y = 1)) = V by rw [List.take_length]; exact HV2.out)
          rw [HTK.out]
          go_wp2
          go_ret
          exact ⟨rfl, HB4.out⟩
end Go.Proofs.YthmababifgaejaaGreatDoor
namespace Go.Proofs.YthmababifgaejaaGreatDoor
open Go.ChangeShapes Go.WideShapes Go.ChangeAt Go.RowKit
/-- append of a slice of whatever length to an owned one -/
theorem wpList_append_any {P : Program} {w : World} {ops : Array Oper} {rest : List Oper} {o : Oper} {a : Act} {Q : Exit → Act → World → Prop} (hgd : o.guard = none) (s x : Operand) (t : TypeId)
    (ho : o.op = .call { callee := .builtin .append, args := #[s, x], argTypes := #[t, t] })
    (base : Nat) (e : TypeId) (i : TypeInfo) (z : Value) (size bytes : Nat) (ht : P.underlying t = some (.slice e)) (hi : P.info? e = some i) (hz : i.zero = some z)
    (hsize : i.size = size) (hby : i.bytes = bytes) (hzs : z.cells.size = size) (hsz : 0 < size)
    (v : Value) (n : Nat) (xs : List Value) (hs : a.eval s = v) (hown : w.ownsRow base e size v n xs)
    (q : Option Addr) (m c : Nat) (news : List Value) (hx : a.eval x = .slice q m c) (hl : news.length = m * size) (hnews : 0 < m → ∃ ad, q = some ad ∧ ∀ j u, news[j]? = some u → w.cell? (ad.add j) = some u) (h1 : ∀ u ∈ news, u.oneCell' = true)
    (h63 : n + m ≤ maxLen) (hbytes : (n + m) * bytes ≤ 140737488355328) (hbase : base ≤ w.heap.size)
    (h : ∀ q' c' w', w'.ownsRow base e size (.slice q' (n + m) c') (n + m) (xs ++ news) → Below base w w' → wpList P ops Q rest (a.put o.dst (.slice q' (n + m) c')) w') : wpList P ops Q (o :: rest) a w := by
  rcases Nat.eq_zero_or_pos m with hm | hm
  · subst hm
    have hnil : news = [] := List.length_eq_zero_iff.1 (by omega)
    subst hnil
    obtain ⟨q0, c0, rfl, hc⟩ : ∃ q0 c0, v = .slice q0 n c0 ∧ n ≤ c0 := by
      rcases hown.2 with ⟨rfl, h⟩ | ⟨g, cap, _, rfl, _, _, h, _⟩
      · exact ⟨none, 0, by rw [h], by omega⟩
      · exact ⟨_, cap, rfl, h⟩
    refine wpList_plain hgd fun K hK => ?_
    have hr := run_append_nothing (P := P) w t t o.type e i ht hi q0 n c0 hc (.slice q 0 c) ⟨.inl ⟨e, ht⟩, fun _ => rfl, by cases q <;> simp [Builtin.firstCells, loadCells, loadCellsFrom], by cases q <;> simp [Builtin.firstCells, loadCells, loadCellsFrom], by simp, fun u hu => by cases hu⟩
    unfold Oper.wp execOp
    simp only [ho, resolve, invoke, builtin, Sem.run_bind, Sem.run_pure, Result.andThen_ok, List.map_toArray, List.map_cons, List.map_nil, hs, hx, hr]
    exact hK _ _ (h q0 c0 w (by simpa using hown) (Below.refl _ _))
  · obtain ⟨ad, rfl, hn⟩ := hnews hm
    refine wpList_append_own w hgd s x t ho base e i z size bytes ht hi hz hsize hby hzs hsz v n xs hs hown ad m c news hx hl hn h1 h63 hbytes hbase fun v' w' h2 h3 _ => ?_
    obtain ⟨q', c', rfl⟩ : ∃ q' c', v' = .slice q' (n + m) c' := by
      rcases h2.2 with ⟨_, h⟩ | ⟨g, cap, _, rfl, _⟩
      · omega
      · exact ⟨_, cap, rfl⟩
    exact h q' c' w' h2 ((Below.refl _ _).grown h3 hbase fun k hk => (hown.lt k hk).1)
theorem news_of' {w : World} {base n : Nat} {q : Option Addr} {c : Nat} {ys : List Value} (h : Cs.Shows w base 1 (.slice q n c) n ys) : 0 < n → ∃ ad, q = some ad ∧ ∀ i u, ys[i]? = some u → w.cell? (ad.add i) = some u := by
  intro hn
  rcases Cs.shows_cases h with ⟨h0, _⟩ | ⟨_, b, o, c', he, _, _, _, hr⟩
  · omega
  · cases he
    exact ⟨_, rfl, fun i u hu => by rw [Addr.add_mid]; exact hr i u hu⟩
theorem str_one (l : List ByteArray) : ∀ u ∈ l.map Value.string, u.oneCell' = true := by
  intro u hu
  obtain ⟨x, _, rfl⟩ := List.mem_map.1 hu
  rfl
/-- texts that are made, the first ones -/
def StrRel (T : List ByteArray) (w : World) (n j : Nat) (wr : World) : Prop := ∃ cur, wr.ownsRow w.heap.size 9 1 (.slice (some ⟨w.heap.size, 0, none⟩) n n) n cur ∧ cur.take j = (T.take j).map Value.string ∧ Below w.heap.size w wr
theorem str_step {T : List ByteArray} {w wr : World} {n j : Nat} (hj : j < T.length) (hn : T.length = n) (hr : StrRel T w n j wr) : StrRel T w n (j + 1) (wr.setCell ⟨w.heap.size, j, none⟩ (.string T[j])) := by
  obtain ⟨cur, ho, hc, hbw⟩ := hr
  have hlen := ho.1
  refine ⟨_, own_put [.string T[j]] j wr cur ho, ?_, hbw.setCell (Nat.le_refl _) _⟩
  rw [putAt_take cur j [.string T[j]] (j + 1) rfl (by omega), hc, List.take_succ_eq_append_getElem hj, List.map_append]
  rfl
theorem str_keep {T : List ByteArray} {w wr w' : World} {n j : Nat} (hr : StrRel T w n j wr) (hb : Below wr.heap.size wr w') : StrRel T w n j w' := by
  obtain ⟨cur, ho, hc, hbw⟩ := hr
  exact ⟨cur, own_keep ho hb, hc, hbw.trans (hb.mono hbw.size)⟩
end Go.Proofs.YthmababifgaejaaGreatDoor
namespace Go.Proofs.YthmababifgaejaaGreatDoor
open Go.ChangeShapes Go.WideShapes Go.ChangeAt Go.RowKit
open ValueR (all costs)
set_option maxRecDepth 100000 in
set_option maxHeartbeats 8000000 in
theorem s_epath (vw vm vi : Int) (L : List InsR) (x : PaR) (l : List Int) (s r m sk o c u li : Value) (w : World) (hs : Cs.Shows w 0 4 s L.length (InsR.all L)) (hx : PaI w 0 x r m sk o c u) (hls : Cs.Shows w 0 1 li l.length (IntL.all l)) (hok : ∀ r ∈ L, r.Ok) (hL : L.length ≤ maxLen) (hl : x.Long) (hcc : x.cost ≤ 1048576) (hll : l.length ≤ maxLen) :
    Calls Tryz.prog 6 #[.agg #[.int .i64 vw, .int .i64 vm, .int .i64 vi, s], .agg #[.int .i64 x.pc, r, m, sk, .int .i64 x.inn, o, .int .i64 x.cd, .int .i64 x.st, c, u], li] w (EpEnd (epV vw vm vi L x l) (epB vw vm vi L x l) w) := by
  have hml : maxLen = 9223372036854775807 := rfl
  have hcx : x.cost = x.R.cost + x.M.cost + x.S.length + x.O.cost + x.C.cost + x.U.length := rfl
  obtain ⟨i9, hi9, hz9, hzs9, hzb9⟩ := info_parts zero_Int
  have K1 := Lib.hid (fun W (hb : Below w.heap.size w W) => s_hpath vw vm vi L x l s r m sk o c u li W (hs.below hb) (hx.below hb) (hls.below hb) hok hL hl hcc hll)
  have K3 := Lib.hid (fun q cap W (hb : Below w.heap.size w W) (h3 : l.length ≤ 3) => s_values vw vm vi L.length q cap l li W (hls.below hb) h3)
  have KR := Lib.hid (fun V (hV : VlOk V) (hF : tmB x.R vw = true) v W (hb : Below w.heap.size w W) hv => s_evals V hV x.R vw hF r v W (hx.1.below hb) hv (by omega))
  have KM := Lib.hid (fun V (hV : VlOk V) (hF : tmB x.M vw = true) v W (hb : Below w.heap.size w W) hv => s_evals V hV x.M vw hF m v W (hx.2.1.below hb) hv (by omega))
  have KO := Lib.hid (fun V (hV : VlOk V) (hF : tmB x.O vw = true) v W (hb : Below w.heap.size w W) hv => s_evals V hV x.O vw hF o v W (hx.2.2.2.1.below hb) hv (by omega))
  have hSl : x.S.length ≤ 1048576 := by omega
  obtain ⟨_, q, cap, rfl, _⟩ := hs
  obtain ⟨_, lq, lcap, rfl, _⟩ := hls
  obtain ⟨hr, hm, hsk, ho, hc, hu⟩ := hx
  have HSK := Lib.hid hsk
  obtain ⟨_, ⟨_, qr, cr, rfl, _⟩, _⟩ := hr
  obtain ⟨_, ⟨_, qm, cm, rfl, _⟩, _⟩ := hm
  obtain ⟨_, qsk, csk, rfl, _⟩ := hsk
  obtain ⟨_, ⟨_, qo, co, rfl, _⟩, _⟩ := ho
  obtain ⟨_, ⟨_, qc, cc, rfl, _⟩, _⟩ := hc
  obtain ⟨_, qu, cu, rfl, _⟩ := hu
  obtain ⟨VB, hVB⟩ : ∃ y, epB vw vm vi L x l = y := ⟨_, rfl⟩
  obtain ⟨VV, hVV⟩ : ∃ y, epV vw vm vi L x l = y := ⟨_, rfl⟩
  rw [hVB, hVV]
  unfold epV at hVV
  rw [hVB] at hVV
  unfold epB at hVB
  obtain ⟨b1, hb1⟩ : ∃ y, hpB vw vm vi L x l = y := ⟨_, rfl⟩
  rw [hb1] at K1 hVB
  have HVB := Lib.hid hVB
  have HVV := Lib.hid hVV
  clear hVB hVV
  have hsz1 : (w.alloc (.cells #[.int .i64 vw, .int .i64 vm, .int .i64 vi, .slice q L.length cap] 37)).heap.size = w.heap.size + 1 := by simp
  have hsz2 : (((w.alloc (.cells #[.int .i64 vw, .int .i64 vm, .int .i64 vi, .slice q L.length cap] 37)).alloc (.cells #[.int .i64 x.pc, .slice qr x.R.len cr, .slice qm x.M.len cm, .slice qsk x.S.length csk, .int .i64 x.inn, .slice qo x.O.len co, .int .i64 x.cd, .int .i64 x.st, .slice qc x.C.len cc, .slice qu x.U.length cu] 41))).heap.size = w.heap.size + 1 + 1 := by simp
  obtain ⟨w0, hw0⟩ : ∃ w0, w0 = (((w.alloc (.cells #[.int .i64 vw, .int .i64 vm, .int .i64 vi, .slice q L.length cap] 37)).alloc (.cells #[.int .i64 x.pc, .slice qr x.R.len cr, .slice qm x.M.len cm, .slice qsk x.S.length csk, .int .i64 x.inn, .slice qo x.O.len co, .int .i64 x.cd, .int .i64 x.st, .slice qc x.C.len cc, .slice qu x.U.length cu] 41))).alloc (.cells #[.int .i64 0, .slice none 0 0, .slice none 0 0, .slice none 0 0, .int .i64 0, .slice none 0 0, .int .i64 0, .int .i64 0] 32) := ⟨_, rfl⟩
  have k1 : Below (((w.alloc (.cells #[.int .i64 vw, .int .i64 vm, .int .i64 vi, .slice q L.length cap] 37)).alloc (.cells #[.int .i64 x.pc, .slice qr x.R.len cr, .slice qm x.M.len cm, .slice qsk x.S.length csk, .int .i64 x.inn, .slice qo x.O.len co, .int .i64 x.cd, .int .i64 x.st, .slice qc x.C.len cc, .slice qu x.U.length cu] 41))).heap.size (((w.alloc (.cells #[.int .i64 vw, .int .i64 vm, .int .i64 vi, .slice q L.length cap] 37)).alloc (.cells #[.int .i64 x.pc, .slice qr x.R.len cr, .slice qm x.M.len cm, .slice qsk x.S.length csk, .int .i64 x.inn, .slice qo x.O.len co, .int .i64 x.cd, .int .i64 x.st, .slice qc x.C.len cc, .slice qu x.U.length cu] 41))) w0 := by rw [hw0]; exact (Below.refl _ _).alloc (Nat.le_refl _) _
  have HB0 := Lib.hid (show Below w.heap.size w w0 by rw [hw0]; exact (((Below.refl _ _).alloc (Nat.le_refl _) _).alloc (by simp) _).alloc (by simp; omega) _)
  have hs0 : w0.heap.size = w.heap.size + 3 := by rw [hw0]; simp
  have X0 := Lib.hid (((cell4_alloc w 37 (.int .i64 vw) (.int .i64 vm) (.int .i64 vi) (.slice q L.length cap)).below ((Below.refl _ _).alloc (Nat.le_refl _) (.cells #[.int .i64 x.pc, .slice qr x.R.len cr, .slice qm x.M.len cm, .slice qsk x.S.length csk, .int .i64 x.inn, .slice qo x.O.len co, .int .i64 x.cd, .int .i64 x.st, .slice qc x.C.len cc, .slice qu x.U.length cu] 41))).below k1)
  have Y0 := Lib.hid (((cell10_alloc (w.alloc (.cells #[.int .i64 vw, .int .i64 vm, .int .i64 vi, .slice q L.length cap] 37)) 41 (.int .i64 x.pc) (.slice qr x.R.len cr) (.slice qm x.M.len cm) (.slice qsk x.S.length csk) (.int .i64 x.inn) (.slice qo x.O.len co) (.int .i64 x.cd) (.int .i64 x.st) (.slice qc x.C.len cc) (.slice qu x.U.length cu))).below k1)
  rw [hsz1] at Y0
  have Z0 := Lib.hid (show w0.heap[w.heap.size + 1 + 1]? = some (.cells #[.int .i64 0, .slice none 0 0, .slice none 0 0, .slice none 0 0, .int .i64 0, .slice none 0 0, .int .i64 0, .int .i64 0] 32 (0, 0)) by rw [hw0, ← hsz2]; exact heap_alloc_new _ _)
  clear k1 hsz1 hsz2
  obtain ⟨x0, x1, x2, x3⟩ := X0.out
  obtain ⟨y0, y1, y2, y3, y4, y5, y6, y7, y8, y9⟩ := Y0.out
  rw [hw0] at x0 x1 x2 x3 y0 y1 y2 y3 y4 y5 y6 y7 y8 y9
  go_enter Tryz.func6, Tryz.ntmps6
  go_wp2_with fail
  rw [← hw0] at x0 x1 x2 x3 y0 y1 y2 y3 y4 y5 y6 y7 y8 y9 ⊢
  clear hw0
  refine (K1.out _ HB0.out).mono ?_
  rintro e w1 ⟨rfl, hb⟩
  have HB1 := Lib.hid (HB0.out.trans (hb.mono HB0.out.size))
  have X1 := Lib.hid (X0.out.below hb)
  have Y1 := Lib.hid (Y0.out.below hb)
  have Z1 := Lib.hid ((hb.block (w.heap.size + 1 + 1) (Array.getElem?_eq_some_iff.1 Z0.out).1).trans Z0.out)
  have hsz1 := hb.size
  clear hb
  clear x0 x1 x2 x3 y0 y1 y2 y3 y4 y5 y6 y7 y8 y9
  obtain ⟨x0, x1, x2, x3⟩ := X1.out
  obtain ⟨y0, y1, y2, y3, y4, y5, y6, y7, y8, y9⟩ := Y1.out
  have hz1 : w.heap.size + 3 ≤ w1.heap.size := by omega
  cases b1
  case false =>
    have hvb : VB = false := HVB.out.symm
    have HV := Lib.hid (show VV = zeroSt ∧ VB = false from ⟨by rw [← HVV.out, hvb]; rfl, hvb⟩)
    clear hvb HVB HVV
    clear x0 x1 x2 x3 y0 y1 y2 y3 y4 y5 y6 y7 y8 y9
    obtain ⟨d0, d1, d2, d3, d4, d5, d6, d7⟩ := cell8_row Z1.out
    obtain ⟨f0, f1, f2, f3, f4, f5, f6, f7⟩ := froz8_row Z1.out
    go_wp2
    refine bodyPost_ret (v := .tuple #[.agg #[.int .i64 0, .slice none 0 0, .slice none 0 0, .slice none 0 0, .int .i64 0, .slice none 0 0, .int .i64 0, .int .i64 0], .bool false]) (by simp [results, Tryz.results6, go_sem, d0, d1, d2, d3, d4, d5, d6, d7]) rfl ?_
    rw [HV.out.1, HV.out.2]
    refine ep_zero ?_
    repeat (first | refine Below.setCell ?_ (by first | (simp; done) | (simp; omega)) _ | exact HB1.out)
  case true =>
    have hbf := hb1
    unfold hpB at hbf
    rw [Bool.and_eq_true, Bool.and_eq_true] at hbf
    obtain ⟨hpa, hin, _⟩ := hbf
    have KV := Lib.hid (fun W hb => K3.out q cap W hb (in_facts hin).1)
    have KR2 := Lib.hid (KR.out (inV vw l) (inV_ok hin) (pa_tm hpa).1)
    have KM2 := Lib.hid (KM.out (inV vw l) (inV_ok hin) (pa_tm hpa).2.1)
    have KO2 := Lib.hid (KO.out (inV vw l) (inV_ok hin) (pa_tm hpa).2.2.1)
    have HT := Lib.hid (show epT vw x l = ⟨x.pc, (x.R.evs (inV vw l)).getD [], (x.M.evs (inV vw l)).getD [], x.S, x.inn, (x.O.evs (inV vw l)).getD [], x.cd, x.st⟩ from rfl)
    obtain ⟨VL, hVL⟩ : ∃ VL, inV vw l = VL := ⟨_, rfl⟩
    obtain ⟨TT, hTT⟩ : ∃ y, epT vw x l = y := ⟨_, rfl⟩
    rw [hTT] at HVV HT
    rw [hVL] at KV KR2 KM2 KO2 HT HVB
    clear hVL hTT K3 KR KM KO hb1 hpa hin K1
    obtain ⟨RR, hRR⟩ : ∃ R, x.R.evs VL = R := ⟨_, rfl⟩
    obtain ⟨RM, hRM⟩ : ∃ R, x.M.evs VL = R := ⟨_, rfl⟩
    obtain ⟨RO, hRO⟩ : ∃ R, x.O.evs VL = R := ⟨_, rfl⟩
    rw [hRR] at KR2 HT HVB
    rw [hRM] at KM2 HT HVB
    rw [hRO] at KO2 HT HVB
    clear hRR hRM hRO
    unfold ValEnd at KV
    unfold EvsEnd at KR2 KM2 KO2
    go_wp2_with fail
    refine (KV.out _ HB1.out).mono ?_
    rintro e w2 ⟨hb, q2, c2, rfl, hsh⟩
    have SH2 := Lib.hid hsh
    clear hsh
    have HB2 := Lib.hid (HB1.out.trans (hb.mono HB1.out.size))
    have X2 := Lib.hid (X1.out.below hb)
    have Y2 := Lib.hid (Y1.out.below hb)
    have Z2 := Lib.hid ((hb.block (w.heap.size + 1 + 1) (Array.getElem?_eq_some_iff.1 Z1.out).1).trans Z1.out)
    have hsz2 := hb.size
    clear hb
    clear x0 x1 x2 x3 y0 y1 y2 y3 y4 y5 y6 y7 y8 y9
    obtain ⟨x0, x1, x2, x3⟩ := X2.out
    obtain ⟨y0, y1, y2, y3, y4, y5, y6, y7, y8, y9⟩ := Y2.out
    go_wp2_with fail
    refine (KR2.out _ w2 HB2.out SH2.out).mono ?_
    rintro e w3 ⟨hb, qR, cR, rfl, _, how⟩
    have OWR := Lib.hid (fun h => own_base (base' := w2.heap.size) (how h) (Nat.le_refl _))
    have SH3 := Lib.hid (SH2.out.below hb)
    clear how
    have HB3 := Lib.hid (HB2.out.trans (hb.mono HB2.out.size))
    have X3 := Lib.hid (X2.out.below hb)
    have Y3 := Lib.hid (Y2.out.below hb)
    have Z3 := Lib.hid ((hb.block (w.heap.size + 1 + 1) (Array.getElem?_eq_some_iff.1 Z2.out).1).trans Z2.out)
    have hsz3 := hb.size
    clear hb
    clear x0 x1 x2 x3 y0 y1 y2 y3 y4 y5 y6 y7 y8 y9
    obtain ⟨x0, x1, x2, x3⟩ := X3.out
    obtain ⟨y0, y1, y2, y3, y4, y5, y6, y7, y8, y9⟩ := Y3.out
    go_wp2_with fail
    refine (KM2.out _ w3 HB3.out SH3.out).mono ?_
    rintro e w4 ⟨hb, qM, cM, rfl, _, how⟩
    have BW34 := Lib.hid hb
    have OWM := Lib.hid (fun h => own_base (base' := w3.heap.size) (how h) (Nat.le_refl _))
    have SH4 := Lib.hid (SH3.out.below hb)
    clear how
    have HB4 := Lib.hid (HB3.out.trans (hb.mono HB3.out.size))
    have X4 := Lib.hid (X3.out.below hb)
    have Y4 := Lib.hid (Y3.out.below hb)
    have Z4 := Lib.hid ((hb.block (w.heap.size + 1 + 1) (Array.getElem?_eq_some_iff.1 Z3.out).1).trans Z3.out)
    have hsz4 := hb.size
    clear hb
    clear x0 x1 x2 x3 y0 y1 y2 y3 y4 y5 y6 y7 y8 y9
    obtain ⟨x0, x1, x2, x3⟩ := X4.out
    obtain ⟨y0, y1, y2, y3, y4, y5, y6, y7, y8, y9⟩ := Y4.out
    go_wp2_with fail
    refine (KO2.out _ w4 HB4.out SH4.out).mono ?_
    rintro e w5 ⟨hb, qO, cO, rfl, _, how⟩
    have BW45 := Lib.hid hb
    have BW35 := Lib.hid (BW34.out.trans (hb.mono BW34.out.size))
    have OWO := Lib.hid (fun h => own_base (base' := w4.heap.size) (how h) (Nat.le_refl _))
    have SH5 := Lib.hid (SH4.out.below hb)
    clear how
    have HB5 := Lib.hid (HB4.out.trans (hb.mono HB4.out.size))
    have X5 := Lib.hid (X4.out.below hb)
    have Y5 := Lib.hid (Y4.out.below hb)
    have Z5 := Lib.hid ((hb.block (w.heap.size + 1 + 1) (Array.getElem?_eq_some_iff.1 Z4.out).1).trans Z4.out)
    have hsz5 := hb.size
    clear hb
    clear x0 x1 x2 x3 y0 y1 y2 y3 y4 y5 y6 y7 y8 y9
    obtain ⟨x0, x1, x2, x3⟩ := X5.out
    obtain ⟨y0, y1, y2, y3, y4, y5, y6, y7, y8, y9⟩ := Y5.out
    have hz5 : w.heap.size + 3 ≤ w5.heap.size := by omega
    obtain ⟨bR, hbR⟩ : ∃ y, RR.isSome = y := ⟨_, rfl⟩
    obtain ⟨bM, hbM⟩ : ∃ y, RM.isSome = y := ⟨_, rfl⟩
    obtain ⟨bO, hbO⟩ : ∃ y, RO.isSome = y := ⟨_, rfl⟩
    obtain ⟨XR, hXR⟩ : ∃ y, RR.getD [] = y := ⟨_, rfl⟩
    obtain ⟨XM, hXM⟩ : ∃ y, RM.getD [] = y := ⟨_, rfl⟩
    obtain ⟨XO, hXO⟩ : ∃ y, RO.getD [] = y := ⟨_, rfl⟩
    rw [hbR] at HVB OWR
    rw [hbM] at HVB OWM
    rw [hbO] at HVB OWO
    rw [hXR] at HT OWR
    rw [hXM] at HT OWM
    rw [hXO] at HT OWO
    rw [hbR, hbM, hbO, hXR, hXM, hXO]
    clear hbR hbM hbO hXR hXM hXO KR2 KM2 KO2 KV SH2 SH3 SH4 SH5
    by_cases hall : bR = true ∧ bM = true ∧ bO = true
    case neg =>
      have hvb : VB = false := by
        rw [← HVB.out]
        cases bR <;> cases bM <;> cases bO <;> simp_all
      have HV := Lib.hid (show VV = zeroSt ∧ VB = false from ⟨by rw [← HVV.out, hvb]; rfl, hvb⟩)
      clear hvb HVB HVV OWR OWM OWO HT
      cases bR
      case false =>
        clear x0 x1 x2 x3 y0 y1 y2 y3 y4 y5 y6 y7 y8 y9
        obtain ⟨d0, d1, d2, d3, d4, d5, d6, d7⟩ := cell8_row Z5.out
        obtain ⟨f0, f1, f2, f3, f4, f5, f6, f7⟩ := froz8_row Z5.out
        go_wp2
        refine bodyPost_ret (v := .tuple #[.agg #[.int .i64 0, .slice none 0 0, .slice none 0 0, .slice none 0 0, .int .i64 0, .slice none 0 0, .int .i64 0, .int .i64 0], .bool false]) (by simp [results, Tryz.results6, go_sem, d0, d1, d2, d3, d4, d5, d6, d7]) rfl ?_
        rw [HV.out.1, HV.out.2]
        refine ep_zero ?_
        repeat (first | refine Below.setCell ?_ (by first | (simp; done) | (simp; omega)) _ | exact HB5.out)
      case true =>
        cases bM
        case false =>
          clear x0 x1 x2 x3 y0 y1 y2 y3 y4 y5 y6 y7 y8 y9
          obtain ⟨d0, d1, d2, d3, d4, d5, d6, d7⟩ := cell8_row Z5.out
          obtain ⟨f0, f1, f2, f3, f4, f5, f6, f7⟩ := froz8_row Z5.out
          go_wp2
          refine bodyPost_ret (v := .tuple #[.agg #[.int .i64 0, .slice none 0 0, .slice none 0 0, .slice none 0 0, .int .i64 0, .slice none 0 0, .int .i64 0, .int .i64 0], .bool false]) (by simp [results, Tryz.results6, go_sem, d0, d1, d2, d3, d4, d5, d6, d7]) rfl ?_
          rw [HV.out.1, HV.out.2]
          refine ep_zero ?_
          repeat (first | refine Below.setCell ?_ (by first | (simp; done) | (simp; omega)) _ | exact HB5.out)
        case true =>
          cases bO
          case false =>
            clear x0 x1 x2 x3 y0 y1 y2 y3 y4 y5 y6 y7 y8 y9
            obtain ⟨d0, d1, d2, d3, d4, d5, d6, d7⟩ := cell8_row Z5.out
            obtain ⟨f0, f1, f2, f3, f4, f5, f6, f7⟩ := froz8_row Z5.out
            go_wp2
            refine bodyPost_ret (v := .tuple #[.agg #[.int .i64 0, .slice none 0 0, .slice none 0 0, .slice none 0 0, .int .i64 0, .slice none 0 0, .int .i64 0, .int .i64 0], .bool false]) (by simp [results, Tryz.results6, go_sem, d0, d1, d2, d3, d4, d5, d6, d7]) rfl ?_
            rw [HV.out.1, HV.out.2]
            refine ep_zero ?_
            repeat (first | refine Below.setCell ?_ (by first | (simp; done) | (simp; omega)) _ | exact HB5.out)
          case true => exact absurd ⟨rfl, rfl, rfl⟩ hall
    case pos =>
      obtain ⟨rfl, rfl, rfl⟩ := hall
      have hvb : VB = true := HVB.out.symm
      have HV := Lib.hid (show VV = ⟨x.pc, XR, XM, x.S, x.inn, XO, x.cd, x.st⟩ ∧ VB = true from ⟨by rw [← HVV.out, hvb, if_pos rfl, HT.out], hvb⟩)
      have OR := Lib.hid (OWR.out rfl)
      have OM := Lib.hid (OWM.out rfl)
      have OO5 := Lib.hid (OWO.out rfl)
      clear hvb HVB HVV OWR OWM OWO HT
      go_wp2
      clear x0 x1 x2 x3 y0 y1 y2 y3 y4 y5 y6 y7 y8 y9
      obtain ⟨wd, hwd⟩ : ∃ W, W = w5.drew := ⟨_, rfl⟩
      have CD := Lib.hid (show Below w5.heap.size w5 wd by rw [hwd]; exact (Below.refl _ _).drew)
      have CH := Lib.hid (Below.refl wd.heap.size wd)
      have hzd1 : w5.heap.size ≤ wd.heap.size := by rw [hwd]; exact Nat.le_refl _
      have hzd2 : wd.heap.size ≤ w5.heap.size := by rw [hwd]; exact Nat.le_refl _
      refine region_s [16] (fun V => Below wd.heap.size wd V) (by kernel_rfl) ?_
      rw [← hwd]
      clear hwd
      refine take_s (i := 0) (v := .pointer (some ⟨w.heap.size + 1, 0, none⟩)) rfl (by kernel_rfl) (fun _ _ _ h => h) CH.out rfl (fun V hV => ?_) ?_
      · obtain ⟨y0, y1, y2, y3, y4, y5, y6, y7, y8, y9⟩ := Y5.out.below (CD.out.trans (hV.mono (by omega)))
        go_simp
      refine take_s (i := 1) (v := .int .i64 x.pc) rfl (by kernel_rfl) (fun _ _ _ h => h) CH.out rfl (fun V hV => ?_) ?_
      · obtain ⟨y0, y1, y2, y3, y4, y5, y6, y7, y8, y9⟩ := Y5.out.below (CD.out.trans (hV.mono (by omega)))
        go_simp
      refine take_s (i := 2) (v := .slice qR XR.length cR) rfl (by kernel_rfl) (fun _ _ _ h => h) CH.out rfl (fun V hV => ?_) ?_
      · obtain ⟨y0, y1, y2, y3, y4, y5, y6, y7, y8, y9⟩ := Y5.out.below (CD.out.trans (hV.mono (by omega)))
        go_simp
      refine take_s (i := 3) (v := .slice qM XM.length cM) rfl (by kernel_rfl) (fun _ _ _ h => h) CH.out rfl (fun V hV => ?_) ?_
      · obtain ⟨y0, y1, y2, y3, y4, y5, y6, y7, y8, y9⟩ := Y5.out.below (CD.out.trans (hV.mono (by omega)))
        go_simp
      refine take_s (i := 5) (v := .pointer (some ⟨w.heap.size + 1, 3, none⟩)) rfl (by kernel_rfl) (fun _ _ _ h => h) CH.out rfl (fun V hV => ?_) ?_
      · obtain ⟨y0, y1, y2, y3, y4, y5, y6, y7, y8, y9⟩ := Y5.out.below (CD.out.trans (hV.mono (by omega)))
        go_simp
      refine take_s (i := 6) (v := .slice qsk x.S.length csk) rfl (by kernel_rfl) (fun _ _ _ h => h) CH.out rfl (fun V hV => ?_) ?_
      · obtain ⟨y0, y1, y2, y3, y4, y5, y6, y7, y8, y9⟩ := Y5.out.below (CD.out.trans (hV.mono (by omega)))
        go_simp
      refine take_s (i := 8) (v := .pointer (some ⟨w.heap.size + 1, 4, none⟩)) rfl (by kernel_rfl) (fun _ _ _ h => h) CH.out rfl (fun V hV => ?_) ?_
      · obtain ⟨y0, y1, y2, y3, y4, y5, y6, y7, y8, y9⟩ := Y5.out.below (CD.out.trans (hV.mono (by omega)))
        go_simp
      refine take_s (i := 9) (v := .int .i64 x.inn) rfl (by kernel_rfl) (fun _ _ _ h => h) CH.out rfl (fun V hV => ?_) ?_
      · obtain ⟨y0, y1, y2, y3, y4, y5, y6, y7, y8, y9⟩ := Y5.out.below (CD.out.trans (hV.mono (by omega)))
        go_simp
      refine take_s (i := 10) (v := .slice qO XO.length cO) rfl (by kernel_rfl) (fun _ _ _ h => h) CH.out rfl (fun V hV => ?_) ?_
      · obtain ⟨y0, y1, y2, y3, y4, y5, y6, y7, y8, y9⟩ := Y5.out.below (CD.out.trans (hV.mono (by omega)))
        go_simp
      refine take_s (i := 11) (v := .pointer (some ⟨w.heap.size + 1, 6, none⟩)) rfl (by kernel_rfl) (fun _ _ _ h => h) CH.out rfl (fun V hV => ?_) ?_
      · obtain ⟨y0, y1, y2, y3, y4, y5, y6, y7, y8, y9⟩ := Y5.out.below (CD.out.trans (hV.mono (by omega)))
        go_simp
      refine take_s (i := 12) (v := .int .i64 x.cd) rfl (by kernel_rfl) (fun _ _ _ h => h) CH.out rfl (fun V hV => ?_) ?_
      · obtain ⟨y0, y1, y2, y3, y4, y5, y6, y7, y8, y9⟩ := Y5.out.below (CD.out.trans (hV.mono (by omega)))
        go_simp
      refine take_s (i := 13) (v := .pointer (some ⟨w.heap.size + 1, 7, none⟩)) rfl (by kernel_rfl) (fun _ _ _ h => h) CH.out rfl (fun V hV => ?_) ?_
      · obtain ⟨y0, y1, y2, y3, y4, y5, y6, y7, y8, y9⟩ := Y5.out.below (CD.out.trans (hV.mono (by omega)))
        go_simp
      refine take_s (i := 14) (v := .int .i64 x.st) rfl (by kernel_rfl) (fun _ _ _ h => h) CH.out rfl (fun V hV => ?_) ?_
      · obtain ⟨y0, y1, y2, y3, y4, y5, y6, y7, y8, y9⟩ := Y5.out.below (CD.out.trans (hV.mono (by omega)))
        go_simp
      have HOZ : Hid ((wd.alloc (.cells #[] 3)).ownsRow wd.heap.size 3 1 (.slice (some ⟨wd.heap.size, 0, none⟩) 0 0) 0 []) := Lib.hid (by
        have := World.ownsRow_lit (base := wd.heap.size) (e := 3) (size := 1) wd #[] 0 (Nat.le_refl _) (by decide) rfl
        simpa using this)
      refine one_s (i := 4) (by kernel_rfl) (op_list rfl ?_)
      go_wp2
      refine ⟨fun _ => CH.out.alloc (Nat.le_refl _) _, ?_⟩
      refine one_s (i := 7) (by kernel_rfl) (op_list rfl ?_)
      refine wpList_append_any rfl _ _ 26 rfl wd.heap.size 3 i9 (.int .i64 0) 1 8 Tryz.underlying26 hi9 hz9 hzs9 hzb9 rfl (by decide) _ 0 [] rfl HOZ.out qsk x.S.length csk (IntL.all x.S) rfl ?c0 ?c1 ?c2 ?c3 ?c4 ?c5 ?_
      case c0 => rw [IntL.all_len]; omega
      case c1 => exact news_of' (HSK.out.below ((HB5.out.trans (CD.out.mono HB5.out.size)).alloc (by have := HB5.out.size; omega) (.cells #[] 3)))
      case c2 => exact all_cell x.S
      case c3 => unfold maxLen; omega
      case c4 => omega
      case c5 => first | (simp; done) | (simp; omega)
      intro qS cS w6 hos hb
      rw [Nat.zero_add, List.nil_append] at hos
      rw [Nat.zero_add]
      replace hb : Below wd.heap.size wd w6 := ((Below.refl wd.heap.size wd).alloc (Nat.le_refl _) (.cells #[] 3)).trans hb
      replace CH := Lib.hid hb
      have hb5 : Below w5.heap.size w5 w6 := CD.out.trans (hb.mono (by omega))
      have OS6 := Lib.hid hos
      have OR6 := Lib.hid (own_keep OR.out (BW35.out.trans (hb5.mono (by omega))))
      have OM6 := Lib.hid (own_keep OM.out (BW45.out.trans (hb5.mono (by omega))))
      have OO6 := Lib.hid (own_keep OO5.out hb5)
      clear hos
      replace hb := hb5
      have HB6 := Lib.hid (HB5.out.trans (hb.mono HB5.out.size))
      have X6 := Lib.hid (X5.out.below hb)
      have Y6 := Lib.hid (Y5.out.below hb)
      have Z6 := Lib.hid ((hb.block (w.heap.size + 1 + 1) (Array.getElem?_eq_some_iff.1 Z5.out).1).trans Z5.out)
      have hsz6 := hb.size
      clear hb
      go_wp2
      refine ⟨fun _ => CH.out, ?_⟩
      refine one_s (i := 15) (by kernel_rfl) (op_list rfl ?_)
      go_wp2
      refine ⟨fun _ => CH.out, ?_⟩
      obtain ⟨d0, d1, d2, d3, d4, d5, d6, d7⟩ := cell8_row Z6.out
      obtain ⟨f0, f1, f2, f3, f4, f5, f6, f7⟩ := froz8_row Z6.out
      refine one_s (i := 16) (by kernel_rfl) (op_list rfl ?_)
      go_wp2
      refine ⟨late_s (by kernel_rfl), ?_⟩
      refine one_s (i := 17) (by kernel_rfl) (op_list rfl ?_)
      go_wp2
      refine ⟨late_s (by kernel_rfl), done_s (by kernel_rfl) ?_ _⟩
      obtain ⟨YY, hYY⟩ : ∃ y : StR, y = ⟨x.pc, XR, XM, x.S, x.inn, XO, x.cd, x.st⟩ := ⟨_, rfl⟩
      rw [← hYY] at HV
      have OO := Lib.hid (show StO w6 w.heap.size YY (.slice qR XR.length cR) (.slice qM XM.length cM) (.slice qS x.S.length cS) (.slice qO XO.length cO) by
        rw [hYY]
        exact ⟨own_base OR6.out (by omega), own_base OM6.out (by omega), own_base OS6.out (by omega), own_base OO6.out (by omega), nodup_ev (n1 := w3.heap.size) (n2 := w4.heap.size) (n3 := w5.heap.size) (by omega) (by omega) (fun g hg => (own_lt OR.out hg).2) (fun g hg => ⟨(own_lt OM.out hg).1, (own_lt OM.out hg).2⟩) (fun g hg => by have := (own_lt OS6.out hg).1; omega) (fun g hg => ⟨(own_lt OO5.out hg).1, (own_lt OO5.out hg).2⟩)⟩)
      have HYY := Lib.hid hYY
      clear hYY
      obtain ⟨we, hwe⟩ : ∃ W9, W9 = ((((((((w6.setCell ⟨w.heap.size + 1 + 1, 0, none⟩ (.int .i64 x.pc)).setCell ⟨w.heap.size + 1 + 1, 1, none⟩ (.slice qR XR.length cR)).setCell ⟨w.heap.size + 1 + 1, 2, none⟩ (.slice qM XM.length cM)).setCell ⟨w.heap.size + 1 + 1, 3, none⟩ (.slice qS x.S.length cS)).setCell ⟨w.heap.size + 1 + 1, 4, none⟩ (.int .i64 x.inn)).setCell ⟨w.heap.size + 1 + 1, 5, none⟩ (.slice qO XO.length cO)).setCell ⟨w.heap.size + 1 + 1, 6, none⟩ (.int .i64 x.cd)).setCell ⟨w.heap.size + 1 + 1, 7, none⟩ (.int .i64 x.st)) := ⟨_, rfl⟩
      have D2 := Lib.hid (show we.heap[w.heap.size + 1 + 1]? = some (.cells #[.int .i64 x.pc, .slice qR XR.length cR, .slice qM XM.length cM, .slice qS x.S.length cS, .int .i64 x.inn, .slice qO XO.length cO, .int .i64 x.cd, .int .i64 x.st] 32 (0, 0)) by rw [hwe]; exact set8_row Z6.out _ _ _ _ _ _ _ _)
      have BE := Lib.hid (show Below w.heap.size w we by rw [hwe]; exact set8_below HB6.out (by omega) _ _ _ _ _ _ _ _)
      have OE := Lib.hid (show StO we w.heap.size YY (.slice qR XR.length cR) (.slice qM XM.length cM) (.slice qS x.S.length cS) (.slice qO XO.length cO) by rw [hwe]; exact OO.out.set8 (OO.out.off (T := 32) (by decide) Z6.out) _ _ _ _ _ _ _ _)
      rw [← hwe]
      clear hwe d0 d1 d2 d3 d4 d5 d6 d7 f0 f1 f2 f3 f4 f5 f6 f7
      obtain ⟨d0, d1, d2, d3, d4, d5, d6, d7⟩ := cell8_row D2.out
      go_wp2
      refine bodyPost_ret (v := .tuple #[.agg #[.int .i64 x.pc, .slice qR XR.length cR, .slice qM XM.length cM, .slice qS x.S.length cS, .int .i64 x.inn, .slice qO XO.length cO, .int .i64 x.cd, .int .i64 x.st], .bool true]) (by simp [results, Tryz.results6, go_sem, d0, d1, d2, d3, d4, d5, d6, d7]) rfl ?_
      rw [HV.out.1, HV.out.2]
      rw [HYY.out]
      exact ⟨BE.out, _, _, _, _, _, _, _, _, rfl, by have h := OE.out; rw [HYY.out] at h; exact h⟩
end Go.Proofs.YthmababifgaejaaGreatDoor
