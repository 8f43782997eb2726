/- l02Vars: the variables of a term, found one after the other. -/
import Derived.Test.YtkgdmamafemniaaDoorAdd
import Derived.BigQuiet
import Derived.Deep.Upon
import Derived.Deep.RegionWith
namespace Go.Proofs.YtkgdmamafemniaaDoor
open Go.ChangeShapes Go.WideShapes Go.ChangeAt Go.RowKit
open ValueR (all costs)
/-- append of a slice of whatever length to an owned one -/
theorem wpList_append_shown {P : Program} {w : World} {ops : Array Oper} {rest : List Oper} {o : Oper} {a : Act} {Q : Exit → Act → World → Prop} (hgd : o.guard = none) (s x : Operand) (t : TypeId)
    (ho : o.op = .call { callee := .builtin .append, args := #[s, x], argTypes := #[t, t] })
    (base : Nat) (e : TypeId) (i : TypeInfo) (z : Value) (size bytes : Nat) (ht : P.underlying t = some (.slice e)) (hi : P.info? e = some i) (hz : i.zero = some z)
    (hsize : i.size = size) (hby : i.bytes = bytes) (hzs : z.cells.size = size) (hsz : 0 < size)
    (v : Value) (n : Nat) (xs : List Value) (hs : a.eval s = v) (hown : w.ownsRow base e size v n xs)
    (q : Option Addr) (m c : Nat) (news : List Value) (hx : a.eval x = .slice q m c) (hl : news.length = m * size) (hnews : 0 < m → ∃ ad, q = some ad ∧ ∀ j u, news[j]? = some u → w.cell? (ad.add j) = some u) (h1 : ∀ u ∈ news, u.oneCell' = true)
    (h63 : n + m ≤ maxLen) (hbytes : (n + m) * bytes ≤ 140737488355328) (hbase : base ≤ w.heap.size)
    (h : ∀ q' c' w', w'.ownsRow base e size (.slice q' (n + m) c') (n + m) (xs ++ news) → Below base w w' → wpList P ops Q rest (a.put o.dst (.slice q' (n + m) c')) w') : wpList P ops Q (o :: rest) a w := by
  rcases Nat.eq_zero_or_pos m with hm | hm
  · subst hm
    have hnil : news = [] := List.length_eq_zero_iff.1 (by omega)
    subst hnil
    obtain ⟨q0, c0, rfl, hc⟩ : ∃ q0 c0, v = .slice q0 n c0 ∧ n ≤ c0 := by
      rcases hown.2 with ⟨rfl, h⟩ | ⟨g, cap, _, rfl, _, _, h, _⟩
      · exact ⟨none, 0, by rw [h], by omega⟩
      · exact ⟨_, cap, rfl, h⟩
    refine wpList_plain hgd fun K hK => ?_
    have hr := run_append_nothing (P := P) w t t o.type e i ht hi q0 n c0 hc (.slice q 0 c) ⟨.inl ⟨e, ht⟩, fun _ => rfl, by cases q <;> simp [Builtin.firstCells, loadCells, loadCellsFrom], by cases q <;> simp [Builtin.firstCells, loadCells, loadCellsFrom], by simp, fun u hu => by cases hu⟩
    unfold Oper.wp execOp
    simp only [ho, resolve, invoke, builtin, Sem.run_bind, Sem.run_pure, Result.andThen_ok, List.map_toArray, List.map_cons, List.map_nil, hs, hx, hr]
    exact hK _ _ (h q0 c0 w (by simpa using hown) (Below.refl _ _))
  · obtain ⟨ad, rfl, hn⟩ := hnews hm
    refine wpList_append_own w hgd s x t ho base e i z size bytes ht hi hz hsize hby hzs hsz v n xs hs hown ad m c news hx hl hn h1 h63 hbytes hbase fun v' w' h2 h3 _ => ?_
    obtain ⟨q', c', rfl⟩ : ∃ q' c', v' = .slice q' (n + m) c' := by
      rcases h2.2 with ⟨_, h⟩ | ⟨g, cap, _, rfl, _⟩
      · omega
      · exact ⟨_, cap, rfl⟩
    exact h q' c' w' h2 ((Below.refl _ _).grown h3 hbase fun k hk => (hown.lt k hk).1)
namespace Fo
/-- the variables of a slice of nodes, beside those that are known -/
noncomputable def vars : Fo → List ValueR → Option (List ValueR)
  | .nil, V => some V
  | .cons op wd _ nm k r, V => (if op = 22 then addV V nm wd else k.vars V).bind fun V' => r.vars V'
end Fo
noncomputable def varsOne (op wd : Int) (nm : ByteArray) (k : Fo) (V : List ValueR) : Option (List ValueR) := if op = 22 then addV V nm wd else k.vars V
theorem vars_drop (F : Fo) (j : Nat) {op wd n : Int} {nm : ByteArray} {k : Fo} (h : F.At j op wd n nm k) (V : List ValueR) : (F.drop j).vars V = (varsOne op wd nm k V).bind (fun V' => (F.drop (j + 1)).vars V') := by
  rw [Fo.drop_at F j h]; rfl
def VrEnd (w : World) (res : Option (List ValueR)) (e : Ending) (w' : World) : Prop := Below w.heap.size w w' ∧ match res with
  | some V' => ∃ q cap, e = .returned (.tuple #[.slice q V'.length cap, .bool true]) ∧ Cs.Shows w' 0 3 (.slice q V'.length cap) V'.length (all V')
  | none => ∃ v, e = .returned (.tuple #[v, .bool false])
theorem vr_none {w w' : World} {res : Option (List ValueR)} {e : Ending} {v : Value} (hb : Below w.heap.size w w') (hr : res = none) (he : e = .returned (.tuple #[v, .bool false])) : VrEnd w res e w' := by
  subst hr; exact ⟨hb, v, he⟩
theorem vr_some {w w' : World} {V' : List ValueR} {res : Option (List ValueR)} {e : Ending} {q : Option Addr} {cap : Nat} (hb : Below w.heap.size w w') (hr : res = some V') (he : e = .returned (.tuple #[.slice q V'.length cap, .bool true])) (hs : Cs.Shows w' 0 3 (.slice q V'.length cap) V'.length (all V')) : VrEnd w res e w' := by
  subst hr; exact ⟨hb, q, cap, he, hs⟩
set_option maxRecDepth 100000 in
set_option maxHeartbeats 4000000 in
theorem vars_there (V : List ValueR) (wd n : Int) (nm : ByteArray) (s : Value) (k : Fo) (q : Option Addr) (cap : Nat) (w : World) (his : (k.cs 29).Is w 0 5 k.len s) (hv : Cs.Shows w 0 3 (.slice q V.length cap) V.length (all V)) (hn : V.length ≤ 1048576) (hat0 : isAt V nm = true) :
    Calls Tryd.prog 35 #[.agg #[.int .i64 22, .int .i64 wd, .int .i64 n, .string nm, s], .slice q V.length cap] w (VrEnd w (addV V nm wd)) := by
  have hml : maxLen = 9223372036854775807 := rfl
  obtain ⟨_, ⟨_, q0, cap0, rfl, _⟩, _⟩ := his
  have HV := Lib.hid hv
  obtain ⟨hcap, hcm⟩ : V.length ≤ cap ∧ cap ≤ maxLen := by
    obtain ⟨_, q', c', h, h1, h2, _⟩ := hv
    cases h; exact ⟨h1, h2⟩
  obtain ⟨W1, hW1⟩ : ∃ W1, W1 = w.alloc (.cells #[.int .i64 22, .int .i64 wd, .int .i64 n, .string nm, .slice q0 k.len cap0] 29) := ⟨_, rfl⟩
  have HBW : Hid (Below w.heap.size w W1) := Lib.hid (by rw [hW1]; exact (Below.refl _ _).alloc (Nat.le_refl _) _)
  have hsW : w.heap.size < W1.heap.size := by rw [hW1]; simp
  have X1 : Hid (Cell5 W1 w.heap.size (.int .i64 22) (.int .i64 wd) (.int .i64 n) (.string nm) (.slice q0 k.len cap0)) := Lib.hid (by rw [hW1]; exact cell5_alloc _ _ _ _ _ _ _)
  have HI : Hid (∀ j, j < V.length → ∃ b o r, q = some ⟨b, o, none⟩ ∧ b < w.heap.size ∧ V[j]? = some r ∧ w.rangeAt b (o + j * 3) r.cells) := Lib.hid (fun j hj => by
    rcases Cs.shows_cases HV.out with ⟨h0, _⟩ | ⟨hpos, b, o, c, hq, _, _, hbl, hr⟩
    · omega
    · injection hq with e1 e2 e3
      exact ⟨b, o, _, e1, hbl, List.getElem?_eq_getElem hj, flat_nth ValueR.cells 3 (fun r => rfl) V j hj hr⟩)
  have HP := Lib.hid (fun i => pos_is V nm i)
  obtain ⟨res, hres⟩ : ∃ res, addV V nm wd = res := ⟨_, rfl⟩
  rw [hres]
  have HRES := Lib.hid hres
  clear hv hres
  go_enter Tryd.func35, Tryd.ntmps35
  go_wp2_with fail
  rw [← hW1]
  go_loopw [6] (fun i wr => ∃ j : Nat, j ≤ V.length ∧ i = .int .i64 j ∧ (∀ t r, t < j → V[t]? = some r → Op.bytesLess r.f0.toList nm.toList = true) ∧ Below W1.heap.size W1 wr) (fun i _ => V.length - (intOf i).toNat)
  case atStart => exact ⟨0, Nat.zero_le _, rfl, fun t r h => absurd h (Nat.not_lt_zero _), Below.refl _ _⟩
  case round =>
    clear hW1
    obtain ⟨j, hj, rfl, hlt, hb⟩ := hrel
    obtain ⟨x0, x1, x2, x3, x4⟩ := X1.out.below hb
    have HB := Lib.hid hb
    have hsz := hb.size
    have HL := Lib.hid hlt
    clear hlt
    by_cases hjn : j < V.length
    · obtain ⟨b, o, r, rfl, hbl, hr, hrr⟩ := HI.out j hjn
      have hrr := rangeAt_below (HBW.out.trans (hb.mono (by omega))) hrr
      have c0 : wr.cell? ⟨b, o + j * 3, none⟩ = some (.string r.f0) := hrr 0 _ rfl
      have c1 : wr.cell? ⟨b, o + j * 3 + 1, none⟩ = some (.int .i64 r.f1) := hrr 1 _ rfl
      have hjd : decide ((j : Int) < (V.length : Int)) = true := by simp; omega
      have HR := Lib.hid hr
      clear hrr hb hr
      cases hl : Op.bytesLess r.f0.toList nm.toList with
      | true =>
        go_wp2
        go_quiet (fail)
        go_wp2
        go_roundw
        case rel => exact ⟨j + 1, by omega, by go_num, fun t r' ht hr' => (by
          by_cases e : t = j
          · subst e; rw [HR.out] at hr'; cases hr'; exact hl
          · exact HL.out t r' (by omega) hr'), below_drewN HB.out _⟩
        case measure => simp [intOf]; omega
      | false =>
        have hpos : pos V nm = j := HP.out j HL.out hj (fun r' hr' => by rw [HR.out] at hr'; cases hr'; exact hl)
        have HPO := Lib.hid hpos
        clear hpos
        go_wp2
        go_quiet (fail)
        go_wp2
        have HB2 := Lib.hid (below_drewN HB.out nq)
        clear x0 x1 x2 x3 x4 c0 c1 HB
        generalize wr.drewN nq = wc at *
        obtain ⟨x0, x1, x2, x3, x4⟩ := X1.out.below HB2.out
        obtain ⟨b', o', r', e1, _, e2, hrr⟩ := HI.out j hjn
        cases e1
        rw [HR.out] at e2
        cases e2
        have hrr := rangeAt_below (HBW.out.trans (HB2.out.mono (by omega))) hrr
        have c0 : wc.cell? ⟨b, o + j * 3, none⟩ = some (.string r.f0) := hrr 0 _ rfl
        have c1 : wc.cell? ⟨b, o + j * 3 + 1, none⟩ = some (.int .i64 r.f1) := hrr 1 _ rfl
        clear hrr
        by_cases hq : r.f0 = nm
        · have hs2 : (r.f0.toList == nm.toList) = true := by rw [hq]; simp
          have hat : isAt V nm = true := by unfold isAt; rw [HPO.out, HR.out]; exact decide_eq_true hq
          have hadd : res = if r.f1 = wd then some V else none := by rw [← HRES.out]; unfold addV; rw [if_pos hat, HPO.out, HR.out]
          have HADD := Lib.hid hadd
          clear hadd hat hq
          go_wp2
          go_quiet (fail)
          go_wp2
          have HB3 := Lib.hid (below_drewN HB2.out nq)
          have hw3 := (Below.refl wc.heap.size wc)
          have c1 := ((below_drewN hw3 nq).cell (p := ⟨b, o + j * 3 + 1, none⟩) (by have := HB2.out.size; show b < wc.heap.size; omega)).trans c1
          have x1 := ((below_drewN hw3 nq).cell (p := ⟨w.heap.size, 1, none⟩) (by have := HB2.out.size; show w.heap.size < wc.heap.size; omega)).trans x1
          clear hw3 HB2
          generalize wc.drewN nq = wd3 at *
          by_cases hf : r.f1 = wd
          · have hfb : (r.f1 == wd) = true := by simpa using hf
            have HRS : Hid (res = some V) := Lib.hid (by rw [HADD.out, if_pos hf])
            clear hf
            go_quiet (fail)
            go_wp2
            go_ret2
            exact vr_some (HBW.out.trans ((below_drewN HB3.out _).mono (by omega))) HRS.out rfl (HV.out.below (HBW.out.trans ((below_drewN HB3.out _).mono (by omega))))
          · have hfb : (r.f1 == wd) = false := by simpa using hf
            have HRS : Hid (res = none) := Lib.hid (by rw [HADD.out, if_neg hf])
            clear hf
            go_quiet (fail)
            go_wp2
            go_ret2
            exact vr_none (HBW.out.trans ((below_drewN HB3.out _).mono (by omega))) HRS.out rfl
        · have hs2 : (r.f0.toList == nm.toList) = false := by
            simp only [beq_eq_false_iff_ne, ne_eq]
            exact fun e => hq (ba_ext e)
          have hno : isAt V nm = false := by unfold isAt; rw [HPO.out, HR.out]; exact decide_eq_false hq
          rw [hat0] at hno
          cases hno
    · have ej : j = V.length := by omega
      have hjd : decide ((j : Int) < (V.length : Int)) = false := by simp; omega
      have hpos : pos V nm = j := HP.out j HL.out hj (fun r' hr' => by rw [List.getElem?_eq_none (by omega)] at hr'; cases hr')
      have HPO := Lib.hid hpos
      clear hpos hb
      go_wp2
      go_quiet (fail)
      go_wp2
      have HB2 := Lib.hid (below_drewN HB.out nq)
      clear x0 x1 x2 x3 x4 HB
      generalize wr.drewN nq = wc at *
      obtain ⟨x0, x1, x2, x3, x4⟩ := X1.out.below HB2.out
      have hno : isAt V nm = false := by unfold isAt; rw [HPO.out, List.getElem?_eq_none (by omega)]
      rw [hat0] at hno
      cases hno
end Go.Proofs.YtkgdmamafemniaaDoor
