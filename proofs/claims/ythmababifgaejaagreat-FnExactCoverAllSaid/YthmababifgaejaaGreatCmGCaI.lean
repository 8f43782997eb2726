/- What the program's CoverAll returns. No condition. Slices of int: marks. No condition. -/
import Derived.Test.YthmababifgaejaaGreatCmGCaM
import Derived.Test.YthmababifgaejaaGreatCmGCvI
import Derived.Test.YthmababifgaejaaGreatCmGOwAt
import Derived.Deep.Cut
import Derived.Test.YthmababifgaejaaGreatCmGFlInt
namespace Go.Proofs.YthmababifgaejaaGreat
open Go.ChangeShapes Go.WideShapes Go.ChangeAt Go.RowKit
/-- append of a slice of whatever length to an owned one: what is left alone besides -/
theorem wpList_append_any_at {P : Program} {w : World} {ops : Array Oper} {rest : List Oper} {o : Oper} {a : Act} {Q : Exit → Act → World → Prop} (hgd : o.guard = none) (s x : Operand) (t : TypeId)
    (ho : o.op = .call { callee := .builtin .append, args := #[s, x], argTypes := #[t, t] })
    (base : Nat) (e : TypeId) (i : TypeInfo) (z : Value) (size bytes : Nat) (ht : P.underlying t = some (.slice e)) (hi : P.info? e = some i) (hz : i.zero = some z)
    (hsize : i.size = size) (hby : i.bytes = bytes) (hzs : z.cells.size = size) (hsz : 0 < size)
    (v : Value) (n : Nat) (xs : List Value) (hs : a.eval s = v) (hown : w.ownsRow base e size v n xs)
    (q : Option Addr) (m c : Nat) (news : List Value) (hx : a.eval x = .slice q m c) (hl : news.length = m * size) (hnews : 0 < m → ∃ ad, q = some ad ∧ ∀ j u, news[j]? = some u → w.cell? (ad.add j) = some u) (h1 : ∀ u ∈ news, u.oneCell' = true)
    (h63 : n + m ≤ maxLen) (hbytes : (n + m) * bytes ≤ 140737488355328) (hbase : base ≤ w.heap.size)
    (h : ∀ v' w', w'.ownsRow base e size v' (n + m) (xs ++ news) → Below base w w' → (∀ g, g < w.heap.size → g ∉ v.ownBlock.toList → w'.heap[g]? = w.heap[g]?) → wpList P ops Q rest (a.put o.dst v') w') : wpList P ops Q (o :: rest) a w := by
  rcases Nat.eq_zero_or_pos m with hm | hm
  · subst hm
    have hnil : news = [] := List.length_eq_zero_iff.1 (by omega)
    subst hnil
    obtain ⟨q0, c0, rfl, hc⟩ : ∃ q0 c0, v = .slice q0 n c0 ∧ n ≤ c0 := by
      rcases hown.2 with ⟨rfl, h0⟩ | ⟨g, cap, _, rfl, _, _, h0, _⟩
      · exact ⟨none, 0, by rw [h0], by omega⟩
      · exact ⟨_, cap, rfl, h0⟩
    refine wpList_plain hgd fun K hK => ?_
    have hr := run_append_nothing (P := P) w t t o.type e i ht hi q0 n c0 hc (.slice q 0 c) ⟨.inl ⟨e, ht⟩, fun _ => rfl, by cases q <;> simp [Builtin.firstCells, loadCells, loadCellsFrom], by cases q <;> simp [Builtin.firstCells, loadCells, loadCellsFrom], by simp, fun u hu => by cases hu⟩
    unfold Oper.wp execOp
    simp only [ho, resolve, invoke, builtin, Sem.run_bind, Sem.run_pure, Result.andThen_ok, List.map_toArray, List.map_cons, List.map_nil, hs, hx, hr]
    exact hK _ _ (h _ w (by simpa using hown) (Below.refl _ _) (fun _ _ _ => rfl))
  · obtain ⟨ad, rfl, hn⟩ := hnews hm
    refine wpList_append_own w hgd s x t ho base e i z size bytes ht hi hz hsize hby hzs hsz v n xs hs hown ad m c news hx hl hn h1 h63 hbytes hbase fun v' w' h2 h3 _ => ?_
    exact h v' w' h2 ((Below.refl _ _).grown h3 hbase fun k hk => (hown.lt k hk).1) (fun g hg hn => h3.block g hg (fun e => hn (by rw [← e]; simp)))
set_option maxRecDepth 100000 in
set_option maxHeartbeats 8000000 in
theorem i_coverall (vw vm vi : Int) (L : List InsR) (T : List (List Int)) (f : Int) (sL tv : Value) (w : World) (hs : Cs.Shows w 0 4 sL L.length (InsR.all L)) (ht : (Cs.rows IntSS.c T).Is w 0 1 T.length tv) (hok : ∀ r ∈ L, r.Ok) (hL : L.length ≤ maxLen) (hT : IntSS.Ok T) (hl : T.length ≤ 1048577) :
    Calls Tryz.prog 9 #[.agg #[.int .i64 vw, .int .i64 vm, .int .i64 vi, sL], tv, .int .i64 f] w (NxOwn (caV vw vm vi L f T) w) := by
  have hml : maxLen = 9223372036854775807 := rfl
  have KT := Lib.hid (fun W (hb : Below w.heap.size w W) => i_tests vw vm vi L T sL tv W (hs.below hb) (ht.below hb) hok hL hT)
  have KC := Lib.hid (fun j (hj : j < T.length) li W (hb : Below w.heap.size w W) (h : Cs.Shows W 0 1 li T[j].length (IntL.all T[j])) => i_coverof vw vm vi L T[j] f sL li W (hs.below hb) h hok hL (hT _ (List.getElem_mem hj)).2)
  have HTS := Lib.hid ht
  obtain ⟨_, q, cap, rfl, _⟩ := hs
  obtain ⟨tq, tc, rfl⟩ : ∃ tq tc, tv = .slice tq T.length tc := by
    obtain ⟨_, ⟨_, q, cap, h, _⟩, _⟩ := ht
    exact ⟨q, cap, h⟩
  have HII : Hid (∀ j (hj : j < T.length), ∃ b o, tq = some ⟨b, o, none⟩ ∧ b < w.heap.size ∧ ∀ wr, Below w.heap.size w wr → ∃ q m cp, T[j].length = m ∧ wr.cell? ⟨b, o + j, none⟩ = some (.slice q m cp) ∧ Cs.Shows wr 0 1 (.slice q m cp) T[j].length (IntL.all T[j])) := Lib.hid (fun j hj => by
    rcases IntSS.cases HTS.out with ⟨h0, _⟩ | ⟨_, b, o, c, hq, _, _, hbl, HI⟩
    · rw [h0] at hj; exact absurd hj (Nat.not_lt_zero _)
    · injection hq with e1 e2 e3
      exact ⟨b, o, e1, hbl, fun wr hb => HI wr hb j hj⟩)
  clear ht HTS hok hT
  obtain ⟨b3, hb3⟩ : ∃ B, aoB vw vm vi L T = B := ⟨_, rfl⟩
  rw [hb3] at KT
  have HAO := Lib.hid hb3
  have HNO := Lib.hid (show b3 = false → caV vw vm vi L f T = [] from fun h => by unfold caV; rw [hb3, h]; rfl)
  clear hb3
  obtain ⟨i9, hi9, hz9, hzs9, hzb9⟩ := info_parts zero_Int
  obtain ⟨w0, hw0⟩ : ∃ w0, w0 = w.alloc (.cells #[.int .i64 vw, .int .i64 vm, .int .i64 vi, .slice q L.length cap] 32) := ⟨_, rfl⟩
  have HB0 := Lib.hid (show Below w.heap.size w w0 by rw [hw0]; exact (Below.refl _ _).alloc (Nat.le_refl _) _)
  have XR0 := Lib.hid (show w0.heap[w.heap.size]? = some (.cells #[.int .i64 vw, .int .i64 vm, .int .i64 vi, .slice q L.length cap] 32 (0, 0)) by rw [hw0]; exact heap_alloc_new _ _)
  obtain ⟨x0, x1, x2, x3⟩ := cell4_row XR0.out
  rw [hw0] at x0 x1 x2 x3
  go_enter Tryz.func9, Tryz.ntmps9
  go_wp2_with fail
  rw [← hw0]
  clear hw0 x0 x1 x2 x3
  refine (KT.out _ HB0.out).mono ?_
  rintro e w1 ⟨rfl, hb⟩
  have HB1 := Lib.hid (HB0.out.trans (hb.mono HB0.out.size))
  have XR1 := Lib.hid ((hb.block w.heap.size (Array.getElem?_eq_some_iff.1 XR0.out).1).trans XR0.out)
  clear hb
  cases b3
  case false =>
    have hv := HNO.out rfl
    go_wp2
    go_ret
    exact nx_none hv HB1.out
  case true =>
    have HV := Lib.hid (caV_impl (f := f) HAO.out)
    have RL := Lib.hid (show w1.ownsRow w.heap.size 3 1 (.slice none 0 0) 0 [] from World.ownsRow_nil _ _ _ _)
    have HBz := HB1
    have XRz := XR1
    go_wp2
    go_loopw [7, 16] (fun lv kv wr => ∃ k : Nat, k ≤ T.length ∧ kv = .int .i64 k ∧ wr.ownsRow w.heap.size 3 1 lv (caI vw vm vi L f T k).length (IntL.all (caI vw vm vi L f T k)) ∧ Below w.heap.size w wr ∧ wr.heap[w.heap.size]? = some (.cells #[.int .i64 vw, .int .i64 vm, .int .i64 vi, .slice q L.length cap] 32 (0, 0))) (fun _ kv _ => T.length - (intOf kv).toNat)
    case atStart => exact ⟨0, Nat.zero_le _, rfl, RL.out, HBz.out, XRz.out⟩
    case round =>
      obtain ⟨k, hk, rfl, ho, hB, hX⟩ := hrel
      obtain ⟨oq, oc, rfl⟩ := own_slc ho
      have OV := Lib.hid ho
      have HBr := Lib.hid hB
      have XRr := Lib.hid hX
      have hsr := hB.size
      clear ho hB hX
      by_cases hkn : k < T.length
      case pos =>
        obtain ⟨tb, tof, rfl, htb, hcells⟩ := HII.out k hkn
        obtain ⟨iq, m, ic, hm, cT, hsh⟩ := hcells wr HBr.out
        have hki : (k : Int) < (T.length : Int) := by omega
        have hkd : decide ((k : Int) < (T.length : Int)) = true := decide_eq_true hki
        have htw : tb < wr.heap.size := by omega
        have hgd : T.getD k [] = T[k] := by rw [List.getD_eq_getElem?_getD, List.getElem?_eq_getElem hkn]; rfl
        have HZ := Lib.hid (show caI vw vm vi L f T (k + 1) = caI vw vm vi L f T k ++ cvV vw vm vi L T[k] f by rw [← hgd]; rfl)
        have hcl := caI_len (vw := vw) (vm := vm) (vi := vi) (L := L) (f := f) (T := T) k
        have hc2 := cvV_len vw vm vi L T[k] f
        have KX := Lib.hid (KC.out k hkn _ wr HBr.out hsh)
        clear hcells hsh hgd
        generalize T[k] = I at *
        obtain ⟨x0, x1, x2, x3⟩ := cell4_row XRr.out
        go_wp2_with fail
        clear cT x0 x1 x2 x3
        refine KX.out.mono ?_
        rintro e w3 ⟨hb, q3, c3, rfl, ho3⟩
        have OV3 := Lib.hid (own_keep OV.out hb)
        have HB3 := Lib.hid (HBr.out.trans (hb.mono hsr))
        have XR3 := Lib.hid ((hb.block w.heap.size (Array.getElem?_eq_some_iff.1 XRr.out).1).trans XRr.out)
        have SH3 := Lib.hid (Cs.shows_of_owns ho3)
        have hs3 : w.heap.size ≤ w3.heap.size := HB3.out.size
        clear hb ho3
        go_wp2_with (at_builtin; refine wpList_append_any_at rfl _ _ 28 rfl w.heap.size 3 i9 (.int .i64 0) 1 8 Tryz.underlying28 hi9 hz9 hzs9 hzb9 rfl (by decide) (.slice oq (caI vw vm vi L f T k).length oc) (caI vw vm vi L f T k).length _ rfl OV3.out q3 (cvV vw vm vi L I f).length c3 (IntL.all (cvV vw vm vi L I f)) rfl ?c0 ?c1 ?c2 ?c3 ?c4 ?c5 ?_)
        try case c0 => (rw [IntL.all_len] <;> omega)
        try case c1 => exact news_of' SH3.out
        try case c2 => exact (fun u hu => by rw [IntL.all_map] at hu; obtain ⟨y, _, rfl⟩ := List.mem_map.1 hu; rfl)
        try case c3 => omega
        try case c4 => omega
        try case c5 => exact hs3
        intro v7 w7 hown hb7 hk7
        have O7 := Lib.hid (show w7.ownsRow w.heap.size 3 1 v7 (caI vw vm vi L f T (k + 1)).length (IntL.all (caI vw vm vi L f T (k + 1))) by rw [HZ.out, List.length_append, IntL.all_app]; exact hown)
        have HB7 := Lib.hid (HB3.out.trans hb7)
        have XR7 := Lib.hid ((hk7 _ (Array.getElem?_eq_some_iff.1 XR3.out).1 (fun e => own_off (T := 32) (by decide) OV3.out XR3.out (by rw [e]; simp))).trans XR3.out)
        clear hown hb7 hk7
        go_wp2
        go_roundw
        case rel => exact ⟨k + 1, by omega, by go_num, O7.out, HB7.out, XR7.out⟩
        case measure => simp [intOf]; omega
      case neg =>
        have hke : k = T.length := by omega
        subst hke
        have hki : ¬ ((T.length : Int) < (T.length : Int)) := by omega
        have hkd : decide ((T.length : Int) < (T.length : Int)) = false := decide_eq_false hki
        have hcl := caI_len (vw := vw) (vm := vm) (vi := vi) (L := L) (f := f) (T := T) T.length
        have KA := Lib.hid (i_asc _ rfl OV.out HBr.out (by omega))
        rw [← HV.out] at KA
        go_wp2_with fail
        refine KA.out.mono ?_
        rintro e w8 ⟨q8, c8, rfl, ho, hb⟩
        have O8 := Lib.hid ho
        have HB8 := Lib.hid hb
        clear ho hb
        go_wp2
        go_ret
        exact ⟨HB8.out, q8, c8, rfl, O8.out⟩
end Go.Proofs.YthmababifgaejaaGreat
namespace Go.Proofs.YthmababifgaejaaGreat
open Go.ChangeShapes Go.WideShapes Go.ChangeAt Go.RowKit
set_option maxRecDepth 100000 in
theorem mark_Int_none (a : Option Addr) (c k : Nat) (w : World) : Calls Tryz.prog 15 #[.slice a 0 c, .int .i64 k] w fun e w' => e = .returned (.int .i64 k) ∧ w = w' := by
  go_enter Tryz.func15, Tryz.ntmps15
  go_wp2
  refine wp_loop_rounds 1 ?_
  rw [rounds_succ]
  go_wp2
  go_ret
  exact ⟨rfl, rfl⟩
set_option maxRecDepth 100000 in
theorem held_Int_none (a : Option Addr) (c k : Nat) (w : World) : Calls Tryz.prog 16 #[.slice a 0 c, .int .i64 k] w fun e w' => e = .returned (.int .i64 k) ∧ w = w' := by
  go_enter Tryz.func16, Tryz.ntmps16
  go_wp2
  refine wp_loop_rounds 1 ?_
  rw [rounds_succ]
  go_wp2
  go_ret
  exact ⟨rfl, rfl⟩
def MarkIntEnd (L : List Int) (base k : Nat) (v : Value) (w : World) (e : Ending) (w' : World) : Prop := e = .returned (.int .i64 ((k + L.length : Nat) : Int)) ∧ w'.ownsRow base 3 1 v L.length (IntL.all (IntL.mkrs L k)) ∧ Apart v.ownBlock.toList w w'
set_option maxRecDepth 100000 in
set_option maxHeartbeats 1000000 in
theorem mark_Int (L : List Int) (v : Value) (k base : Nat) (w : World) (ho : w.ownsRow base 3 1 v L.length (IntL.all L)) (h1 : 1 ≤ k) (hk : k + L.length ≤ 1000000000000) :
    Calls Tryz.prog 15 #[v, .int .i64 k] w (MarkIntEnd L base k v w) := by
  have hml : maxLen = 9223372036854775807 := rfl
  rcases ho.2 with ⟨rfl, h0⟩ | ⟨g, cap, cur, rfl, _⟩
  · have hL : L = [] := List.length_eq_zero_iff.1 h0
    subst hL
    exact (mark_Int_none _ _ _ _).mono fun e w' ⟨he, hw⟩ => by subst hw; exact ⟨he, ho, Apart.refl _ _⟩
  have HOW := Lib.hid ho
  have HG := Lib.hid (fun j (h : j < L.length) => IntL.half_at L k j h)
  have HZ := Lib.hid (IntL.half_zero L k)
  have HE := Lib.hid (IntL.half_all L k)
  unfold MarkIntEnd
  clear ho
  generalize hlen : L.length = n at *
  have HL := Lib.hid hlen
  clear hlen
  go_enter Tryz.func15, Tryz.ntmps15
  go_wp2
  go_loopw [1, 5] (fun m i wr => ∃ (j c : Nat), j ≤ n ∧ i = .int .i64 j ∧ m = .int .i64 c ∧ c = k + j ∧ wr.ownsRow base 3 1 (.slice (some ⟨g, 0, none⟩) n cap) n (IntL.all (IntL.half L k j)) ∧ Apart [g] w wr) (fun _ i _ => n - (intOf i).toNat)
  case atStart => exact ⟨0, k, Nat.zero_le _, rfl, rfl, rfl, by rw [HZ.out]; exact HOW.out, Apart.refl _ _⟩
  case round =>
    obtain ⟨j, c, hj, rfl, rfl, hc, ho, hap⟩ := hrel
    by_cases hjn : j < n
    · obtain ⟨x1, r, x3, hl1, hx0, hx1⟩ := HG.out j hjn
      rw [hx0] at ho
      have HX1 := Lib.hid (hx1 c hc)
      have HL1 := Lib.hid hl1
      have hcb : c + 1 ≤ 1000000000000 := by omega
      have hc1 : 1 ≤ c := by omega
      have HC := Lib.hid hc
      clear hx0 hx1 hl1
      have HO := Lib.hid ho
      have HA := Lib.hid hap
      have hr := range_mid (own_range HO.out)
      rw [HL1.out, Nat.zero_add] at hr
      have c0 : wr.cell? ⟨g, j, none⟩ = some (.int .i64 r) := hr 0 _ rfl
      have f0 := HO.out.frozenAt j
      clear hr hc ho hap
      have hki : (j : Int) < (n : Int) := by omega
      have OE := Lib.hid (Cs.own_poke (i := 0) HO.out HL1.out (by simp) (.int .i64 ((c : Int) : Int)))
      have AE := Lib.hid (HA.out.setCell (p := ⟨g, j, none⟩) (by simp) (.int .i64 ((c : Int) : Int)))
      go_wp2
      go_roundw
      case rel => exact ⟨j + 1, c + 1, by omega, by go_num, by go_num, by rw [HC.out]; omega, by rw [HX1.out]; exact OE.out, AE.out⟩
      case measure => simp [intOf]; omega
    · have ej : j = n := by omega
      subst ej
      have HR := Lib.hid (And.intro hc (And.intro ho hap))
      clear hc ho hap
      go_wp2
      go_ret
      obtain ⟨hc, ho, hap⟩ := HR.out
      rw [HE.out] at ho
      exact ⟨by rw [hc]; rfl, ho, hap⟩
set_option maxRecDepth 100000 in
set_option maxHeartbeats 1000000 in
theorem held_Int (L : List Int) (v : Value) (k : Nat) (w : World) (hv : Cs.Shows w 0 1 v L.length (IntL.all (IntL.mkrs L k))) (h1 : 1 ≤ k) (hk : k + L.length ≤ 1000000000000) :
    Calls Tryz.prog 16 #[v, .int .i64 k] w fun e w' => e = .returned (.int .i64 ((k + L.length : Nat) : Int)) ∧ Below w.heap.size w w' := by
  have hml : maxLen = 9223372036854775807 := rfl
  rcases Cs.shows_cases hv with ⟨h0, q, cap, rfl⟩ | ⟨hpos, b, o, cap, rfl, _, _, hbl, hr⟩
  · have hL : L = [] := List.length_eq_zero_iff.1 h0
    subst hL
    exact (held_Int_none _ _ _ _).mono fun e w' ⟨he, hw⟩ => by subst hw; exact ⟨he, Below.refl _ _⟩
  have HR := Lib.hid (fun (wr : World) (hb : Below w.heap.size w wr) j (h : j < L.length) => show wr.cell? ⟨b, o + j, none⟩ = some (.int .i64 (((k + j : Nat) : Int) : Int)) by
    have := IntL.nth (IntL.mkrs L k) j (by rw [IntL.mkrs_len]; exact h) (rangeAt_below hb hr)
    rw [IntL.mkrs_get L k j h] at this
    exact this)
  clear hv hr
  generalize L.length = n at *
  go_enter Tryz.func16, Tryz.ntmps16
  go_wp2
  go_loopw [1, 5] (fun m i wr => ∃ (j c : Nat), j ≤ n ∧ i = .int .i64 j ∧ m = .int .i64 c ∧ c = k + j ∧ Below w.heap.size w wr) (fun _ i _ => n - (intOf i).toNat)
  case atStart => exact ⟨0, k, Nat.zero_le _, rfl, rfl, rfl, Below.refl _ _⟩
  case round =>
    obtain ⟨j, c, hj, rfl, rfl, hc, hb⟩ := hrel
    by_cases hjn : j < n
    · have c0 := HR.out wr hb j hjn
      rw [← hc] at c0
      have HB := Lib.hid hb
      have hcb : c + 1 ≤ 1000000000000 := by omega
      have hc1 : 1 ≤ c := by omega
      have hki : (j : Int) < (n : Int) := by omega
      have HC := Lib.hid hc
      clear hb hc
      go_wp2
      go_roundw
      case rel => exact ⟨j + 1, c + 1, by omega, by go_num, by go_num, by rw [HC.out]; omega, HB.out⟩
      case measure => simp [intOf]; omega
    · have ej : j = n := by omega
      subst ej
      have HB := Lib.hid (And.intro hc hb)
      clear hc hb
      go_wp2
      go_ret
      exact ⟨by rw [HB.out.1]; rfl, HB.out.2⟩
end Go.Proofs.YthmababifgaejaaGreat
