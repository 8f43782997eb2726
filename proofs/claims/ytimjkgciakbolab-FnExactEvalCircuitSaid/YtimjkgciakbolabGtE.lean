/- What EvalCircuit returns, the specification's and the program's. No condition. -/
import Derived.Test.YtimjkgciakbolabGtN
import Derived.Test.YtimjkgciakbolabGtS
import Derived.Test.YtimjkgciakbolabPlBool
import Derived.Test.YtimjkgciakbolabApAny
namespace Go.Proofs.Ytimjkgciakbolab
open Go.ChangeShapes Go.WideShapes Go.ChangeAt Go.RowKit
/-- whether a literal is true of some lines -/
def ltV (V : List Bool) (x : Int) : Bool := V.getD (iabs x - 1).toNat false == decide (0 < x)
def evS (V : List Bool) (g : GateR) : List Bool := V ++ [ltV V g.f0 && ltV V g.f1]
def evL (V : List Bool) (L : List GateR) : List Bool := L.foldl evS V
/-- the lines of a circuit -/
def ecL (I : Int) (L : List GateR) (ins : List Bool) : List Bool := if ccB I L = true ∧ (ins.length : Int) = I then evL (true :: ins) L else []
theorem evS_len (V : List Bool) (g : GateR) : (evS V g).length = V.length + 1 := by unfold evS; simp
theorem evL_len : ∀ (L : List GateR) (V : List Bool), (evL V L).length = V.length + L.length
  | [], V => rfl
  | g :: L, V => by
    show (evL (evS V g) L).length = _
    rw [evL_len L, evS_len, List.length_cons]; omega
theorem ecL_len (I : Int) (L : List GateR) (ins : List Bool) : (ecL I L ins).length ≤ 391 := by
  unfold ecL
  split
  · rename_i h
    obtain ⟨h0, h1, h2, _⟩ := cc_of h.1
    rw [evL_len, List.length_cons]
    have := h.2
    omega
  · exact Nat.zero_le _
theorem evL_at (V : List Bool) (L : List GateR) (j : Nat) (h : j < L.length) : evL V (L.drop j) = evL (evS V L[j]) (L.drop (j + 1)) := by
  rw [List.drop_eq_getElem_cons h]; rfl
theorem gts_get (I : Int) : ∀ (R D : List GateR), gtsB I D R = true → ∀ (j : Nat) (h : j < R.length), gtB I (D ++ R.take j) R[j] = true
  | [], _, _, j, h => absurd h (Nat.not_lt_zero _)
  | g :: R, D, hg, j, h => by
    unfold gtsB at hg
    rw [Bool.and_eq_true] at hg
    cases j with
    | zero => simpa using hg.1
    | succ j =>
      have := gts_get I R (D ++ [g]) hg.2 j (by simpa using h)
      simpa using this
theorem cc_get {I : Int} {L : List GateR} (h : ccB I L = true) (j : Nat) (hj : j < L.length) (ha : -9223372036854775808 ≤ L[j].f0) (hb : -9223372036854775808 ≤ L[j].f1) : ∃ a b : Nat, iabs L[j].f0 = (a : Int) + 1 ∧ iabs L[j].f1 = (b : Int) + 1 ∧ (a : Int) < 1 + I + j ∧ (b : Int) < 1 + I + j ∧ L[j].f0 ≠ -9223372036854775808 ∧ L[j].f1 ≠ -9223372036854775808 := by
  obtain ⟨h0, h1, h2, h3⟩ := cc_of h
  have hg := gts_get I L [] h3 j hj
  rw [List.nil_append] at hg
  have hl : (L.take j).length = j := by rw [List.length_take]; omega
  obtain ⟨g1, g2, g3, _⟩ := gt_of hg
  rw [hl] at g3
  have ra := iabs_cases L[j].f0
  have rb := iabs_cases L[j].f1
  unfold vo at g1 g2 g3
  refine ⟨(iabs L[j].f0 - 1).toNat, (iabs L[j].f1 - 1).toNat, ?_, ?_, ?_, ?_, ?_, ?_⟩
  all_goals
    by_cases e1 : L[j].f0 = -9223372036854775808
    · rw [if_pos e1] at g1; omega
    · by_cases e2 : L[j].f1 = -9223372036854775808
      · rw [if_neg e1] at g1 g2
        rw [if_pos e2] at g2; omega
      · rw [if_neg e1] at g1 g2
        rw [if_neg e2] at g2 g3
        first | omega | exact e1 | exact e2
theorem ltV_at {V : List Bool} {x : Int} {a : Nat} (h : iabs x = (a : Int) + 1) (ha : a < V.length) : ltV V x = (V[a] == decide (0 < x)) := by
  unfold ltV
  rw [h, show ((a : Int) + 1 - 1).toNat = a by omega, List.getD_eq_getElem?_getD, List.getElem?_eq_getElem ha]
  rfl
/-- what a function leaves that gives some truth values -/
def EvEnd (V : List Bool) (w : World) (e : Ending) (w' : World) : Prop := Below w.heap.size w w' ∧ ∃ q cap, e = .returned (.slice q V.length cap) ∧ w'.ownsRow w.heap.size 4 1 (.slice q V.length cap) V.length (BoolL.all V)
theorem ev_none {V : List Bool} {w w' : World} (h : V = []) (hb : Below w.heap.size w w') : EvEnd V w (.returned (.slice none 0 0)) w' := by
  subst h
  exact ⟨hb, none, 0, rfl, World.ownsRow_nil _ _ _ _⟩
theorem zero_bool1 : (Try.prog.info? 4).map (fun i => (i.zero, i.size, i.bytes)) = some (some (.bool false), 1, 1) := by kernel_rfl
theorem bool_one (L : List Bool) : ∀ u ∈ BoolL.all L, u.oneCell' = true := by
  intro u hu
  rw [BoolL.all_map] at hu
  obtain ⟨x, _, rfl⟩ := List.mem_map.1 hu
  rfl
set_option maxRecDepth 100000 in
theorem s_true (V : List Bool) (x : Int) (a b o cap : Nat) (w : World) (hr : w.rangeAt b o (BoolL.all V)) (hx : iabs x = (a : Int) + 1) (ha : a < V.length) (hn : -9223372036854775807 ≤ x ∧ x ≤ 9223372036854775807) :
    Calls Try.prog 54 #[.slice (some ⟨b, o, none⟩) V.length cap, .int .i64 x] w fun e w' => e = .returned (.bool (ltV V x)) ∧ w = w' := by
  have c0 := BoolL.nth V a ha hr
  rw [ltV_at hx ha]
  have hw : wrap64 (a : Int) = (a : Int) := by
    have := iabs_cases x
    unfold wrap64
    omega
  have hai : (a : Int) < (V.length : Int) := by omega
  have KX := Lib.hid (fun W => s_abs x hn W)
  rw [hx] at KX
  generalize V[a] = v at *
  generalize V.length = n at *
  clear hr hx
  go_enter Try.func54, Try.ntmps54
  go_wp2_with (go_at_call 32; refine (KX.out _).mono ?_; rintro e w1 ⟨rfl, rfl⟩)
  go_ret
  exact ⟨rfl, rfl⟩
set_option maxRecDepth 100000 in
set_option maxHeartbeats 2000000 in
theorem s_eval (I : Int) (L : List GateR) (s : Value) (ins : List Bool) (v : Value) (w : World) (hs : Cs.Shows w 0 2 s L.length (GateR.all L)) (hv : Cs.Shows w 0 1 v ins.length (BoolL.all ins)) (hI : -9223372036854775808 ≤ I ∧ I ≤ 9223372036854775807) (hok : ∀ r ∈ L, r.Ok) (hl : L.length ≤ maxLen) :
    Calls Try.prog 24 #[.agg #[.int .i64 I, s], v] w (EvEnd (ecL I L ins) w) := by
  obtain ⟨i0, hi0, hz0, hzs, hzb⟩ := info_parts zero_bool1
  have hml : maxLen = 9223372036854775807 := rfl
  have HS := Lib.hid hs
  have HVS := Lib.hid hv
  have KC := Lib.hid (fun W (hb : Below w.heap.size w W) => s_cc I L s W (hs.below hb) hI hok hl)
  obtain ⟨_, q, cap, rfl, _⟩ := hs
  obtain ⟨_, qv, capv, rfl, _⟩ := hv
  obtain ⟨RES, hres⟩ : ∃ R, ecL I L ins = R := ⟨_, rfl⟩
  rw [hres]
  have HRES := Lib.hid hres
  clear hres
  have HB1 := Lib.hid ((Below.refl w.heap.size w).alloc (Nat.le_refl _) (.cells #[.int .i64 I, .slice q L.length cap] 29))
  have HX := Lib.hid (heap_alloc_new w (.cells #[.int .i64 I, .slice q L.length cap] 29))
  obtain ⟨w1, hw1⟩ : ∃ w1, w1 = w.alloc (.cells #[.int .i64 I, .slice q L.length cap] 29) := ⟨_, rfl⟩
  have hs1 : w1.heap.size = w.heap.size + 1 := by rw [hw1]; simp
  rw [← hw1] at HB1 HX
  go_enter Try.func24, Try.ntmps24
  go_wp2_with fail
  rw [← hw1]
  clear hw1
  refine (KC.out _ HB1.out).mono ?_
  rintro e w2 ⟨rfl, hb2⟩
  have HB2 := Lib.hid (HB1.out.trans (hb2.mono (by omega)))
  have hx2 := (hb2.block w.heap.size (by omega)).trans HX.out
  have HX2 := Lib.hid hx2
  have hs2 := hb2.size
  clear hb2 HX HB1 KC
  obtain ⟨vc, hvc⟩ : ∃ vc, ccB I L = vc := ⟨_, rfl⟩
  have HVC := Lib.hid hvc
  rw [hvc]
  clear hvc
  have x0 : w2.cell? ⟨w.heap.size, 0, none⟩ = some (.int .i64 I) := cell_of_row w2 _ 0 _ _ _ hx2
  have x1 : w2.cell? ⟨w.heap.size, 1, none⟩ = some (.slice q L.length cap) := cell_of_row w2 _ 1 _ _ _ hx2
  clear hx2
  cases vc with
  | false =>
    have HV := Lib.hid (show RES = [] by rw [← HRES.out]; unfold ecL; rw [if_neg (by rw [HVC.out]; simp)])
    go_wp2
    go_ret
    exact ev_none HV.out HB2.out
  | true =>
    by_cases hlen : (ins.length : Int) = I
    · have hle : ((ins.length : Int) != I) = false := by simpa using hlen
      have hle2 : ((ins.length : Int) == I) = true := by simpa using hlen
      obtain ⟨h0, h1, h2, _⟩ := cc_of HVC.out
      have HEV := Lib.hid (show evL (true :: ins) (L.drop 0) = RES by rw [← HRES.out]; unfold ecL; rw [if_pos ⟨HVC.out, hlen⟩]; rfl)
      have HAT := Lib.hid (fun V j (h : j < L.length) => evL_at V L j h)
      have HGET := Lib.hid (fun j (h : j < L.length) => cc_get HVC.out j h (hok L[j] (List.getElem_mem h)).1.1 (hok L[j] (List.getElem_mem h)).2.1)
      have HGOK := Lib.hid (fun j (h : j < L.length) => hok L[j] (List.getElem_mem h))
      have HR : Hid (∀ j, (h : j < L.length) → ∃ b o, q = some ⟨b, o, none⟩ ∧ b < w.heap.size ∧ ∀ W, Below w.heap.size w W → W.cell? ⟨b, o + j * 2, none⟩ = some (.int .i64 L[j].f0) ∧ W.cell? ⟨b, o + j * 2 + 1, none⟩ = some (.int .i64 L[j].f1)) := Lib.hid (fun j h => by
        rcases Cs.shows_cases HS.out with ⟨h0, _⟩ | ⟨_, b, o, c, hq, _, _, hbl, hr⟩
        · omega
        · injection hq with e1 e2 e3
          refine ⟨b, o, e1, hbl, fun W hW => ?_⟩
          have hh := flat_nth GateR.cells 2 (fun _ => rfl) L j h (rangeAt_below hW hr)
          exact ⟨hh 0 _ rfl, hh 1 _ rfl⟩)
      have hil : ins.length ≤ 30 := by omega
      have hxl : w.heap.size < w2.heap.size := by omega
      have HBL := Lib.hid (HB2.out.alloc (by omega) (.cells #[.bool true] 4))
      have HO1 := Lib.hid (World.ownsRow_lit (base := w.heap.size + 1) (e := 4) (size := 1) w2 #[.bool true] 1 (by omega) (by decide) rfl)
      have HVB := Lib.hid (HVS.out.below HBL.out)
      clear HS HVS hok
      go_wp2_with (at_builtin; refine wpList_append_any rfl _ _ 39 rfl (w.heap.size + 1) 4 i0 (.bool false) 1 1 Try.underlying39 hi0 hz0 hzs hzb rfl (by decide) _ 1 _ rfl HO1.out qv ins.length capv (BoolL.all ins) rfl ?c0 ?c1 ?c2 ?c3 ?c4 ?c5 ?_)
      case c0 => rw [BoolL.all_len]; omega
      case c1 => exact news_of' HVB.out
      case c2 => exact bool_one ins
      case c3 => unfold maxLen; omega
      case c4 => omega
      case c5 => simp; omega
      intro q3 c3 w3 ho3 hb3
      have HB3 := Lib.hid (HBL.out.trans (hb3.mono (by omega)))
      have HO3 : Hid (w3.ownsRow (w.heap.size + 1) 4 1 (.slice q3 (true :: ins).length c3) (true :: ins).length (BoolL.all (true :: ins))) := Lib.hid (by
        rw [show (true :: ins).length = 1 + ins.length by rw [List.length_cons]; omega]
        exact ho3)
      have HX3 := Lib.hid ((hb3.block w.heap.size (by omega)).trans ((((Below.refl w2.heap.size w2).alloc (Nat.le_refl _) (.cells #[.bool true] 4)).block w.heap.size hxl).trans HX2.out))
      have x0 : w3.cell? ⟨w.heap.size, 0, none⟩ = some (.int .i64 I) := cell_of_row w3 _ 0 _ _ _ HX3.out
      have x1 : w3.cell? ⟨w.heap.size, 1, none⟩ = some (.slice q L.length cap) := cell_of_row w3 _ 1 _ _ _ HX3.out
      have hl1 : 1 + ins.length = (true :: ins).length := by rw [List.length_cons]; omega
      rw [hl1]
      clear ho3 hb3 HBL HVB HO1 HX2 HB2
      have hVl : (((true :: ins).length : Nat) : Int) = 1 + I + (0 : Nat) := by rw [List.length_cons]; omega
      clear hl1
      generalize true :: ins = V0 at *
      go_wp2
      clear x0 x1
      go_loopw [5, 24] (fun s i wr => ∃ (j c : Nat) (V : List Bool) (qq : Option Addr), j ≤ L.length ∧ i = .int .i64 j ∧ s = .slice qq V.length c ∧ (V.length : Int) = 1 + I + j ∧ evL V (L.drop j) = RES ∧ wr.ownsRow (w.heap.size + 1) 4 1 (.slice qq V.length c) V.length (BoolL.all V) ∧ Below w.heap.size w wr) (fun _ i _ => L.length - (intOf i).toNat)
      case atStart => exact ⟨0, c3, V0, q3, Nat.zero_le _, rfl, rfl, hVl, HEV.out, HO3.out, HB3.out⟩
      case round =>
        clear HO3 HB3 HX3 HEV hVl
        obtain ⟨j, c, V, qq, hj, rfl, rfl, hVl, hev, ho, hb⟩ := hrel
        have HO := Lib.hid ho
        have HB := Lib.hid hb
        have HEV := Lib.hid hev
        have hsz := hb.size
        clear hev
        by_cases hjn : j < L.length
        · obtain ⟨b, o, rfl, hbl, hcells⟩ := HR.out j hjn
          obtain ⟨g0, g1⟩ := hcells wr hb
          obtain ⟨ia, ib, ea, eb, la, lb, na, nb⟩ := HGET.out j hjn
          have hat := HAT.out V j hjn
          have hgo := HGOK.out j hjn
          generalize L[j] = g at *
          obtain ⟨a, d⟩ := g
          simp only at g0 g1 ea eb na nb
          obtain ⟨ra, rd⟩ := hgo
          simp only at ra rd
          have hla : ia < V.length := by omega
          have hlb : ib < V.length := by omega
          obtain ⟨gq, rfl, hgs, hgb⟩ : ∃ gq, qq = some ⟨gq, 0, none⟩ ∧ gq < wr.heap.size ∧ w.heap.size + 1 ≤ gq := by
            rcases ho.2 with ⟨hq, h9⟩ | ⟨gq, cp, _, hq, h7, hg, _⟩
            · omega
            · injection hq with e1 _ _
              exact ⟨gq, e1, (Array.getElem?_eq_some_iff.1 hg).1, h7⟩
          have hcap : V.length ≤ c ∧ c ≤ 9223372036854775807 := by
            rcases ho.2 with ⟨hq, h9⟩ | ⟨gq, cp, _, hq, _, _, h7, h8, _⟩
            · cases hq
            · injection hq with _ _ e3
              subst e3
              exact ⟨h7, h8⟩
          have HNEW := Lib.hid (show evL (V ++ [ltV V a && ltV V d]) (L.drop (j + 1)) = RES by rw [← HEV.out, hat]; rfl)
          clear hat ho hb hcells
          have hki : decide ((j : Int) < (L.length : Int)) = true := by simp; omega
          have HBW := Lib.hid ((Below.refl wr.heap.size wr).alloc (Nat.le_refl _) (.cells #[.int .i64 a, .int .i64 d] 48))
          have HY := Lib.hid (below_two (B := wr.heap.size + 1) (heap_alloc_new wr (.cells #[.int .i64 a, .int .i64 d] 48)) (by omega))
          have hblw : b < wr.heap.size := by omega
          obtain ⟨W, hW⟩ : ∃ W, W = wr.alloc (.cells #[.int .i64 a, .int .i64 d] 48) := ⟨_, rfl⟩
          have hsW : W.heap.size = wr.heap.size + 1 := by rw [hW]; simp
          rw [← hW] at HBW HY
          have HOW := Lib.hid (own_keep HO.out HBW.out)
          have HRW : Hid (W.rangeAt gq 0 (BoolL.all V)) := Lib.hid (own_range HOW.out)
          have KA := Lib.hid (fun W' (h : Below W.heap.size W W') => s_true V a ia gq 0 c W' (rangeAt_below h HRW.out) ea hla (by omega))
          have KD := Lib.hid (fun W' (h : Below W.heap.size W W') => s_true V d ib gq 0 c W' (rangeAt_below h HRW.out) eb hlb (by omega))
          have HBWW := Lib.hid (HB.out.trans (HBW.out.mono HB.out.size))
          generalize hA : ltV V a = va at *
          generalize hD : ltV V d = vd at *
          obtain ⟨y0, y1⟩ := HY.out W (Below.refl _ _)
          have HNEW2 := HNEW
          clear hA hD HNEW
          go_wp2_with fail
          rw [← hW]
          clear hW
          refine (KA.out W (Below.refl _ _)).mono ?_
          rintro e w4 ⟨rfl, rfl⟩
          cases va with
          | false =>
            have HNEW := Lib.hid (show evL (V ++ [false]) (L.drop (j + 1)) = RES by have h := HNEW2.out; simpa using h)
            clear HNEW2 KA KD hsW
            go_wp2_with (at_builtin; refine wpList_append_any rfl _ _ 39 rfl (w.heap.size + 1) 4 i0 (.bool false) 1 1 Try.underlying39 hi0 hz0 hzs hzb rfl (by decide) _ V.length _ rfl (HOW.out.alloc _) _ 1 1 [.bool false] rfl rfl ?c1 ?c2 ?c3 ?c4 ?c5 ?_)
            case c1 => exact fun _ => ⟨_, rfl, fun i u hu => by
              have hi := (List.getElem?_eq_some_iff.1 hu).1
              rw [Addr.add_mid, Nat.zero_add, cell_of_row _ _ _ _ _ _ (heap_alloc_new W _)]
              simpa using hu⟩
            case c2 => intro u hu; simp at hu; subst hu; rfl
            case c3 => unfold maxLen; omega
            case c4 => omega
            case c5 => have := HBWW.out.size; simp; omega
            intro q9 c9 w9 ho9 hb9
            have hlen9 : (V ++ [false]).length = V.length + 1 := by simp
            have HO9 : Hid (w9.ownsRow (w.heap.size + 1) 4 1 (.slice q9 (V ++ [false]).length c9) (V ++ [false]).length (BoolL.all (V ++ [false]))) := Lib.hid (by
              rw [hlen9, BoolL.all_app]
              exact ho9)
            have HB9 := Lib.hid ((HBWW.out.alloc (by have := HBWW.out.size; omega) (.cells #[.bool false] 4)).trans (hb9.mono (by omega)))
            clear ho9 hb9
            rw [← hlen9]
            go_wp2
            go_roundw
            case rel => exact ⟨j + 1, c9, V ++ [false], q9, by omega, by go_num, rfl, by rw [hlen9]; omega, HNEW.out, HO9.out, HB9.out⟩
            case measure => simp [intOf]; omega
          | true =>
            have HNEW := Lib.hid (show evL (V ++ [vd]) (L.drop (j + 1)) = RES by have h := HNEW2.out; simpa using h)
            clear HNEW2
            go_wp2_with fail
            refine (KD.out W (Below.refl _ _)).mono ?_
            rintro e w5 ⟨rfl, rfl⟩
            clear KA KD hsW
            go_wp2_with (at_builtin; refine wpList_append_any rfl _ _ 39 rfl (w.heap.size + 1) 4 i0 (.bool false) 1 1 Try.underlying39 hi0 hz0 hzs hzb rfl (by decide) _ V.length _ rfl (HOW.out.alloc _) _ 1 1 [.bool vd] rfl rfl ?c1 ?c2 ?c3 ?c4 ?c5 ?_)
            case c1 => exact fun _ => ⟨_, rfl, fun i u hu => by
              have hi := (List.getElem?_eq_some_iff.1 hu).1
              rw [Addr.add_mid, Nat.zero_add, cell_of_row _ _ _ _ _ _ (heap_alloc_new W _)]
              simpa using hu⟩
            case c2 => intro u hu; simp at hu; subst hu; rfl
            case c3 => unfold maxLen; omega
            case c4 => omega
            case c5 => have := HBWW.out.size; simp; omega
            intro q9 c9 w9 ho9 hb9
            have hlen9 : (V ++ [vd]).length = V.length + 1 := by simp
            have HO9 : Hid (w9.ownsRow (w.heap.size + 1) 4 1 (.slice q9 (V ++ [vd]).length c9) (V ++ [vd]).length (BoolL.all (V ++ [vd]))) := Lib.hid (by
              rw [hlen9, BoolL.all_app]
              exact ho9)
            have HB9 := Lib.hid ((HBWW.out.alloc (by have := HBWW.out.size; omega) (.cells #[.bool vd] 4)).trans (hb9.mono (by omega)))
            clear ho9 hb9
            rw [← hlen9]
            go_wp2
            go_roundw
            case rel => exact ⟨j + 1, c9, V ++ [vd], q9, by omega, by go_num, rfl, by rw [hlen9]; omega, HNEW.out, HO9.out, HB9.out⟩
            case measure => simp [intOf]; omega
        · obtain rfl : j = L.length := by omega
          have hev := HEV.out
          rw [List.drop_length] at hev
          have HE := Lib.hid (show V = RES from hev)
          have hki : decide ((L.length : Int) < (L.length : Int)) = false := by simp
          clear hev ho hb HR HGET HAT HGOK
          go_wp2
          go_ret
          exact ⟨HB.out, qq, c, by rw [← HE.out] <;> rfl, by rw [← HE.out]; exact own_base HO.out (by omega)⟩
    · have hle : ((ins.length : Int) != I) = true := by simpa using hlen
      have hle2 : ((ins.length : Int) == I) = false := by simpa using hlen
      have HV := Lib.hid (show RES = [] by rw [← HRES.out]; unfold ecL; rw [if_neg (fun h => hlen h.2)])
      go_wp2
      go_ret
      exact ev_none HV.out HB2.out
set_option maxRecDepth 100000 in
set_option maxHeartbeats 2000000 in
theorem i_eval (I : Int) (L : List GateR) (s : Value) (ins : List Bool) (v : Value) (w : World) (hs : Cs.Shows w 0 2 s L.length (GateR.all L)) (hv : Cs.Shows w 0 1 v ins.length (BoolL.all ins)) (hI : -9223372036854775808 ≤ I ∧ I ≤ 9223372036854775807) (hok : ∀ r ∈ L, r.Ok) (hl : L.length ≤ maxLen) :
    Calls Try.prog 26 #[.agg #[.int .i64 I, s], v] w (EvEnd (ecL I L ins) w) := by
  obtain ⟨i0, hi0, hz0, hzs, hzb⟩ := info_parts zero_bool1
  have hml : maxLen = 9223372036854775807 := rfl
  have HS := Lib.hid hs
  have HVS := Lib.hid hv
  have KC := Lib.hid (fun W (hb : Below w.heap.size w W) => i_cc I L s W (hs.below hb) hI hok hl)
  obtain ⟨_, q, cap, rfl, _⟩ := hs
  obtain ⟨_, qv, capv, rfl, _⟩ := hv
  obtain ⟨RES, hres⟩ : ∃ R, ecL I L ins = R := ⟨_, rfl⟩
  rw [hres]
  have HRES := Lib.hid hres
  clear hres
  have HB1 := Lib.hid ((Below.refl w.heap.size w).alloc (Nat.le_refl _) (.cells #[.int .i64 I, .slice q L.length cap] 29))
  have HX := Lib.hid (heap_alloc_new w (.cells #[.int .i64 I, .slice q L.length cap] 29))
  obtain ⟨w1, hw1⟩ : ∃ w1, w1 = w.alloc (.cells #[.int .i64 I, .slice q L.length cap] 29) := ⟨_, rfl⟩
  have hs1 : w1.heap.size = w.heap.size + 1 := by rw [hw1]; simp
  rw [← hw1] at HB1 HX
  go_enter Try.func26, Try.ntmps26
  go_wp2_with fail
  rw [← hw1]
  clear hw1
  refine (KC.out _ HB1.out).mono ?_
  rintro e w2 ⟨rfl, hb2⟩
  have HB2 := Lib.hid (HB1.out.trans (hb2.mono (by omega)))
  have hx2 := (hb2.block w.heap.size (by omega)).trans HX.out
  have HX2 := Lib.hid hx2
  have hs2 := hb2.size
  clear hb2 HX HB1 KC
  obtain ⟨vc, hvc⟩ : ∃ vc, ccB I L = vc := ⟨_, rfl⟩
  have HVC := Lib.hid hvc
  rw [hvc]
  clear hvc
  have x0 : w2.cell? ⟨w.heap.size, 0, none⟩ = some (.int .i64 I) := cell_of_row w2 _ 0 _ _ _ hx2
  have x1 : w2.cell? ⟨w.heap.size, 1, none⟩ = some (.slice q L.length cap) := cell_of_row w2 _ 1 _ _ _ hx2
  clear hx2
  cases vc with
  | false =>
    have HV := Lib.hid (show RES = [] by rw [← HRES.out]; unfold ecL; rw [if_neg (by rw [HVC.out]; simp)])
    go_wp2
    go_ret
    exact ev_none HV.out HB2.out
  | true =>
    by_cases hlen : (ins.length : Int) = I
    · have hle : ((ins.length : Int) != I) = false := by simpa using hlen
      have hle2 : ((ins.length : Int) == I) = true := by simpa using hlen
      obtain ⟨h0, h1, h2, _⟩ := cc_of HVC.out
      have HEV := Lib.hid (show evL (true :: ins) (L.drop 0) = RES by rw [← HRES.out]; unfold ecL; rw [if_pos ⟨HVC.out, hlen⟩]; rfl)
      have HAT := Lib.hid (fun V j (h : j < L.length) => evL_at V L j h)
      have HGET := Lib.hid (fun j (h : j < L.length) => cc_get HVC.out j h (hok L[j] (List.getElem_mem h)).1.1 (hok L[j] (List.getElem_mem h)).2.1)
      have HGOK := Lib.hid (fun j (h : j < L.length) => hok L[j] (List.getElem_mem h))
      have HR : Hid (∀ j, (h : j < L.length) → ∃ b o, q = some ⟨b, o, none⟩ ∧ b < w.heap.size ∧ ∀ W, Below w.heap.size w W → W.cell? ⟨b, o + j * 2, none⟩ = some (.int .i64 L[j].f0) ∧ W.cell? ⟨b, o + j * 2 + 1, none⟩ = some (.int .i64 L[j].f1)) := Lib.hid (fun j h => by
        rcases Cs.shows_cases HS.out with ⟨h0, _⟩ | ⟨_, b, o, c, hq, _, _, hbl, hr⟩
        · omega
        · injection hq with e1 e2 e3
          refine ⟨b, o, e1, hbl, fun W hW => ?_⟩
          have hh := flat_nth GateR.cells 2 (fun _ => rfl) L j h (rangeAt_below hW hr)
          exact ⟨hh 0 _ rfl, hh 1 _ rfl⟩)
      have hil : ins.length ≤ 30 := by omega
      have hxl : w.heap.size < w2.heap.size := by omega
      have HBL := Lib.hid (HB2.out.alloc (by omega) (.cells #[.bool true] 4))
      have HO1 := Lib.hid (World.ownsRow_lit (base := w.heap.size + 1) (e := 4) (size := 1) w2 #[.bool true] 1 (by omega) (by decide) rfl)
      have HVB := Lib.hid (HVS.out.below HBL.out)
      clear HS HVS hok
      go_wp2_with (at_builtin; refine wpList_append_any rfl _ _ 39 rfl (w.heap.size + 1) 4 i0 (.bool false) 1 1 Try.underlying39 hi0 hz0 hzs hzb rfl (by decide) _ 1 _ rfl HO1.out qv ins.length capv (BoolL.all ins) rfl ?c0 ?c1 ?c2 ?c3 ?c4 ?c5 ?_)
      case c0 => rw [BoolL.all_len]; omega
      case c1 => exact news_of' HVB.out
      case c2 => exact bool_one ins
      case c3 => unfold maxLen; omega
      case c4 => omega
      case c5 => simp; omega
      intro q3 c3 w3 ho3 hb3
      have HB3 := Lib.hid (HBL.out.trans (hb3.mono (by omega)))
      have HO3 : Hid (w3.ownsRow (w.heap.size + 1) 4 1 (.slice q3 (true :: ins).length c3) (true :: ins).length (BoolL.all (true :: ins))) := Lib.hid (by
        rw [show (true :: ins).length = 1 + ins.length by rw [List.length_cons]; omega]
        exact ho3)
      have HX3 := Lib.hid ((hb3.block w.heap.size (by omega)).trans ((((Below.refl w2.heap.size w2).alloc (Nat.le_refl _) (.cells #[.bool true] 4)).block w.heap.size hxl).trans HX2.out))
      have x0 : w3.cell? ⟨w.heap.size, 0, none⟩ = some (.int .i64 I) := cell_of_row w3 _ 0 _ _ _ HX3.out
      have x1 : w3.cell? ⟨w.heap.size, 1, none⟩ = some (.slice q L.length cap) := cell_of_row w3 _ 1 _ _ _ HX3.out
      have hl1 : 1 + ins.length = (true :: ins).length := by rw [List.length_cons]; omega
      rw [hl1]
      clear ho3 hb3 HBL HVB HO1 HX2 HB2
      have hVl : (((true :: ins).length : Nat) : Int) = 1 + I + (0 : Nat) := by rw [List.length_cons]; omega
      clear hl1
      generalize true :: ins = V0 at *
      go_wp2
      clear x0 x1
      go_loopw [5, 26] (fun s i wr => ∃ (j c : Nat) (V : List Bool) (qq : Option Addr), j ≤ L.length ∧ i = .int .i64 j ∧ s = .slice qq V.length c ∧ (V.length : Int) = 1 + I + j ∧ evL V (L.drop j) = RES ∧ wr.ownsRow (w.heap.size + 1) 4 1 (.slice qq V.length c) V.length (BoolL.all V) ∧ Below w.heap.size w wr) (fun _ i _ => L.length - (intOf i).toNat)
      case atStart => exact ⟨0, c3, V0, q3, Nat.zero_le _, rfl, rfl, hVl, HEV.out, HO3.out, HB3.out⟩
      case round =>
        clear HO3 HB3 HX3 HEV hVl
        obtain ⟨j, c, V, qq, hj, rfl, rfl, hVl, hev, ho, hb⟩ := hrel
        have HO := Lib.hid ho
        have HB := Lib.hid hb
        have HEV := Lib.hid hev
        have hsz := hb.size
        clear hev
        by_cases hjn : j < L.length
        · obtain ⟨b, o, rfl, hbl, hcells⟩ := HR.out j hjn
          obtain ⟨g0, g1⟩ := hcells wr hb
          obtain ⟨ia, ib, ea, eb, la, lb, na, nb⟩ := HGET.out j hjn
          have hat := HAT.out V j hjn
          have hgo := HGOK.out j hjn
          generalize L[j] = g at *
          obtain ⟨a, d⟩ := g
          simp only at g0 g1 ea eb na nb
          obtain ⟨ra, rd⟩ := hgo
          simp only at ra rd
          have hla : ia < V.length := by omega
          have hlb : ib < V.length := by omega
          obtain ⟨gq, rfl, hgs, hgb⟩ : ∃ gq, qq = some ⟨gq, 0, none⟩ ∧ gq < wr.heap.size ∧ w.heap.size + 1 ≤ gq := by
            rcases ho.2 with ⟨hq, h9⟩ | ⟨gq, cp, _, hq, h7, hg, _⟩
            · omega
            · injection hq with e1 _ _
              exact ⟨gq, e1, (Array.getElem?_eq_some_iff.1 hg).1, h7⟩
          have hcap : V.length ≤ c ∧ c ≤ 9223372036854775807 := by
            rcases ho.2 with ⟨hq, h9⟩ | ⟨gq, cp, _, hq, _, _, h7, h8, _⟩
            · cases hq
            · injection hq with _ _ e3
              subst e3
              exact ⟨h7, h8⟩
          have HNEW := Lib.hid (show evL (V ++ [ltV V a && ltV V d]) (L.drop (j + 1)) = RES by rw [← HEV.out, hat]; rfl)
          clear hat ho hb hcells
          have hki : decide ((j : Int) < (L.length : Int)) = true := by simp; omega
          have HBW := Lib.hid ((Below.refl wr.heap.size wr).alloc (Nat.le_refl _) (.cells #[.int .i64 a, .int .i64 d] 48))
          have HY := Lib.hid (below_two (B := wr.heap.size + 1) (heap_alloc_new wr (.cells #[.int .i64 a, .int .i64 d] 48)) (by omega))
          have hblw : b < wr.heap.size := by omega
          obtain ⟨W, hW⟩ : ∃ W, W = wr.alloc (.cells #[.int .i64 a, .int .i64 d] 48) := ⟨_, rfl⟩
          have hsW : W.heap.size = wr.heap.size + 1 := by rw [hW]; simp
          rw [← hW] at HBW HY
          have HOW := Lib.hid (own_keep HO.out HBW.out)
          have HRW : Hid (W.rangeAt gq 0 (BoolL.all V)) := Lib.hid (own_range HOW.out)
          have HBWW := Lib.hid (HB.out.trans (HBW.out.mono HB.out.size))
          have KA := Lib.hid (fun W' => i_vo2 a ra W')
          have KD := Lib.hid (fun W' => i_vo2 d rd W')
          rw [show vo a = (ia : Int) + 1 by unfold vo; rw [if_neg na, ea]] at KA
          rw [show vo d = (ib : Int) + 1 by unfold vo; rw [if_neg nb, eb]] at KD
          have hA := ltV_at ea hla
          have hD := ltV_at eb hlb
          have HNEW2 : Hid (evL (V ++ [(V[ia] == decide (0 < a)) && (V[ib] == decide (0 < d))]) (L.drop (j + 1)) = RES) := Lib.hid (by rw [← hA, ← hD]; exact HNEW.out)
          clear hA hD HNEW
          have HCA : Hid (∀ W', Below W.heap.size W W' → W'.cell? ⟨gq, 0 + ia, none⟩ = some (.bool V[ia])) := Lib.hid (fun W' h => BoolL.nth V ia hla (rangeAt_below h HRW.out))
          have HCD : Hid (∀ W', Below W.heap.size W W' → W'.cell? ⟨gq, 0 + ib, none⟩ = some (.bool V[ib])) := Lib.hid (fun W' h => BoolL.nth V ib hlb (rangeAt_below h HRW.out))
          simp only [Nat.zero_add] at HCA HCD
          generalize V[ia] = ba at *
          generalize V[ib] = bd at *
          generalize hpa : decide (0 < a) = pa at *
          generalize hpd : decide (0 < d) = pd at *
          obtain ⟨y0, y1⟩ := HY.out W (Below.refl _ _)
          have d0 := HCA.out W (Below.refl _ _)
          go_wp2_with fail
          rw [← hW]
          clear hW
          go_quiet ((go_at_call 55; exact quiet_eq (KA.out _)))
          have HBQ := Lib.hid (below_drewN (Below.refl W.heap.size W) nq)
          have HB4 := Lib.hid (below_drewN HBWW.out nq)
          have HO4 := Lib.hid (show (W.drewN nq).ownsRow (w.heap.size + 1) 4 1 (.slice (some ⟨gq, 0, none⟩) V.length c) V.length (BoolL.all V) from own_keep HOW.out HBQ.out)
          have hs4 : (W.drewN nq).heap.size = W.heap.size := rfl
          clear y0 y1 d0
          generalize W.drewN nq = W4 at *
          obtain ⟨y0, y1⟩ := HY.out W4 (HBQ.out.mono (by omega))
          have d1 := HCD.out W4 HBQ.out
          go_wp2
          go_quiet ((go_at_call 55; exact quiet_eq (KD.out _)))
          have HBQ5 := Lib.hid (below_drewN (Below.refl W4.heap.size W4) nq)
          have HB5 := Lib.hid (below_drewN HB4.out nq)
          have HO5 := Lib.hid (show (W4.drewN nq).ownsRow (w.heap.size + 1) 4 1 (.slice (some ⟨gq, 0, none⟩) V.length c) V.length (BoolL.all V) from own_keep HO4.out HBQ5.out)
          have hs5 : (W4.drewN nq).heap.size = W4.heap.size := rfl
          clear y0 y1 d1 HCA HCD HRW KA KD
          generalize W4.drewN nq = W5 at *
          generalize (ba == pa) = va at *
          generalize (bd == pd) = vd at *
          cases va with
          | false =>
            have HNEW := Lib.hid (show evL (V ++ [false]) (L.drop (j + 1)) = RES by have h := HNEW2.out; simpa using h)
            clear HNEW2 hsW hs4 hs5
            go_wp2_with (at_builtin; refine wpList_append_any rfl _ _ 39 rfl (w.heap.size + 1) 4 i0 (.bool false) 1 1 Try.underlying39 hi0 hz0 hzs hzb rfl (by decide) _ V.length _ rfl (HO5.out.alloc _) _ 1 1 [.bool false] rfl rfl ?c1 ?c2 ?c3 ?c4 ?c5 ?_)
            case c1 => exact fun _ => ⟨_, rfl, fun i u hu => by
              have hi := (List.getElem?_eq_some_iff.1 hu).1
              rw [Addr.add_mid, Nat.zero_add, cell_of_row _ _ _ _ _ _ (heap_alloc_new W5 _)]
              simpa using hu⟩
            case c2 => intro u hu; simp at hu; subst hu; rfl
            case c3 => unfold maxLen; omega
            case c4 => omega
            case c5 => have := HB5.out.size; simp; omega
            intro q9 c9 w9 ho9 hb9
            have hlen9 : (V ++ [false]).length = V.length + 1 := by simp
            have HO9 : Hid (w9.ownsRow (w.heap.size + 1) 4 1 (.slice q9 (V ++ [false]).length c9) (V ++ [false]).length (BoolL.all (V ++ [false]))) := Lib.hid (by
              rw [hlen9, BoolL.all_app]
              exact ho9)
            have HB9 := Lib.hid ((HB5.out.alloc (by have := HB5.out.size; omega) (.cells #[.bool false] 4)).trans (hb9.mono (by omega)))
            clear ho9 hb9
            rw [← hlen9]
            go_wp2
            go_roundw
            case rel => exact ⟨j + 1, c9, V ++ [false], q9, by omega, by go_num, rfl, by rw [hlen9]; omega, HNEW.out, HO9.out, HB9.out⟩
            case measure => simp [intOf]; omega
          | true =>
            have HNEW := Lib.hid (show evL (V ++ [vd]) (L.drop (j + 1)) = RES by have h := HNEW2.out; simpa using h)
            clear HNEW2 hsW hs4 hs5
            go_wp2_with (at_builtin; refine wpList_append_any rfl _ _ 39 rfl (w.heap.size + 1) 4 i0 (.bool false) 1 1 Try.underlying39 hi0 hz0 hzs hzb rfl (by decide) _ V.length _ rfl (HO5.out.alloc _) _ 1 1 [.bool vd] rfl rfl ?c1 ?c2 ?c3 ?c4 ?c5 ?_)
            case c1 => exact fun _ => ⟨_, rfl, fun i u hu => by
              have hi := (List.getElem?_eq_some_iff.1 hu).1
              rw [Addr.add_mid, Nat.zero_add, cell_of_row _ _ _ _ _ _ (heap_alloc_new W5 _)]
              simpa using hu⟩
            case c2 => intro u hu; simp at hu; subst hu; rfl
            case c3 => unfold maxLen; omega
            case c4 => omega
            case c5 => have := HB5.out.size; simp; omega
            intro q9 c9 w9 ho9 hb9
            have hlen9 : (V ++ [vd]).length = V.length + 1 := by simp
            have HO9 : Hid (w9.ownsRow (w.heap.size + 1) 4 1 (.slice q9 (V ++ [vd]).length c9) (V ++ [vd]).length (BoolL.all (V ++ [vd]))) := Lib.hid (by
              rw [hlen9, BoolL.all_app]
              exact ho9)
            have HB9 := Lib.hid ((HB5.out.alloc (by have := HB5.out.size; omega) (.cells #[.bool vd] 4)).trans (hb9.mono (by omega)))
            clear ho9 hb9
            rw [← hlen9]
            go_wp2
            go_roundw
            case rel => exact ⟨j + 1, c9, V ++ [vd], q9, by omega, by go_num, rfl, by rw [hlen9]; omega, HNEW.out, HO9.out, HB9.out⟩
            case measure => simp [intOf]; omega
        · obtain rfl : j = L.length := by omega
          have hev := HEV.out
          rw [List.drop_length] at hev
          have HE := Lib.hid (show V = RES from hev)
          have hki : decide ((L.length : Int) < (L.length : Int)) = false := by simp
          clear hev ho hb HR HGET HAT HGOK
          go_wp2
          go_ret
          exact ⟨HB.out, qq, c, by rw [← HE.out] <;> rfl, by rw [← HE.out]; exact own_base HO.out (by omega)⟩
    · have hle : ((ins.length : Int) != I) = true := by simpa using hlen
      have hle2 : ((ins.length : Int) == I) = false := by simpa using hlen
      have HV := Lib.hid (show RES = [] by rw [← HRES.out]; unfold ecL; rw [if_neg (fun h => hlen h.2)])
      go_wp2
      go_ret
      exact ev_none HV.out HB2.out
end Go.Proofs.Ytimjkgciakbolab
