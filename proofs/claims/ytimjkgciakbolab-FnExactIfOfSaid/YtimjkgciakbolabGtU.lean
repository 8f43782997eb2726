/- What the specification does with nets: or, xor, if, a net of a circuit, what comes out of it. No condition. -/
import Derived.Test.YtimjkgciakbolabGtT
import Derived.Test.YtimjkgciakbolabApAny
namespace Go.Proofs.Ytimjkgciakbolab
open Go.ChangeShapes Go.WideShapes Go.ChangeAt Go.RowKit
set_option maxRecDepth 100000 in
theorem s_or' (b0 bp : Nat) (I : Int) (N : Net) (x y : Int) (w : World) (hbu : Nt b0 bp I N w) (ho : N.Ok I) (hx : LitN I N x) (hy : LitN I N y) :
    Calls Try.prog 45 #[.pointer (some ⟨bp, 0, none⟩), .int .i64 x, .int .i64 y] w (MsEnd b0 bp I (orN I N x y) w) := by
  have sx := hx.small ho
  have sy := hy.small ho
  have K := Lib.hid (s_and b0 bp I N (-x) (-y) w hbu ho hx.neg hy.neg)
  obtain ⟨ok1, ok2, _⟩ := and_ok ho hx.neg hy.neg
  have sr := ok2.small ok1
  unfold orN
  generalize andN I N (-x) (-y) = r at *
  obtain ⟨N1, v⟩ := r
  simp only at sr
  unfold MsEnd at *
  clear ok1 ok2 hbu hx hy ho
  go_enter Try.func45, Try.ntmps45
  go_wp2_with (go_at_call 38; refine K.out.mono ?_; rintro e w2 ⟨rfl, hbu2, hb2⟩)
  go_ret
  exact ⟨rfl, hbu2, hb2⟩
set_option maxRecDepth 100000 in
theorem s_xor (b0 bp : Nat) (I : Int) (N : Net) (x y : Int) (w : World) (hbu : Nt b0 bp I N w) (ho : N.Ok I) (hx : LitN I N x) (hy : LitN I N y) :
    Calls Try.prog 48 #[.pointer (some ⟨bp, 0, none⟩), .int .i64 x, .int .i64 y] w (MsEnd b0 bp I (xorN I N x y) w) := by
  have sx := hx.small ho
  have sy := hy.small ho
  have K1 := Lib.hid (s_and b0 bp I N x (-y) w hbu ho hx hy.neg)
  obtain ⟨a1, a2, a3⟩ := and_ok ho hx hy.neg
  unfold xorN
  generalize andN I N x (-y) = r at *
  obtain ⟨N1, v1⟩ := r
  have K2 := Lib.hid (fun W h => s_and b0 bp I N1 (-x) y W h a1 (hx.mono a3).neg (hy.mono a3))
  obtain ⟨b1, b2, b3⟩ := and_ok a1 (hx.mono a3).neg (hy.mono a3)
  simp only at b1 b2 b3 a2
  generalize andN I N1 (-x) y = r2 at *
  obtain ⟨N2, v2⟩ := r2
  have K3 := Lib.hid (fun W h => s_or' b0 bp I N2 v1 v2 W h b1 (a2.mono b3) b2)
  simp only
  generalize orN I N2 v1 v2 = r3 at *
  obtain ⟨N3, v3⟩ := r3
  unfold MsEnd at *
  clear a1 a2 a3 b1 b2 b3 hbu hx hy ho
  go_enter Try.func48, Try.ntmps48
  go_wp2_with fail
  refine K1.out.mono ?_
  rintro e w1 ⟨rfl, hbu1, hb1⟩
  have KK2 := Lib.hid (K2.out _ hbu1)
  clear hbu1
  go_wp2_with fail
  refine KK2.out.mono ?_
  rintro e w2 ⟨rfl, hbu2, hb2⟩
  have KK3 := Lib.hid (K3.out _ hbu2)
  have HB := Lib.hid (hb1.trans hb2)
  clear hbu2 hb1 hb2
  go_wp2_with fail
  refine KK3.out.mono ?_
  rintro e w3 ⟨rfl, hbu3, hb3⟩
  have HB3 := Lib.hid (HB.out.trans hb3)
  have HU3 := Lib.hid hbu3
  clear hbu3 hb3
  go_wp2
  go_ret
  exact ⟨rfl, HU3.out, HB3.out⟩
set_option maxRecDepth 100000 in
theorem s_if (b0 bp : Nat) (I : Int) (N : Net) (s x y : Int) (w : World) (hbu : Nt b0 bp I N w) (ho : N.Ok I) (hs : LitN I N s) (hx : LitN I N x) (hy : LitN I N y) :
    Calls Try.prog 51 #[.pointer (some ⟨bp, 0, none⟩), .int .i64 s, .int .i64 x, .int .i64 y] w (MsEnd b0 bp I (ifN I N s x y) w) := by
  have ss := hs.small ho
  have K1 := Lib.hid (s_and b0 bp I N s x w hbu ho hs hx)
  obtain ⟨a1, a2, a3⟩ := and_ok ho hs hx
  unfold ifN
  generalize andN I N s x = r at *
  obtain ⟨N1, v1⟩ := r
  have K2 := Lib.hid (fun W h => s_and b0 bp I N1 (-s) y W h a1 (hs.mono a3).neg (hy.mono a3))
  obtain ⟨b1, b2, b3⟩ := and_ok a1 (hs.mono a3).neg (hy.mono a3)
  simp only at b1 b2 b3 a2
  generalize andN I N1 (-s) y = r2 at *
  obtain ⟨N2, v2⟩ := r2
  have K3 := Lib.hid (fun W h => s_or' b0 bp I N2 v1 v2 W h b1 (a2.mono b3) b2)
  simp only
  generalize orN I N2 v1 v2 = r3 at *
  obtain ⟨N3, v3⟩ := r3
  unfold MsEnd at *
  clear a1 a2 a3 b1 b2 b3 hbu hx hy ho hs
  go_enter Try.func51, Try.ntmps51
  go_wp2_with fail
  refine K1.out.mono ?_
  rintro e w1 ⟨rfl, hbu1, hb1⟩
  have KK2 := Lib.hid (K2.out _ hbu1)
  clear hbu1
  go_wp2_with fail
  refine KK2.out.mono ?_
  rintro e w2 ⟨rfl, hbu2, hb2⟩
  have KK3 := Lib.hid (K3.out _ hbu2)
  have HB := Lib.hid (hb1.trans hb2)
  clear hbu2 hb1 hb2
  go_wp2_with fail
  refine KK3.out.mono ?_
  rintro e w3 ⟨rfl, hbu3, hb3⟩
  have HB3 := Lib.hid (HB.out.trans hb3)
  have HU3 := Lib.hid hbu3
  clear hbu3 hb3
  go_wp2
  go_ret
  exact ⟨rfl, HU3.out, HB3.out⟩
theorem cell2_at' {w : World} {b : Nat} {t : TypeId} {x y : Value} (h : w.heap[b]? = some (.cells #[x, y] t (0, 0))) : w.cell? ⟨b, 0, none⟩ = some x ∧ w.cell? ⟨b, 1, none⟩ = some y ∧ w.frozen? ⟨b, 0, none⟩ = false ∧ w.frozen? ⟨b, 1, none⟩ = false :=
  ⟨cell_of_row w b 0 _ _ _ h, cell_of_row w b 1 _ _ _ h, frozen_of_row w b 0 _ _ h, frozen_of_row w b 1 _ _ h⟩
theorem GateR.all_one' (L : List GateR) : ∀ u ∈ GateR.all L, u.oneCell' = true := by
  intro u hu
  unfold GateR.all at hu
  rw [List.mem_flatMap] at hu
  obtain ⟨r, _, hr⟩ := hu
  unfold GateR.cells at hr
  simp only [List.mem_cons, List.not_mem_nil, or_false] at hr
  rcases hr with rfl | rfl <;> rfl
theorem news_of2 {w : World} {base n : Nat} {q : Option Addr} {c : Nat} {ys : List Value} (h : Cs.Shows w base 2 (.slice q n c) n ys) : 0 < n → ∃ ad, q = some ad ∧ ∀ i u, ys[i]? = some u → w.cell? (ad.add i) = some u := by
  intro hn
  rcases Cs.shows_cases h with ⟨h0, _⟩ | ⟨_, b, o, c', he, _, _, _, hr⟩
  · omega
  · cases he
    exact ⟨_, rfl, fun i u hu => by rw [Addr.add_mid]; exact hr i u hu⟩
set_option maxRecDepth 100000 in
set_option maxHeartbeats 1000000 in
/-- a net of a circuit -/
theorem s_new (I : Int) (L : List GateR) (s : Value) (w : World) (hs : Cs.Shows w 0 2 s L.length (GateR.all L)) (hl : L.length ≤ 360) :
    Calls Try.prog 37 #[.agg #[.int .i64 I, s]] w fun e w' => ∃ bp, e = .returned (.pointer (some ⟨bp, 0, none⟩)) ∧ Nt w.heap.size bp I ⟨L, false⟩ w' ∧ Below w.heap.size w w' := by
  obtain ⟨i0, hi0, hz0, hzs, hzb⟩ := info_parts zero_Gate
  have hml : maxLen = 9223372036854775807 := rfl
  have HS := Lib.hid hs
  have HLEN := Lib.hid hs.1
  obtain ⟨_, q, cap, rfl, _⟩ := hs
  have HB1 := Lib.hid ((Below.refl w.heap.size w).alloc (Nat.le_refl _) (.cells #[.int .i64 I, .slice q L.length cap] 29))
  have HX := Lib.hid (heap_alloc_new w (.cells #[.int .i64 I, .slice q L.length cap] 29))
  obtain ⟨W, hW⟩ : ∃ W, W = w.alloc (.cells #[.int .i64 I, .slice q L.length cap] 29) := ⟨_, rfl⟩
  have hsW : W.heap.size = w.heap.size + 1 := by rw [hW]; simp
  rw [← hW] at HB1 HX
  have HCW : Hid (∀ V, Below (w.heap.size + 1) W V → V.cell? ⟨w.heap.size, 0, none⟩ = some (.int .i64 I) ∧ V.cell? ⟨w.heap.size, 1, none⟩ = some (.slice q L.length cap)) := Lib.hid (below_two HX.out (by omega))
  have HC := Lib.hid (HCW.out W.drew (Below.refl _ _).drew)
  go_enter Try.func37, Try.ntmps37
  go_wp2_with fail
  rw [← hW]
  clear hW
  refine region_s [] (fun V => V.cell? ⟨w.heap.size, 0, none⟩ = some (.int .i64 I) ∧ V.cell? ⟨w.heap.size, 1, none⟩ = some (.slice q L.length cap)) (by kernel_rfl) ?_
  refine take_p (i := 0) (v := .pointer (some ⟨w.heap.size, 0, none⟩)) rfl (by kernel_rfl) (fun _ _ _ h => h) HC.out rfl (fun V => ?_) ?_
  · go_simp
  refine take_s (i := 1) (v := .int .i64 I) rfl (by kernel_rfl) (fun _ _ _ h => h) HC.out rfl (fun V hV => ?_) ?_
  · obtain ⟨t1, t2⟩ := hV
    go_simp
  refine take_p (i := 3) (v := .pointer (some ⟨w.heap.size, 1, none⟩)) rfl (by kernel_rfl) (fun _ _ _ h => h) HC.out rfl (fun V => ?_) ?_
  · go_simp
  refine take_s (i := 4) (v := .slice q L.length cap) rfl (by kernel_rfl) (fun _ _ _ h => h) HC.out rfl (fun V hV => ?_) ?_
  · obtain ⟨t1, t2⟩ := hV
    go_simp
  refine one_s (i := 2) (by kernel_rfl) (op_list rfl ?_)
  go_wp2
  obtain ⟨V1, hV1⟩ : ∃ V1, V1 = (W.alloc (.cells #[] 48)).drew := ⟨_, rfl⟩
  have HB2 : Hid (Below W.heap.size W V1) := Lib.hid (by rw [hV1]; exact ((Below.refl W.heap.size W).alloc (Nat.le_refl _) _).drew)
  have HN2 : Hid (V1.heap[w.heap.size + 1]? = some (.cells #[] 48 (0, 0))) := Lib.hid (by rw [hV1, ← hsW]; exact heap_alloc_new W _)
  have hsV : V1.heap.size = w.heap.size + 2 := by rw [hV1]; show (W.alloc _).heap.size = _; simp; omega
  rw [← hV1]
  clear hV1
  have HBV := Lib.hid (HB1.out.trans (HB2.out.mono (by omega)))
  refine ⟨fun _ => HCW.out _ (HB2.out.mono (by omega)), ?_⟩
  have HO1 : Hid (V1.ownsRow (w.heap.size + 1) 48 2 (.slice (some ⟨w.heap.size + 1, 0, none⟩) 0 0) 0 []) := Lib.hid ⟨rfl, .inr ⟨w.heap.size + 1, 0, #[], rfl, Nat.le_refl _, HN2.out, Nat.le_refl _, by omega, rfl, rfl⟩⟩
  have HSV := Lib.hid (HS.out.below HBV.out)
  refine one_s (i := 5) (by kernel_rfl) (op_list rfl ?_)
  refine wpList_append_any rfl _ _ 27 rfl (w.heap.size + 1) 48 i0 (.agg #[.int .i64 0, .int .i64 0]) 2 16 Try.underlying27 hi0 hz0 hzs hzb rfl (by decide) _ 0 _ rfl HO1.out q L.length cap (GateR.all L) rfl ?c0 ?c1 ?c2 ?c3 ?c4 ?c5 ?_
  case c0 => exact HLEN.out
  case c1 => exact news_of2 HSV.out
  case c2 => exact GateR.all_one' L
  case c3 => unfold maxLen; omega
  case c4 => omega
  case c5 => omega
  intro q' c' w2 hown2 hb2
  rw [Nat.zero_add, List.nil_append] at hown2
  have HO2 := Lib.hid hown2
  have HB3 := Lib.hid (HBV.out.trans (hb2.mono (by omega)))
  have HC3 := Lib.hid (HCW.out w2 ((HB2.out.mono (by omega)).trans hb2))
  have HBX := Lib.hid hb2
  have hs3 := HB3.out.size
  clear hown2 hb2
  rw [Nat.zero_add]
  go_wp2
  refine ⟨fun _ => HC3.out, ?_⟩
  refine one_s (i := 6) (by kernel_rfl) (op_list rfl ?_)
  go_wp2
  refine ⟨fun _ => HC3.out, ?_⟩
  refine one_s (i := 7) (by kernel_rfl) (op_list rfl ?_)
  go_wp2
  refine ⟨fun _ => HC3.out, ?_⟩
  refine one_s (i := 8) (by kernel_rfl) (op_list rfl ?_)
  go_wp2
  have HB4 := Lib.hid (HB3.out.alloc hs3 (.cells #[.int .i64 I, .slice q' L.length c', .bool false] 76))
  have HC4 := Lib.hid (HCW.out _ (((HB2.out.mono (by omega)).trans (show Below (w.heap.size + 1) V1 w2 from HBX.out)).alloc (by have := HBX.out.size; omega) (.cells #[.int .i64 I, .slice q' L.length c', .bool false] 76)))
  refine ⟨fun _ => HC4.out, ?_⟩
  refine one_s (i := 9) (by kernel_rfl) (op_list rfl ?_)
  go_wp2
  refine ⟨fun _ => HC4.out, done_s (by kernel_rfl) ?_ _⟩
  go_wp2
  go_ret
  refine ⟨_, rfl, ⟨q', c', heap_alloc_new w2 _, own_base (HO2.out.alloc _) (by omega), ?_⟩, HB4.out⟩
  omega
set_option maxRecDepth 100000 in
set_option maxHeartbeats 1000000 in
theorem s_out (b0 bp : Nat) (I : Int) (N : Net) (x : Int) (w : World) (hn : Nt b0 bp I N w) :
    Calls Try.prog 39 #[.pointer (some ⟨bp, 0, none⟩), .int .i64 x] w fun e w' => Below w.heap.size w w' ∧ ((N.full = true ∧ e = .returned (.tuple #[.agg #[.int .i64 0, .slice none 0 0], .int .i64 0, .bool false])) ∨ (N.full = false ∧ ∃ q cap, e = .returned (.tuple #[.agg #[.int .i64 I, .slice q N.gs.length cap], .int .i64 x, .bool true]) ∧ w'.ownsRow b0 48 2 (.slice q N.gs.length cap) N.gs.length (GateR.all N.gs))) := by
  have hlt := hn.lt
  obtain ⟨q, cap, h1, h2, h3⟩ := hn
  have c0 : w.cell? ⟨bp, 0, none⟩ = some (.int .i64 I) := cell_of_row w bp 0 _ _ _ h1
  have c1 : w.cell? ⟨bp, 1, none⟩ = some (.slice q N.gs.length cap) := cell_of_row w bp 1 _ _ _ h1
  have c2 : w.cell? ⟨bp, 2, none⟩ = some (.bool N.full) := cell_of_row w bp 2 _ _ _ h1
  have HO0 := Lib.hid h2
  clear h1 h2
  generalize hn : N.gs.length = n at *
  cases hf : N.full with
  | true =>
    rw [hf] at c2
    go_enter Try.func39, Try.ntmps39
    go_wp2
    refine bodyPost_ret (v := .tuple #[.agg #[.int .i64 0, .slice none 0 0], .int .i64 0, .bool false]) (by simp [results, Try.results39, go_sem]) rfl ?_
    exact ⟨(Below.refl _ _).alloc (Nat.le_refl _) _, .inl ⟨by trivial, rfl⟩⟩
  | false =>
    rw [hf] at c2
    go_enter Try.func39, Try.ntmps39
    go_wp2
    refine bodyPost_ret (v := .tuple #[.agg #[.int .i64 I, .slice q n cap], .int .i64 x, .bool true]) (by simp [results, Try.results39, go_sem]) rfl ?_
    exact ⟨(Below.refl _ _).alloc (Nat.le_refl _) _, .inr ⟨by trivial, q, cap, rfl, HO0.out.alloc _⟩⟩
theorem all_at2 {α : Type} (p : α → Bool) (L : List α) (j : Nat) (h : j < L.length) : (L.drop j).all p = (p L[j] && (L.drop (j + 1)).all p) := by
  rw [List.drop_eq_getElem_cons h, List.all_cons]
set_option maxRecDepth 100000 in
set_option maxHeartbeats 1000000 in
theorem s_lits (n : Int) (hn : 0 ≤ n) (hn2 : n ≤ 4611686018427387904) (l : List Int) (v : Value) (w : World) (hv : Cs.Shows w 0 1 v l.length (IntL.all l)) (hl : l.length ≤ 1048577) :
    Calls Try.prog 60 #[v, .int .i64 n] w fun e w' => e = .returned (.bool (litsB n l)) ∧ Below w.heap.size w w' := by
  have HR : Hid (∀ j, (h : j < l.length) → ∃ b o c, v = .slice (some ⟨b, o, none⟩) l.length c ∧ w.cell? ⟨b, o + j, none⟩ = some (.int .i64 l[j])) := Lib.hid (fun j h => by
    rcases Cs.shows_cases hv with ⟨h0, _⟩ | ⟨_, b, o, c, hq, _, _, _, hr⟩
    · omega
    · exact ⟨b, o, c, hq, IntL.nth l j h hr⟩)
  have HX := Lib.hid (fun j (h : j < l.length) => all_at2 (litB n) l j h)
  have HE := Lib.hid (show (l.drop l.length).all (litB n) = true by simp)
  have KI := Lib.hid (fun x c h W => s_inb x (-n) n c h W)
  obtain ⟨_, q, cap, rfl, _⟩ := hv
  obtain ⟨B, hB⟩ : ∃ B, litsB n l = B := ⟨_, rfl⟩
  have HB := Lib.hid (show (l.drop 0).all (litB n) = B from hB)
  rw [hB]
  clear hB
  go_enter Try.func60, Try.ntmps60
  go_wp2
  go_loopw [9] (fun i wr => ∃ j : Nat, j ≤ l.length ∧ i = .int .i64 j ∧ (l.drop j).all (litB n) = B ∧ wr = w) (fun i _ => l.length - (intOf i).toNat)
  case atStart => exact ⟨0, Nat.zero_le _, rfl, HB.out, rfl⟩
  case round =>
    obtain ⟨j, hj, rfl, hv, rfl⟩ := hrel
    by_cases hjn : j < l.length
    · obtain ⟨b, o, c, he, c0⟩ := HR.out j hjn
      injection he with e1 e2 e3
      subst e1
      subst e3
      clear e2
      have hx := HX.out j hjn
      rw [hv] at hx
      have hki : decide ((j : Int) < (l.length : Int)) = true := by simp; omega
      generalize l[j] = x at *
      have HQ := Lib.hid hx
      clear hx hv
      by_cases g0 : x = 0
      · have e0 : (x == 0) = true := by simpa using g0
        have HF := Lib.hid (show B = false by rw [HQ.out, litB_f (.inl g0)]; rfl)
        go_wp2
        go_ret
        exact ⟨by rw [HF.out] <;> rfl, Below.refl _ _⟩
      · have e0 : (x == 0) = false := by simpa using g0
        cases hc : (decide (-n ≤ x) && decide (x ≤ n)) with
        | false =>
          have HC := Lib.hid hc
          have HF := Lib.hid (show B = false by rw [HQ.out]; unfold litB; rw [hc]; simp)
          clear hc
          go_wp2_with (go_at_call 31; refine (KI.out _ _ HC.out _).mono ?_; rintro e w1 ⟨rfl, rfl⟩)
          go_ret
          exact ⟨by rw [HF.out] <;> rfl, Below.refl _ _⟩
        | true =>
          have HC := Lib.hid hc
          have HN := Lib.hid (show (l.drop (j + 1)).all (litB n) = B by rw [HQ.out]; unfold litB; rw [hc]; simp [g0])
          clear hc
          go_wp2_with (go_at_call 31; refine (KI.out _ _ HC.out _).mono ?_; rintro e w1 ⟨rfl, rfl⟩)
          go_roundw
          case rel => exact ⟨j + 1, by omega, by go_num, HN.out, by trivial⟩
          case measure => simp [intOf]; omega
    · obtain rfl : j = l.length := by omega
      rw [HE.out] at hv
      have hki : decide ((l.length : Int) < (l.length : Int)) = false := by simp
      have HV := Lib.hid hv
      clear hv
      go_wp2
      go_ret
      exact ⟨by rw [← HV.out] <;> rfl, Below.refl _ _⟩
set_option maxRecDepth 100000 in
theorem s_lits4 (I : Int) (L : List GateR) (s : Value) (l : List Int) (v : Value) (w : World) (hs : Cs.Shows w 0 2 s L.length (GateR.all L)) (hI : 0 ≤ I ∧ I ≤ 30) (hL : L.length ≤ 360) (hv : Cs.Shows w 0 1 v l.length (IntL.all l)) (hl : l.length ≤ 1048577) :
    Calls Try.prog 36 #[.agg #[.int .i64 I, s], v] w fun e w' => e = .returned (.bool (litsB (1 + I + L.length) l)) ∧ Below w.heap.size w w' := by
  have KL := Lib.hid (fun W (hb : Below w.heap.size w W) => s_lits (I + 1 + L.length) (by omega) (by omega) l v W (hv.below hb) hl)
  rw [show I + 1 + (L.length : Int) = 1 + I + L.length by omega] at KL
  obtain ⟨_, q, cap, rfl, _⟩ := hs
  obtain ⟨_, q2, cap2, rfl, _⟩ := hv
  have hB1 := (Below.refl w.heap.size w).alloc (Nat.le_refl _) (.cells #[.int .i64 I, .slice q L.length cap] 29)
  have HB1 := Lib.hid hB1
  clear hB1
  obtain ⟨B, hB⟩ : ∃ B, litsB (1 + I + L.length) l = B := ⟨_, rfl⟩
  rw [hB] at KL ⊢
  clear hB
  have hz : (1 : Int) + I + L.length = I + 1 + L.length := by omega
  rw [hz] at KL
  clear hz
  go_enter Try.func36, Try.ntmps36
  go_wp2_with (go_at_call 60; refine (KL.out _ HB1.out).mono ?_; rintro e w1 ⟨rfl, hb1⟩)
  go_ret
  exact ⟨rfl, HB1.out.trans (hb1.mono (by simp))⟩
end Go.Proofs.Ytimjkgciakbolab
