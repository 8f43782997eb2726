/- What the program's AllInputs returns. No condition. -/
import Derived.Test.YtbdkningngpgcaaPrI
import Derived.Test.YtbdkningngpgcaaAiM
import Derived.Test.YtbdkningngpgcaaClone
import Derived.Test.YtbdkningngpgcaaReg
import Derived.Deep.LoopGhost
import Derived.WalkMore
namespace Go.Proofs.Ytbdkningngpgcaa
open Go.ChangeShapes Go.WideShapes Go.ChangeAt Go.RowKit
theorem own_slcI {w : World} {base n : Nat} {e : TypeId} {v : Value} {xs : List Value} (h : w.ownsRow base e 1 v n xs) : ∃ q cap, v = .slice q n cap := by
  rcases h.2 with ⟨rfl, h0⟩ | ⟨g, cap, _, rfl, _⟩
  · exact ⟨none, 0, by rw [h0]⟩
  · exact ⟨_, cap, rfl⟩
theorem own_offI {w : World} {base n b : Nat} {e : TypeId} {v : Value} {xs : List Value} {cs : Array Value} {T : TypeId} {fr : Nat × Nat} (hT : T ≠ e) (h : w.ownsRow base e 1 v n xs) (hb : w.heap[b]? = some (.cells cs T fr)) : b ∉ v.ownBlock.toList := fun hm => by
  rcases h.2 with ⟨rfl, _⟩ | ⟨g, cap, cur, rfl, _, hg, _⟩
  · simp [Value.ownBlock] at hm
  · simp [Value.ownBlock] at hm
    subst hm
    rw [hb] at hg
    injection hg with hg
    injection hg with _ e5
    exact hT e5
theorem made_zero (n : Nat) : (madeCells (Value.int .i64 0).cells (n * 1)).toList = IntL.all (List.replicate n 0) := by
  rw [IntL.all_map]
  apply List.ext_getElem?
  intro i
  rw [List.map_replicate, List.getElem?_replicate, Array.getElem?_toList]
  by_cases h : i < n
  · rw [if_pos h, Array.getElem?_eq_getElem (by rw [size_madeCells]; omega)]
    simp [madeCells, Value.cells, Nat.mod_one]
  · rw [if_neg h, Array.getElem?_eq_none (by rw [size_madeCells]; omega)]
theorem pow_ones (b : Nat) (h1 : 2 ≤ b) (h2 : b ≤ 8) : wrap64 (wrap64 ((2 : Int) ^ b) - 1) = ((2 ^ b - 1 : Nat) : Int) := by
  have : b = 2 ∨ b = 3 ∨ b = 4 ∨ b = 5 ∨ b = 6 ∨ b = 7 ∨ b = 8 := by omega
  rcases this with h | h | h | h | h | h | h <;> subst h <;> first | kernel_rfl | decide +kernel
set_option maxRecDepth 100000 in
set_option maxHeartbeats 1000000 in
theorem i_ones (b : Nat) (h1 : 2 ≤ b) (h2 : b ≤ 8) (w : World) :
    Calls Try.prog 48 #[.int .i64 b] w fun e w' => e = .returned (.int .i64 ((2 ^ b - 1 : Nat) : Int)) ∧ w = w' := by
  have HP := Lib.hid (pow_ones b h1 h2)
  go_enter Try.func48, Try.ntmps48
  go_wp2
  rw [HP.out]
  go_ret
  exact ⟨rfl, rfl⟩
set_option maxRecDepth 100000 in
set_option maxHeartbeats 4000000 in
theorem i_allin (vw vm vi : Int) (L : List InsR) (s : Value) (w : World) (hs : Cs.Shows w 0 4 s L.length (InsR.all L)) (hok : ∀ r ∈ L, r.Ok) (hL : L.length ≤ maxLen) :
    Calls Try.prog 12 #[.agg #[.int .i64 vw, .int .i64 vm, .int .i64 vi, s]] w fun e w' => Below w.heap.size w w' ∧ ∃ q cap, e = .returned (.slice q (aiV vw vm vi L).length cap) ∧ ∃ bs, (Cs.rows IntSS.c (aiV vw vm vi L)).Has w' w.heap.size 37 1 (aiV vw vm vi L).length (.slice q (aiV vw vm vi L).length cap) bs ∧ bs.Nodup := by
  have hml : maxLen = 9223372036854775807 := rfl
  have K1 := Lib.hid (fun W (hb : Below w.heap.size w W) => i_prog vw vm vi L s W (hs.below hb) hok hL)
  obtain ⟨_, q, cap, rfl, _⟩ := hs
  obtain ⟨b1, hb1⟩ : ∃ B, prB vw vm vi L = B := ⟨_, rfl⟩
  rw [hb1] at K1
  obtain ⟨V, hV⟩ : ∃ V, aiV vw vm vi L = V := ⟨_, rfl⟩
  rw [hV]
  have HV := Lib.hid hV
  clear hV
  obtain ⟨i9, hi9, hz9, hzs9, hzb9⟩ := info_parts zero_Int
  obtain ⟨i8, hi8, hz8, hzs8, hzb8⟩ := info_parts zero_IntS
  obtain ⟨w0, hw0⟩ : ∃ w0, w0 = w.alloc (.cells #[.int .i64 vw, .int .i64 vm, .int .i64 vi, .slice q L.length cap] 30) := ⟨_, rfl⟩
  have HB0 := Lib.hid (show Below w.heap.size w w0 by rw [hw0]; exact (Below.refl _ _).alloc (Nat.le_refl _) _)
  have XR0 := Lib.hid (show w0.heap[w.heap.size]? = some (.cells #[.int .i64 vw, .int .i64 vm, .int .i64 vi, .slice q L.length cap] 30 (0, 0)) by rw [hw0]; exact heap_alloc_new _ _)
  obtain ⟨x0, x1, x2, x3⟩ := cell4_row XR0.out
  go_enter Try.func12, Try.ntmps12
  go_wp2_with fail
  rw [← hw0]
  clear hw0
  go_step3
  go_wp2_with fail
  refine (K1.out _ HB0.out).mono ?_
  rintro e w1 ⟨rfl, hb⟩
  have HB1 := Lib.hid (HB0.out.trans (hb.mono HB0.out.size))
  have XR1 := Lib.hid ((hb.block w.heap.size (row_lt XR0.out)).trans XR0.out)
  clear hb
  obtain ⟨x0, x1, x2, x3⟩ := cell4_row XR1.out
  cases b1
  case false =>
    have hv : V = [] := by rw [← HV.out]; unfold aiV; rw [hb1]; simp
    subst hv
    go_wp2
    try rw [Exit.noGoto_ret]
    go_ret
    exact ⟨HB1.out, none, 0, rfl, [], ⟨[], [], World.ownsRow_nil _ _ _ _, ⟨rfl, rfl⟩, by simp [Value.ownBlock]⟩, by simp⟩
  case true =>
    obtain ⟨⟨hw2, hw8, -, -, -, hi0, hi3, -, -⟩, -⟩ := pr_in hb1
    obtain ⟨b, rfl⟩ : ∃ b : Nat, vw = b := ⟨vw.toNat, by omega⟩
    obtain ⟨I, rfl⟩ : ∃ I : Nat, vi = I := ⟨vi.toNat, by omega⟩
    have hmul : (b : Int) * (I : Int) = ((b * I : Nat) : Int) := by simp
    obtain ⟨m, hm⟩ : ∃ m, b * I = m := ⟨_, rfl⟩
    have hm24 : m ≤ 24 := by rw [← hm]; exact Nat.le_trans (Nat.mul_le_mul (show b ≤ 8 by omega) (show I ≤ 3 by omega)) (by decide)
    by_cases h12 : m ≤ 12
    case neg =>
      have hv : V = [] := by rw [← HV.out]; unfold aiV; rw [if_neg]; rintro ⟨-, h⟩; rw [hmul, hm] at h; omega
      subst hv
      rw [hm] at hmul
      have hgt : (12 : Int) < (m : Int) := by omega
      go_wp2
      try rw [Exit.noGoto_ret]
      go_ret
      exact ⟨HB1.out, none, 0, rfl, [], ⟨[], [], World.ownsRow_nil _ _ _ _, ⟨rfl, rfl⟩, by simp [Value.ownBlock]⟩, by simp⟩
    case pos =>
      have hv : V = aiT (2 ^ b) I (2 ^ m) := by rw [← HV.out]; unfold aiV; rw [if_pos ⟨hb1, by rw [hmul, hm]; omega⟩, hmul, hm]; simp
      have HVV := Lib.hid hv
      have HPW := Lib.hid (show (2 ^ b) ^ I = 2 ^ m by rw [← Nat.pow_mul, hm])
      rw [hm] at hmul
      have hle : ¬ ((12 : Int) < (m : Int)) := by omega
      obtain ⟨N, hN⟩ : ∃ N, 2 ^ m = N := ⟨_, rfl⟩
      have hN1 : N ≤ 4096 := by rw [← hN]; exact Nat.pow_le_pow_right (by decide) h12
      have hN0 : 0 < N := by rw [← hN]; exact Nat.two_pow_pos m
      rw [hN] at HVV HPW
      obtain ⟨B, hB⟩ : ∃ B, 2 ^ b = B := ⟨_, rfl⟩
      have hB4 : 4 ≤ B := by rw [← hB]; exact Nat.pow_le_pow_right (n := 2) (i := 2) (by decide) (by omega)
      have hB256 : B ≤ 256 := by rw [← hB]; exact Nat.pow_le_pow_right (n := 2) (i := b) (by decide) (show b ≤ 8 by omega)
      have KO := Lib.hid (fun W => i_ones b (by omega) (by omega) W)
      rw [hB] at HVV HPW KO
      clear hv HV hN hB
      have hs1 := HB1.out.size
      go_wp2_with (refine wpList_make_full _ rfl _ _ 37 rfl w.heap.size 3 i9 (.int .i64 0) 1 Try.underlying37 hi9 hz9 hzs9 .i64 .i64 _ _ I rfl rfl rfl rfl (by rw [hzb9]; omega) (by omega) hs1 ?_; intro w2 hown hgrow; have hb2 := (Below.refl w1.heap.size w1).grown hgrow (Nat.le_refl _) (fun k e => by cases e); have HO := Lib.hid hown; have HB2 := Lib.hid hb2; clear hown hgrow hb2 x0 x1 x2 x3)
      obtain ⟨gi, hgi⟩ : ∃ g, g = w1.heap.size := ⟨_, rfl⟩
      have HOI := Lib.hid (show w2.ownsRow w.heap.size 3 1 (.slice (some ⟨gi, 0, none⟩) I I) I (IntL.all (dg B I 0)) by rw [dg_zero, ← made_zero, hgi]; exact HO.out)
      rw [← hgi]
      clear hgi HO
      have HB2' := Lib.hid (HB1.out.trans (HB2.out.mono hs1))
      have XR2 := Lib.hid ((HB2.out.block w.heap.size (row_lt XR1.out)).trans XR1.out)
      go_step3
      go_wp2
      go_loopg [3] N (fun kx ov wr => ∃ n : Nat, n + kx = N ∧ 0 < kx ∧ (∃ bs, (Cs.rows IntSS.c (aiT B I n)).Has wr w.heap.size 37 1 n ov bs ∧ bs.Nodup ∧ gi ∉ bs) ∧ wr.ownsRow w.heap.size 3 1 (.slice (some ⟨gi, 0, none⟩) I I) I (IntL.all (dg B I n)) ∧ Below w.heap.size w wr ∧ wr.heap[w.heap.size]? = some (.cells #[.int .i64 b, .int .i64 vm, .int .i64 I, .slice q L.length cap] 30 (0, 0)))
      case atStart => exact ⟨0, Nat.zero_add _, hN0, ⟨[], ⟨[], [], World.ownsRow_nil _ _ _ _, ⟨rfl, rfl⟩, by simp [Value.ownBlock]⟩, by simp, by simp⟩, HOI.out, HB2'.out, XR2.out⟩
      case round =>
        obtain ⟨n, hn, hk0, ⟨bs, ⟨ys, c1, ho, hown, rfl⟩, hnd, hgi⟩, hoi, hB, hX⟩ := hrel
        obtain ⟨oq, oc, rfl⟩ := own_slcI ho
        obtain ⟨ko, hko⟩ : ∃ k, gk = k := ⟨_, rfl⟩
        rw [hko] at hn hk0
        have HKO := Lib.hid hko
        clear hko
        have OV := Lib.hid ho
        have OW := Lib.hid hown
        have HND := Lib.hid hnd
        have HGI := Lib.hid hgi
        have OI := Lib.hid hoi
        have HBr := Lib.hid hB
        have XRr := Lib.hid hX
        have hsr := hB.size
        obtain ⟨l, hl⟩ : ∃ l, dg B I n = l := ⟨_, rfl⟩
        have hll : l.length = I := by rw [← hl, dg_len]
        have HS := Lib.hid (show aiT B I (n + 1) = aiT B I n ++ [l] by rw [aiT_succ, hl])
        rw [hl] at hoi
        have KC := Lib.hid (own_clone2 l (.slice (some ⟨gi, 0, none⟩) I I) wr (by rw [hll]; exact (Cs.shows_of_owns hoi).down (Nat.zero_le _)) (by omega))
        rw [hll] at KC
        have HLL := Lib.hid hll
        have HL := Lib.hid hl
        clear ho hown hnd hgi hoi hB hX hll hl
        go_wp2_with fail
        refine KC.out.mono ?_
        rintro e w6 ⟨hb, cq, cc, rfl, hoc⟩
        have OC := Lib.hid hoc
        have OV6 := Lib.hid (own_keep OV.out hb)
        have OW6 := Lib.hid (OW.out.below hb)
        have OI6 := Lib.hid (own_keep OI.out hb)
        have HB6 := Lib.hid (HBr.out.trans (hb.mono hsr))
        have XR6 := Lib.hid ((hb.block w.heap.size (row_lt XRr.out)).trans XRr.out)
        have hs6 := hb.size
        clear hb hoc KC
        go_wp2_with (at_builtin; refine wpList_append_own_at _ rfl _ _ 26 rfl w.heap.size 37 i8 (.slice none 0 0) 1 24 Try.underlying26 hi8 hz8 hzs8 hzb8 rfl (by decide) (.slice oq n oc) n _ rfl (own_keep OV6.out ((Below.refl _ _).alloc (Nat.le_refl _) _)) _ 1 1 [.slice cq I cc] rfl rfl ?c1 ?c2 ?c3 ?c4 ?c5 ?_)
        try case c1 => exact cell_one_new _ _ _
        case c2 => first | rfl | (intro u hu; simp at hu; subst hu; rfl)
        case c3 => omega
        case c4 => omega
        case c5 => have := HB6.out.size; first | omega | (simp; omega)
        intro v' w11 hown hgrow _ hat
        have hal2 : Below w6.heap.size w6 (w6.alloc (.cells #[.slice cq I cc] 37)) := (Below.refl _ _).alloc (Nat.le_refl _) _
        have hat2 : v'.ownBlock = (Value.slice oq n oc).ownBlock ∨ v'.ownBlock = some (w6.alloc (.cells #[.slice cq I cc] 37)).heap.size := by
          rcases hat with h | h
          · exact .inl h
          · exact .inr (by rw [h]; simp)
        have hgiw := (own_lt OI.out (g := gi) (by simp [Value.ownBlock])).2
        have RP : Hid (∃ bs, (Cs.rows IntSS.c (aiT B I (n + 1))).Has w11 w.heap.size 37 1 (n + 1) v' bs ∧ bs.Nodup ∧ gi ∉ bs) := Lib.hid (by
          obtain ⟨bs, h1, h2, h3⟩ := rows_push (A := aiT B I n) (l := l) (v := .slice oq n oc) hown OW6.out HND.out (by rw [HLL.out]; exact own_base OC.out hsr) (fun g hg hm => by
            have h1 := (own_lt OC.out hg).1
            rcases List.mem_append.1 hm with hm | hm
            · have := (own_lt OV.out hm).2; omega
            · have := (OW.out.lt g hm).2; omega) hal2 hgrow hat2
          rw [← HS.out] at h1
          refine ⟨bs, h1, h2, fun hg => ?_⟩
          rcases h3 gi hg with h | h | h
          · exact HGI.out h
          · have := (own_lt OC.out h).1; omega
          · simp at h; omega)
        have hng : ∀ g, g ∉ (Value.slice oq n oc).ownBlock.toList → g < w6.heap.size → w11.heap[g]? = w6.heap[g]? := fun g h1 h2 => (hgrow.block g (by simp; omega) (fun h => h1 (by rw [← h]; simp))).trans (hal2.block g h2)
        have OI11 := Lib.hid (own_same OI6.out (fun g hg => hng g (fun h => by
          simp [Value.ownBlock] at hg
          subst hg
          exact HGI.out (List.mem_append_left _ h)) (own_lt OI6.out hg).2))
        have HB11 := Lib.hid ((HB6.out.alloc HB6.out.size (.cells #[.slice cq I cc] 37)).grown hgrow (by have := HB6.out.size; simp; omega) (fun b hb => (own_lt OV6.out (g := b) (by rw [hb]; simp)).1))
        have XR11 := Lib.hid ((hng w.heap.size (own_offI (T := 30) (by decide) OV6.out XR6.out) (row_lt XR6.out)).trans XR6.out)
        clear hown hgrow hal2 hat hat2 hng
        obtain ⟨vq, vc, rfl⟩ : ∃ q c, v' = .slice q (n + 1) c := by
          obtain ⟨_, ⟨ys2, b2, h, _⟩, _⟩ := RP.out
          exact own_slcI h
        obtain ⟨y0, y1, y2, y3⟩ := cell4_row XR11.out
        go_wp2
        clear y0 y1 y2 y3
        go_loopg [5] I (fun kx kv w9 => ∃ j mm : Nat, j + kx = I ∧ kv = .int .i64 ((kx : Int) - 1) ∧ n + 1 = (mm + 1) * B ^ j ∧ w9.ownsRow w.heap.size 3 1 (.slice (some ⟨gi, 0, none⟩) I I) I (IntL.all (dg B kx mm ++ List.replicate j 0)) ∧ (∃ bs, (Cs.rows IntSS.c (aiT B I (n + 1))).Has w9 w.heap.size 37 1 (n + 1) (.slice vq (n + 1) vc) bs ∧ bs.Nodup ∧ gi ∉ bs) ∧ Below w.heap.size w w9 ∧ w9.heap[w.heap.size]? = some (.cells #[.int .i64 b, .int .i64 vm, .int .i64 I, .slice q L.length cap] 30 (0, 0)))
        case atStart => exact ⟨0, n, Nat.zero_add _, by go_num, by simp, by simpa using OI11.out, RP.out, HB11.out, XR11.out⟩
        case round =>
          obtain ⟨j, mm, hj, rfl, he, hoi, hrp, hB, hX⟩ := hrel
          rename World => w9
          have OI9 := Lib.hid hoi
          have RP9 := Lib.hid hrp
          have HB9 := Lib.hid hB
          have XR9 := Lib.hid hX
          have HE := Lib.hid he
          have hgb := (own_lt hoi (g := gi) (by simp [Value.ownBlock])).1
          clear hrp hB hX he hoi
          rcases Nat.eq_zero_or_pos gk with hg0 | hg0
          · have hjI : j = I := by omega
            rw [hjI] at HE
            have hend := ai_end (B := B) (I := I) (by rw [HPW.out]; omega) HE.out
            rw [HPW.out] at hend
            rw [hend] at RP9
            have hVl : V.length = N := by rw [HVV.out, aiT_len]
            have hneg : ¬ ((0 : Int) ≤ (gk : Int) - 1) := by omega
            have HN := Lib.hid hend
            clear hend
            go_wp2
            try rw [Exit.noGoto_ret]
            go_ret
            rw [hVl, HN.out, HVV.out]
            obtain ⟨bs, h1, h2, _⟩ := RP9.out
            exact ⟨HB9.out, vq, vc, rfl, bs, h1, h2⟩
          · obtain ⟨k, hgk⟩ : ∃ k, gk = k + 1 := ⟨gk - 1, by omega⟩
            rw [hgk] at OI9 hj
            have hkk : ((gk : Int) - 1) = (k : Int) := by omega
            rw [hkk]
            have HGK := Lib.hid hgk
            clear hkk hgk hg0
            have hkI : k < I := by omega
            have hki : (k : Int) < (I : Int) := by omega
            have hk0 : (0 : Int) ≤ (k : Int) := by omega
            obtain ⟨d, hd⟩ : ∃ d, mm % B = d := ⟨_, rfl⟩
            obtain ⟨e1, he1⟩ : ∃ e, B - 1 = e := ⟨_, rfl⟩
            have KO1 := KO
            rw [he1] at KO1
            have HD := Lib.hid hd
            have hdB : d < B := by rw [← hd]; exact Nat.mod_lt _ (by omega)
            have hdg : dg B (k + 1) mm = dg B k (mm / B) ++ [(d : Int)] := by rw [dg, hd]
            rw [hdg] at OI9
            clear hd hdg
            have cI : w9.cell? ⟨gi, k, none⟩ = some (.int .i64 d) := by
              rw [OI9.out.cellAt k (by omega), IntL.all_map, List.getElem?_map, List.append_assoc, List.getElem?_append_right (by rw [dg_len]; exact Nat.le_refl _), dg_len, Nat.sub_self]
              rfl
            have fI := OI9.out.frozenAt k
            obtain ⟨z0, z1, z2, z3⟩ := cell4_row XR9.out
            go_wp2
            refine region_s [] (fun V => V = w9.drew) (by kernel_rfl) ?_
            refine take_s (i := 0) (v := .slice (some ⟨gi, 0, none⟩) I I) rfl (by kernel_rfl) (fun _ _ _ h => h) rfl rfl (fun V hV => ?_) ?_
            · subst hV
              go_simp
            refine take_s (i := 1) (v := .int .i64 k) rfl (by kernel_rfl) (fun _ _ _ h => h) rfl rfl (fun V hV => ?_) ?_
            · subst hV
              go_simp
            refine take_s (i := 2) (v := .pointer (some ⟨gi, k, none⟩)) rfl (by kernel_rfl) (fun _ _ _ h => h) rfl rfl (fun V hV => ?_) ?_
            · subst hV
              go_simp
            refine take_s (i := 3) (v := .int .i64 d) rfl (by kernel_rfl) (fun _ _ _ h => h) rfl rfl (fun V hV => ?_) ?_
            · subst hV
              go_simp
            refine take_s (i := 4) (v := .pointer (some ⟨w.heap.size, 0, none⟩)) rfl (by kernel_rfl) (fun _ _ _ h => h) rfl rfl (fun V hV => ?_) ?_
            · subst hV
              go_simp
            refine take_s (i := 5) (v := .int .i64 b) rfl (by kernel_rfl) (fun _ _ _ h => h) rfl rfl (fun V hV => ?_) ?_
            · subst hV
              go_simp
            refine one_s (i := 6) (by kernel_rfl) (op_list rfl ?_)
            go_wp2_with fail
            refine (KO1.out _).mono ?_
            rintro e wx ⟨rfl, rfl⟩
            go_wp2
            refine ⟨fun _ => rfl, ?_⟩
            refine one_s (i := 7) (by kernel_rfl) (op_list rfl ?_)
            go_wp2
            refine ⟨fun _ => rfl, done_s (by kernel_rfl) ?_ _⟩
            obtain ⟨wd, hwd⟩ : ∃ W, W = w9.drew := ⟨_, rfl⟩
            have OId := Lib.hid (show wd.ownsRow w.heap.size 3 1 (.slice (some ⟨gi, 0, none⟩) I I) I _ by rw [hwd]; exact own_keep OI9.out (Below.refl _ _).drew)
            have HBd := Lib.hid (show Below w.heap.size w wd by rw [hwd]; exact HB9.out.drew)
            have XRd := Lib.hid (show wd.heap[w.heap.size]? = some (.cells #[.int .i64 b, .int .i64 vm, .int .i64 I, .slice q L.length cap] 30 (0, 0)) by rw [hwd]; exact XR9.out)
            have RPd := Lib.hid (show ∃ bs, (Cs.rows IntSS.c (aiT B I (n + 1))).Has wd w.heap.size 37 1 (n + 1) (.slice vq (n + 1) vc) bs ∧ bs.Nodup ∧ gi ∉ bs by rw [hwd]; obtain ⟨bs, h1, h2, h3⟩ := RP9.out; exact ⟨bs, h1.below (Below.refl _ _).drew, h2, h3⟩)
            rw [← hwd]
            clear hwd cI fI z0 z1 z2 z3 OI9 HB9 XR9 RP9
            have cI : wd.cell? ⟨gi, k, none⟩ = some (.int .i64 d) := by
              rw [OId.out.cellAt k (by omega), IntL.all_map, List.getElem?_map, List.append_assoc, List.getElem?_append_right (by rw [dg_len]; exact Nat.le_refl _), dg_len, Nat.sub_self]
              rfl
            have fI := OId.out.frozenAt k
            by_cases hlt : d < e1
            · have hli : (d : Int) < (e1 : Int) := by omega
              have hd1 : mm % B + 1 < B := by rw [HD.out]; omega
              obtain ⟨w5, hw5⟩ : ∃ W, W = wd.setCell ⟨gi, k, none⟩ (.int .i64 ((d : Int) + 1)) := ⟨_, rfl⟩
              have OI5 := Lib.hid (show w5.ownsRow w.heap.size 3 1 (.slice (some ⟨gi, 0, none⟩) I I) I (IntL.all (dg B I (n + 1))) by
                have h := own_put [.int .i64 ((d : Int) + 1)] k wd _ OId.out
                have e9 : dg B I (n + 1) = dg B k (mm / B) ++ [(d : Int) + 1] ++ List.replicate j 0 := by
                  rw [HE.out, show I = k + 1 + j by omega, dg_shift B (by omega), dg_last hd1, HD.out]
                  rfl
                rw [hw5, e9, IntL.all_map, ← dg_set (d := (d : Int)), List.map_set, ← IntL.all_map]
                exact h)
              have hmore := ai_more (I := I) (n := n) (show I = k + 1 + j by omega) (by rw [HPW.out]; omega) HE.out hd1
              rw [HPW.out] at hmore
              have HB5 := Lib.hid (show Below w.heap.size w w5 by rw [hw5]; exact HBd.out.setCell hgb _)
              have hgx : gi ≠ w.heap.size := fun h => own_offI (T := 30) (by decide) OId.out XRd.out (by rw [← h]; simp [Value.ownBlock])
              have XR5 := Lib.hid (show w5.heap[w.heap.size]? = some (.cells #[.int .i64 b, .int .i64 vm, .int .i64 I, .slice q L.length cap] 30 (0, 0)) by rw [hw5, heap_setCell_other _ _ _ _ (Ne.symm hgx)]; exact XRd.out)
              have RP5 := Lib.hid (show ∃ bs, (Cs.rows IntSS.c (aiT B I (n + 1))).Has w5 w.heap.size 37 1 (n + 1) (.slice vq (n + 1) vc) bs ∧ bs.Nodup ∧ gi ∉ bs by
                obtain ⟨bs, h1, h2, h3⟩ := RPd.out
                refine ⟨bs, h1.same fun g hg => ?_, h2, h3⟩
                rw [hw5]
                exact heap_setCell_other _ _ _ _ (fun (h : g = gi) => h3 (by rw [← h]; exact hg)))
              clear hgx
              have hM := Lib.hid hmore
              clear hmore hd1
              go_wp2
              rw [← hw5]
              clear hw5
              go_wp2
              go_roundg (ko - 1)
              case measure => have := HKO.out; omega
              case rel => exact ⟨n + 1, by omega, by have := hM.out; omega, RP5.out, OI5.out, HB5.out, XR5.out⟩
            · have hli : ¬ ((d : Int) < (e1 : Int)) := by omega
              have hd1 : ¬ mm % B + 1 < B := by rw [HD.out]; omega
              have HE5 := Lib.hid (ai_carry (by omega) HE.out hd1)
              obtain ⟨w5, hw5⟩ : ∃ W, W = wd.setCell ⟨gi, k, none⟩ (.int .i64 0) := ⟨_, rfl⟩
              have OI5 := Lib.hid (show w5.ownsRow w.heap.size 3 1 (.slice (some ⟨gi, 0, none⟩) I I) I (IntL.all (dg B k (mm / B) ++ List.replicate (j + 1) 0)) by
                have h := own_put [.int .i64 0] k wd _ OId.out
                have e9 : dg B k (mm / B) ++ List.replicate (j + 1) 0 = dg B k (mm / B) ++ [0] ++ List.replicate j 0 := by
                  rw [List.append_assoc]
                  rfl
                rw [hw5, e9, IntL.all_map, ← dg_set (d := (d : Int)), List.map_set, ← IntL.all_map]
                exact h)
              have HB5 := Lib.hid (show Below w.heap.size w w5 by rw [hw5]; exact HBd.out.setCell hgb _)
              have hgx : gi ≠ w.heap.size := fun h => own_offI (T := 30) (by decide) OId.out XRd.out (by rw [← h]; simp [Value.ownBlock])
              have XR5 := Lib.hid (show w5.heap[w.heap.size]? = some (.cells #[.int .i64 b, .int .i64 vm, .int .i64 I, .slice q L.length cap] 30 (0, 0)) by rw [hw5, heap_setCell_other _ _ _ _ (Ne.symm hgx)]; exact XRd.out)
              have RP5 := Lib.hid (show ∃ bs, (Cs.rows IntSS.c (aiT B I (n + 1))).Has w5 w.heap.size 37 1 (n + 1) (.slice vq (n + 1) vc) bs ∧ bs.Nodup ∧ gi ∉ bs by
                obtain ⟨bs, h1, h2, h3⟩ := RPd.out
                refine ⟨bs, h1.same fun g hg => ?_, h2, h3⟩
                rw [hw5]
                exact heap_setCell_other _ _ _ _ (fun (h : g = gi) => h3 (by rw [← h]; exact hg)))
              clear hgx
              clear hd1
              go_wp2
              rw [← hw5]
              clear hw5
              go_wp2
              go_roundg k
              case measure => have := HGK.out; omega
              case rel => exact ⟨j + 1, mm / B, by omega, by go_num, HE5.out, OI5.out, RP5.out, HB5.out, XR5.out⟩
end Go.Proofs.Ytbdkningngpgcaa
