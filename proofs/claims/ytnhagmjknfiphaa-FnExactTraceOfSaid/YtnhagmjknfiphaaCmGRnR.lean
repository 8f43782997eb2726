/- impl.RunProgram and impl.TraceOf over impl.run. No condition. Contracts of Go's library at this translation, each by one application of a theorem of the kit. No walk. -/
import Derived.Test.YtnhagmjknfiphaaCmRnI
import Derived.Test.YtnhagmjknfiphaaCmGOwAt
import Derived.Shelf.Strconv.Itoa0
import Derived.Shelf.Sort.Plain
import Derived.Ground.Names2Prog
import Derived.Shelf.Slices.CompactI
import Derived.Shelf.Slices.In.SortNone
import Derived.Test.YtnhagmjknfiphaaProg
namespace Go.Proofs.Ytnhagmjknfiphaa
open Go.ChangeShapes Go.WideShapes Go.ChangeAt Go.RowKit
set_option maxRecDepth 100000 in
set_option maxHeartbeats 4000000 in
theorem i_tell0 (pc : Int) (x : StR) (rq : Option Addr) (rc : Nat) (mq : Option Addr) (mc : Nat) (sq : Option Addr) (sc : Nat) (oq : Option Addr) (oc : Nat) (w : World) :
    Calls Try.prog 53 #[.int .i64 pc, .agg #[.int .i64 x.pc, .slice rq x.R.length rc, .slice mq x.M.length mc, .slice sq x.S.length sc, .int .i64 x.inn, .slice oq x.O.length oc, .int .i64 x.cd, .int .i64 x.st]] w fun e w' => e = .returned (.tuple #[]) ∧ Below w.heap.size w w' := by
  go_enter Try.func53, Try.ntmps53
  go_wp2
  refine bodyPost_end (v := .tuple #[]) (by simp [results, Try.results53, go_sem]) rfl ?_
  exact ⟨rfl, (Below.refl _ _).alloc (Nat.le_refl _) _⟩
set_option maxRecDepth 100000 in
theorem told0 (vw vm vi : Int) (L : List InsR) (I : List Int) (wa : World) : Told (fun _ B _ => B = []) 53 #[] vw vm vi L I wa where
  lt := fun h g hg => by rw [h] at hg; cases hg
  same := fun h _ _ => h
  no := fun h _ => h
  yes := fun x base rq rc mq mc sq sc oq oc h hb _ h1 h2 h3 ho _ => by
    refine (i_tell0 _ x rq rc mq mc sq sc oq oc _).mono ?_
    rintro e w' ⟨rfl, hb⟩
    exact ⟨rfl, Apart.of_below hb, [], rfl, fun g hg => by cases hg⟩
set_option maxRecDepth 100000 in
set_option maxHeartbeats 4000000 in
theorem i_runprog (vw vm vi : Int) (L : List InsR) (I : List Int) (f : Int) (sL li : Value) (w : World) (hs : Cs.Shows w 0 4 sL L.length (InsR.all L)) (hls : Cs.Shows w 0 1 li I.length (IntL.all I)) (hok : ∀ r ∈ L, r.Ok) (hL : L.length ≤ maxLen) (hl : I.length ≤ maxLen) :
    Calls Try.prog 27 #[.agg #[.int .i64 vw, .int .i64 vm, .int .i64 vi, sL], li, .int .i64 f] w (StEnd (rnV vw vm vi L I f) w) := by
  have hml : maxLen = 9223372036854775807 := rfl
  have KR := Lib.hid (fun W (hb : Below w.heap.size w W) => i_run (F := 53) (caps := #[]) vw vm vi L I f sL li W W (fun _ _ => rfl) (told0 vw vm vi L I W) (Below.refl _ _) [] rfl (hs.below hb) (hls.below hb) hok hL hl)
  obtain ⟨_, q, cap, rfl, _⟩ := hs
  obtain ⟨_, iq, ic, rfl, _⟩ := hls
  obtain ⟨w0, hw0⟩ : ∃ w0, w0 = (w.alloc (.cells #[.int .i64 vw, .int .i64 vm, .int .i64 vi, .slice q L.length cap] 30)).alloc (.cells #[.int .i64 0, .slice none 0 0, .slice none 0 0, .slice none 0 0, .int .i64 0, .slice none 0 0, .int .i64 0, .int .i64 0] 47) := ⟨_, rfl⟩
  have HB0 := Lib.hid (show Below w.heap.size w w0 by rw [hw0]; exact ((Below.refl _ _).alloc (Nat.le_refl _) _).alloc (by simp) _)
  have hs0 : w0.heap.size = w.heap.size + 2 := by rw [hw0]; simp
  have XR0 := Lib.hid (show w0.heap[w.heap.size]? = some (.cells #[.int .i64 vw, .int .i64 vm, .int .i64 vi, .slice q L.length cap] 30 (0, 0)) by rw [hw0, heap_alloc_old _ _ (by simp)]; exact heap_alloc_new _ _)
  have ZR0 := Lib.hid (show w0.heap[w.heap.size + 1]? = some (.cells #[.int .i64 0, .slice none 0 0, .slice none 0 0, .slice none 0 0, .int .i64 0, .slice none 0 0, .int .i64 0, .int .i64 0] 47 (0, 0)) by rw [hw0, ← show (w.alloc (.cells #[.int .i64 vw, .int .i64 vm, .int .i64 vi, .slice q L.length cap] 30)).heap.size = w.heap.size + 1 by simp]; exact heap_alloc_new _ _)
  obtain ⟨x0, x1, x2, x3⟩ := cell4_row XR0.out
  rw [hw0] at x0 x1 x2 x3
  go_enter Try.func27, Try.ntmps27
  go_wp2_with fail
  rw [← hw0]
  clear hw0 x0 x1 x2 x3
  refine (KR.out _ HB0.out).mono ?_
  rintro e w5 ⟨hb, -, rq, rc, mq, mc, sq, sc, oq, oc, rfl, ho⟩
  have HB5 := Lib.hid (HB0.out.trans (hb.mono HB0.out.size))
  have ZR5 := Lib.hid ((hb.block (w.heap.size + 1) (by omega)).trans ZR0.out)
  have O5 := Lib.hid (ho.base (base' := w.heap.size) (by omega))
  obtain ⟨x, hx⟩ : ∃ x, rnV vw vm vi L I f = x := ⟨_, rfl⟩
  have HX := Lib.hid hx
  rw [hx] at O5 ⊢
  clear hx hb ho hs0
  obtain ⟨z0, z1, z2, z3, z4, z5, z6, z7⟩ := cell8_row ZR5.out
  obtain ⟨f0, f1, f2, f3, f4, f5, f6, f7⟩ := froz8_row ZR5.out
  go_wp2
  obtain ⟨we, hwe⟩ : ∃ W9, W9 = ((((((((w5.setCell ⟨w.heap.size + 1, 0, none⟩ (.int .i64 x.pc)).setCell ⟨w.heap.size + 1, 1, none⟩ (.slice rq x.R.length rc)).setCell ⟨w.heap.size + 1, 2, none⟩ (.slice mq x.M.length mc)).setCell ⟨w.heap.size + 1, 3, none⟩ (.slice sq x.S.length sc)).setCell ⟨w.heap.size + 1, 4, none⟩ (.int .i64 x.inn)).setCell ⟨w.heap.size + 1, 5, none⟩ (.slice oq x.O.length oc)).setCell ⟨w.heap.size + 1, 6, none⟩ (.int .i64 x.cd)).setCell ⟨w.heap.size + 1, 7, none⟩ (.int .i64 x.st)) := ⟨_, rfl⟩
  have D2 := Lib.hid (show we.heap[w.heap.size + 1]? = some (.cells #[.int .i64 x.pc, .slice rq x.R.length rc, .slice mq x.M.length mc, .slice sq x.S.length sc, .int .i64 x.inn, .slice oq x.O.length oc, .int .i64 x.cd, .int .i64 x.st] 47 (0, 0)) by rw [hwe]; exact set8_row ZR5.out _ _ _ _ _ _ _ _)
  have BE := Lib.hid (show Below w.heap.size w we by rw [hwe]; exact set8_below HB5.out (by omega) _ _ _ _ _ _ _ _)
  have OE := Lib.hid (show StO we w.heap.size x _ _ _ _ by rw [hwe]; exact O5.out.set8 (O5.out.off (T := 47) (by decide) ZR5.out) _ _ _ _ _ _ _ _)
  rw [← hwe]
  clear hwe z0 z1 z2 z3 z4 z5 z6 z7
  obtain ⟨d0, d1, d2, d3, d4, d5, d6, d7⟩ := cell8_row D2.out
  refine bodyPost_ret (v := .agg #[.int .i64 x.pc, .slice rq x.R.length rc, .slice mq x.M.length mc, .slice sq x.S.length sc, .int .i64 x.inn, .slice oq x.O.length oc, .int .i64 x.cd, .int .i64 x.st]) (by simp [results, Try.results27, go_sem, d0, d1, d2, d3, d4, d5, d6, d7]) rfl ?_
  rw [HX.out]
  exact ⟨BE.out, rq, rc, mq, mc, sq, sc, oq, oc, rfl, OE.out⟩
/-- the list that a function value writes: the variable in the block g, and its row -/
def TrAt (V : Nat → List Int) (g base : Nat) (W : World) (B : List Nat) (j : Nat) : Prop := ∃ v, B = g :: v.ownBlock.toList ∧ W.heap[g]? = some (.cells #[v] 26 (0, 0)) ∧ base ≤ g ∧ W.ownsRow base 3 1 v (V j).length (IntL.all (V j))
theorem TrAt.lt {V : Nat → List Int} {g base : Nat} {W : World} {B : List Nat} {j : Nat} (h : TrAt V g base W B j) : ∀ k ∈ B, base ≤ k ∧ k < W.heap.size := by
  obtain ⟨v, rfl, hg, hb, ho⟩ := h
  intro k hk
  rcases List.mem_cons.1 hk with rfl | hk
  · exact ⟨hb, (Array.getElem?_eq_some_iff.1 hg).1⟩
  · exact own_lt ho hk
theorem TrAt.same {V : Nat → List Int} {g base : Nat} {W W' : World} {B : List Nat} {j : Nat} (h : TrAt V g base W B j) (hs : ∀ k ∈ B, W'.heap[k]? = W.heap[k]?) : TrAt V g base W' B j := by
  obtain ⟨v, rfl, hg, hb, ho⟩ := h
  exact ⟨v, rfl, (hs g List.mem_cons_self).trans hg, hb, own_same ho fun k hk => hs k (List.mem_cons_of_mem _ hk)⟩
theorem TrAt.next {V : Nat → List Int} {g base : Nat} {W : World} {B : List Nat} {j : Nat} (h : TrAt V g base W B j) (hv : V (j + 1) = V j) : TrAt V g base W B (j + 1) := by
  obtain ⟨v, hB, hg, hb, ho⟩ := h
  exact ⟨v, hB, hg, hb, by rw [hv]; exact ho⟩
/-- a number put behind the list -/
theorem TrAt.put {V : Nat → List Int} {g base : Nat} {W W1 : World} {v v' : Value} {j : Nat} {z : Int} (hg : W.heap[g]? = some (.cells #[v] 26 (0, 0))) (hb : base ≤ g) (ho : W.ownsRow base 3 1 v (V j).length (IntL.all (V j))) (hv : V (j + 1) = V j ++ [z])
    (hown : W1.ownsRow base 3 1 v' ((V j).length + 1) (IntL.all (V j) ++ [.int .i64 z])) (hgrow : (W.alloc (.cells #[.int .i64 z] 3)).grownBy W1 v.ownBlock) (hat : v'.ownBlock = v.ownBlock ∨ v'.ownBlock = some (W.heap.size + 1)) :
    TrAt V g base (W1.setCell ⟨g, 0, none⟩ v') (g :: v'.ownBlock.toList) (j + 1) ∧ Apart (g :: v.ownBlock.toList) W (W1.setCell ⟨g, 0, none⟩ v') ∧ ∀ k ∈ g :: v'.ownBlock.toList, k ∈ g :: v.ownBlock.toList ∨ W.heap.size ≤ k := by
  have hal : Below W.heap.size W (W.alloc (.cells #[.int .i64 z] 3)) := (Below.refl _ _).alloc (Nat.le_refl _) _
  have hgl : g < W.heap.size := (Array.getElem?_eq_some_iff.1 hg).1
  have hgn : g ∉ v.ownBlock.toList := own_off (T := 26) (by decide) ho hg
  have hg1 : W1.heap[g]? = some (.cells #[v] 26 (0, 0)) := (hgrow.block g (by simp; omega) (fun h => hgn (by rw [← h]; simp))).trans ((hal.block g hgl).trans hg)
  have hgn1 : g ∉ v'.ownBlock.toList := own_off (T := 26) (by decide) hown hg1
  refine ⟨⟨v', rfl, heap_setCell_same W1 g 0 _ _ _ hg1, hb, ?_⟩, ?_, ?_⟩
  · rw [hv, List.length_append, IntL.all_map, List.map_append, ← IntL.all_map]
    exact own_same hown fun k hk => heap_setCell_other _ _ _ _ (fun e => hgn1 (by have e : k = g := e; rw [← e]; exact hk))
  · exact ((Apart.of_below hal).grown hgrow (fun k hk => .inl (List.mem_cons_of_mem _ (by rw [hk]; simp)))).setCell (p := ⟨g, 0, none⟩) List.mem_cons_self _
  · intro k hk
    rcases List.mem_cons.1 hk with rfl | hk
    · exact .inl List.mem_cons_self
    · rcases hat with h | h
      · exact .inl (List.mem_cons_of_mem _ (by rw [← h]; exact hk))
      · rw [h] at hk
        simp at hk
        exact .inr (by omega)
set_option maxRecDepth 100000 in
set_option maxHeartbeats 4000000 in
theorem i_tell1 (V : Nat → List Int) (g base : Nat) (B : List Nat) (j : Nat) (pc : Int) (x : StR) (rq : Option Addr) (rc : Nat) (mq : Option Addr) (mc : Nat) (sq : Option Addr) (sc : Nat) (oq : Option Addr) (oc : Nat) (w : World) (h : TrAt V g base w B j) (hbase : base ≤ w.heap.size) (hv : V (j + 1) = V j ++ [pc]) (hl : (V j).length ≤ 400) :
    Calls Try.prog 54 #[.int .i64 pc, .agg #[.int .i64 x.pc, .slice rq x.R.length rc, .slice mq x.M.length mc, .slice sq x.S.length sc, .int .i64 x.inn, .slice oq x.O.length oc, .int .i64 x.cd, .int .i64 x.st], .pointer (some ⟨g, 0, none⟩)] w fun e w' => e = .returned (.tuple #[]) ∧ Apart B w w' ∧ ∃ B', TrAt V g base w' B' (j + 1) ∧ ∀ k ∈ B', k ∈ B ∨ w.heap.size ≤ k := by
  have hml : maxLen = 9223372036854775807 := rfl
  obtain ⟨i9, hi9, hz9, hzs9, hzb9⟩ := info_parts zero_Int
  obtain ⟨v, rfl, hg, hb, ho⟩ := h
  obtain ⟨tq, tc, rfl⟩ := own_slc ho
  obtain ⟨w0, hw0⟩ : ∃ w0, w0 = w.alloc (.cells #[.int .i64 x.pc, .slice rq x.R.length rc, .slice mq x.M.length mc, .slice sq x.S.length sc, .int .i64 x.inn, .slice oq x.O.length oc, .int .i64 x.cd, .int .i64 x.st] 47) := ⟨_, rfl⟩
  have hb0 : Below w.heap.size w w0 := by rw [hw0]; exact (Below.refl _ _).alloc (Nat.le_refl _) _
  have HG0 := Lib.hid ((hb0.block g (Array.getElem?_eq_some_iff.1 hg).1).trans hg)
  have HO0 := Lib.hid (own_keep ho hb0)
  have HB0 := Lib.hid hb0
  have hs0 := hb0.size
  have c0 : w0.cell? ⟨g, 0, none⟩ = some (.slice tq (V j).length tc) := cell_of_row w0 g 0 _ _ _ HG0.out
  clear hg ho hb0
  rw [hw0] at c0
  go_enter Try.func54, Try.ntmps54
  go_upto_region 1 with fail
  rw [← hw0] at c0 ⊢
  clear hw0
  go_wp2_with (at_builtin; refine wpList_append_own_at _ rfl _ _ 26 rfl base 3 i9 (.int .i64 0) 1 8 Try.underlying26 hi9 hz9 hzs9 hzb9 rfl (by decide) (.slice tq (V j).length tc) (V j).length _ rfl (own_keep HO0.out ((Below.refl _ _).alloc (Nat.le_refl _) _)) _ 1 1 [.int .i64 pc] rfl rfl ?c1 ?c2 ?c3 ?c4 ?c5 ?_)
  case c1 => exact cell_one_new _ _ _
  case c2 => intro u hu; simp at hu; subst hu; rfl
  case c3 => omega
  case c4 => omega
  case c5 => simp; omega
  intro v' w1 hown hgrow _ hat
  obtain ⟨nq, nc, rfl⟩ := own_slc hown
  obtain ⟨hp1, hp2, hp3⟩ := TrAt.put HG0.out hb HO0.out hv hown hgrow hat
  have hgn : g ∉ (Value.slice tq (V j).length tc).ownBlock.toList := own_off (T := 26) (by decide) HO0.out HG0.out
  have hal : Below w0.heap.size w0 (w0.alloc (.cells #[.int .i64 pc] 3)) := (Below.refl _ _).alloc (Nat.le_refl _) _
  have hgl : g < w0.heap.size := (Array.getElem?_eq_some_iff.1 HG0.out).1
  have hg1 : w1.heap[g]? = some (.cells #[.slice tq (V j).length tc] 26 (0, 0)) := (hgrow.block g (by simp; omega) (fun h => hgn (by rw [← h]; simp))).trans ((hal.block g hgl).trans HG0.out)
  have P1 := Lib.hid hp1
  have P2 := Lib.hid hp2
  have P3 := Lib.hid hp3
  have c1 := cell_of_row w1 g 0 _ _ _ hg1
  have f1 := frozen_of_row w1 g 0 _ _ hg1
  clear hp1 hp2 hp3 hown hgrow hat hal hgn hg1 c0
  go_wp2
  refine bodyPost_end (v := .tuple #[]) (by simp [results, Try.results54, go_sem]) rfl ?_
  exact ⟨rfl, (Apart.of_below HB0.out).trans P2.out, _, P1.out, fun k hk => (P3.out k hk).imp id (fun h => by omega)⟩
theorem rt_eq (vw vm vi : Int) (L : List InsR) (I : List Int) (f : Int) : rtV vw vm vi L I f = trN vw vm vi L I (rnS vw vm vi L I f) := by
  unfold rtV rnS
  split <;> rfl
theorem told1 (vw vm vi : Int) (L : List InsR) (I : List Int) (g : Nat) (wa : World) : Told (TrAt (trN vw vm vi L I) g wa.heap.size) 54 #[.pointer (some ⟨g, 0, none⟩)] vw vm vi L I wa where
  lt := fun h => h.lt
  same := fun h hs _ => h.same hs
  no := fun {W B j} h hb => h.next (by show (if _ then _ else _) = _; rw [hb]; rfl)
  yes := fun {W B j} x base rq rc mq mc sq sc oq oc h hb _ h1 h2 h3 ho _ => i_tell1 _ g wa.heap.size B j _ x rq rc mq mc sq sc oq oc W h hb.size (by show (if _ then _ else _) = _; rw [h1]; rfl) (by have := trN_len (vw := vw) (vm := vm) (vi := vi) (L := L) (I := I) j; omega)
set_option maxRecDepth 100000 in
set_option maxHeartbeats 4000000 in
theorem i_traceof (vw vm vi : Int) (L : List InsR) (I : List Int) (f : Int) (sL li : Value) (w : World) (hs : Cs.Shows w 0 4 sL L.length (InsR.all L)) (hls : Cs.Shows w 0 1 li I.length (IntL.all I)) (hok : ∀ r ∈ L, r.Ok) (hL : L.length ≤ maxLen) (hl : I.length ≤ maxLen) :
    Calls Try.prog 32 #[.agg #[.int .i64 vw, .int .i64 vm, .int .i64 vi, sL], li, .int .i64 f] w (NxOwn (rtV vw vm vi L I f) w) := by
  have hml : maxLen = 9223372036854775807 := rfl
  have KR := Lib.hid (fun W (hb : Below w.heap.size w W) g (hg : W.heap[g]? = some (.cells #[.slice none 0 0] 26 (0, 0))) (hgw : w.heap.size ≤ g) => i_run (F := 54) (caps := #[.pointer (some ⟨g, 0, none⟩)]) vw vm vi L I f sL li w W (fun _ _ => rfl) (told1 vw vm vi L I g w) hb [g] ⟨.slice none 0 0, by simp [Value.ownBlock], hg, hgw, World.ownsRow_nil _ _ _ _⟩ hs hls hok hL hl)
  obtain ⟨_, q, cap, rfl, _⟩ := hs
  obtain ⟨_, iq, ic, rfl, _⟩ := hls
  obtain ⟨w0, hw0⟩ : ∃ w0, w0 = (w.alloc (.cells #[.int .i64 vw, .int .i64 vm, .int .i64 vi, .slice q L.length cap] 30)).alloc (.cells #[.slice none 0 0] 26) := ⟨_, rfl⟩
  have HB0 := Lib.hid (show Below w.heap.size w w0 by rw [hw0]; exact ((Below.refl _ _).alloc (Nat.le_refl _) _).alloc (by simp) _)
  have XR0 := Lib.hid (show w0.heap[w.heap.size]? = some (.cells #[.int .i64 vw, .int .i64 vm, .int .i64 vi, .slice q L.length cap] 30 (0, 0)) by rw [hw0, heap_alloc_old _ _ (by simp)]; exact heap_alloc_new _ _)
  have TR0 := Lib.hid (show w0.heap[w.heap.size + 1]? = some (.cells #[.slice none 0 0] 26 (0, 0)) by rw [hw0, ← show (w.alloc (.cells #[.int .i64 vw, .int .i64 vm, .int .i64 vi, .slice q L.length cap] 30)).heap.size = w.heap.size + 1 by simp]; exact heap_alloc_new _ _)
  have KX := Lib.hid (KR.out w0 HB0.out (w.heap.size + 1) TR0.out (Nat.le_succ _))
  clear KR
  obtain ⟨x0, x1, x2, x3⟩ := cell4_row XR0.out
  rw [hw0] at x0 x1 x2 x3
  go_enter Try.func32, Try.ntmps32
  go_wp2_with fail
  rw [← hw0]
  clear hw0 x0 x1 x2 x3
  refine KX.out.mono ?_
  rintro e w5 ⟨hb, ⟨B, v, hB, hg, hgw, ho⟩, rq, rc, mq, mc, sq, sc, oq, oc, rfl, -⟩
  have HB5 := Lib.hid hb
  obtain ⟨tq, tc, rfl⟩ := own_slc ho
  have O5 := Lib.hid ho
  have c0 := cell_of_row w5 (w.heap.size + 1) 0 _ _ _ hg
  have hs5 : w.heap.size + 1 < w5.heap.size := (Array.getElem?_eq_some_iff.1 hg).1
  clear hb hB hg ho
  go_wp2
  go_ret
  rw [rt_eq]
  exact ⟨HB5.out, tq, tc, rfl, O5.out⟩
end Go.Proofs.Ytnhagmjknfiphaa
namespace Go.Proofs
open Go.Shelf
def Try.lays189_ren : Go.Shelf.Ren := ⟨fun | 189 => 70 | 125 => 86 | 257 => 85 | 128 => 114 | 129 => 115 | 294 => 105 | 295 => 106 | 296 => 107 | 297 => 108 | 298 => 109 | 299 => 110 | 216 => 111 | 300 => 112 | 301 => 113 | 328 => 120 | 329 => 121 | 330 => 122 | 331 => 123 | 332 => 124 | 215 => 125 | 343 => 131 | n => n, fun | 28 => 26 | 3 => 3 | 46 => 95 | 0 => 0 | 51 => 107 | 53 => 109 | 4 => 4 | 183 => 101 | 182 => 100 | 131 => 104 | 5 => 5 | 9 => 9 | 218 => 110 | 222 => 114 | 228 => 116 | 229 => 117 | n => n, fun | n => n⟩
theorem Try.lays189 : Go.Proofs.Lays.n189 Try.prog Try.lays189_ren := {
  mixed := by kernel_rfl
  f125 := Try.func86.trans (congrArg some (by kernel_rfl))
  f128 := Try.func114.trans (congrArg some (by kernel_rfl))
  f129 := Try.func115.trans (congrArg some (by kernel_rfl))
  f189 := Try.func70.trans (congrArg some (by kernel_rfl))
  f215 := Try.func125.trans (congrArg some (by kernel_rfl))
  f216 := Try.func111.trans (congrArg some (by kernel_rfl))
  f257 := Try.func85.trans (congrArg some (by kernel_rfl))
  f294 := Try.func105.trans (congrArg some (by kernel_rfl))
  f295 := Try.func106.trans (congrArg some (by kernel_rfl))
  f296 := Try.func107.trans (congrArg some (by kernel_rfl))
  f297 := Try.func108.trans (congrArg some (by kernel_rfl))
  f298 := Try.func109.trans (congrArg some (by kernel_rfl))
  f299 := Try.func110.trans (congrArg some (by kernel_rfl))
  f300 := Try.func112.trans (congrArg some (by kernel_rfl))
  f301 := Try.func113.trans (congrArg some (by kernel_rfl))
  f328 := Try.func120.trans (congrArg some (by kernel_rfl))
  f329 := Try.func121.trans (congrArg some (by kernel_rfl))
  f330 := Try.func122.trans (congrArg some (by kernel_rfl))
  f331 := Try.func123.trans (congrArg some (by kernel_rfl))
  f332 := Try.func124.trans (congrArg some (by kernel_rfl))
  f343 := Try.func131.trans (congrArg some (by kernel_rfl))
  t0 := Try.underlying0
  a0 := Try.isAgg0
  z0 := Try.sizeOf0
  v0 := Try.zeroValue0
  t3 := Try.underlying3
  a3 := Try.isAgg3
  z3 := Try.sizeOf3
  v3 := Try.zeroValue3
  t4 := Try.underlying4
  a4 := Try.isAgg4
  z4 := Try.sizeOf4
  v4 := Try.zeroValue4
  t5 := Try.underlying5
  a5 := Try.isAgg5
  z5 := Try.sizeOf5
  v5 := Try.zeroValue5
  t9 := Try.underlying9
  a9 := Try.isAgg9
  z9 := Try.sizeOf9
  v9 := Try.zeroValue9
  t28 := Try.underlying26
  a28 := Try.isAgg26
  z28 := Try.sizeOf26
  v28 := Try.zeroValue26
  t46 := Try.underlying95
  a46 := Try.isAgg95
  z46 := Try.sizeOf95
  v46 := Try.zeroValue95
  t51 := Try.underlying107
  a51 := Try.isAgg107
  z51 := Try.sizeOf107
  v51 := Try.zeroValue107
  t53 := Try.underlying109
  a53 := Try.isAgg109
  z53 := Try.sizeOf109
  v53 := Try.zeroValue109
  t131 := Try.underlying104
  a131 := Try.isAgg104
  z131 := Try.sizeOf104
  v131 := Try.zeroValue104
  t182 := Try.underlying100
  a182 := Try.isAgg100
  z182 := Try.sizeOf100
  v182 := Try.zeroValue100
  t183 := Try.underlying101
  a183 := Try.isAgg101
  z183 := Try.sizeOf101
  v183 := Try.zeroValue101
  t218 := Try.underlying110
  a218 := Try.isAgg110
  z218 := Try.sizeOf110
  v218 := Try.zeroValue110
  t222 := Try.underlying114
  a222 := Try.isAgg114
  z222 := Try.sizeOf114
  v222 := Try.zeroValue114
  t228 := Try.underlying116
  a228 := Try.isAgg116
  z228 := Try.sizeOf116
  v228 := Try.zeroValue116
  t229 := Try.underlying117
  a229 := Try.isAgg117
  z229 := Try.sizeOf117
  v229 := Try.zeroValue117 }
open Go.Sort Go.RowKit in
theorem Try.slices_Sort_int (blk off cap : Nat) (zs : List Int) (w : World) (hH : Holds (Value.int .i64) w blk off zs.toArray) (hblk : blk < w.heap.size) (hsz : zs.length < 4611686018427387904) :
    Calls Try.prog 70 #[.slice (some ⟨blk, off, none⟩) zs.length cap] w fun e w' =>
      e = .returned (.tuple #[]) ∧ ∃ n os, w' = grow (putRow (Value.int .i64) (Sort.ahead w n) blk off (zs.mergeSort fun x y => decide (x ≤ y)).toArray) os := Any.slices_Sort_int Try.lays189 blk off cap zs w hH hblk hsz
def Try.laysNm220_ren : Go.Shelf.Ren := ⟨fun | 20 => 71 | n => n, fun | 22 => 26 | 3 => 3 | 4 => 4 | 0 => 0 | n => n, fun | n => n⟩
theorem Try.laysNm220 : Go.Proofs.Lays2.n20 Try.prog Try.laysNm220_ren := {
  mixed := by kernel_rfl
  f20 := Try.func71.trans (congrArg some (by kernel_rfl))
  t0 := Try.underlying0
  a0 := Try.isAgg0
  z0 := Try.sizeOf0
  v0 := Try.zeroValue0
  t3 := Try.underlying3
  a3 := Try.isAgg3
  z3 := Try.sizeOf3
  v3 := Try.zeroValue3
  t4 := Try.underlying4
  a4 := Try.isAgg4
  z4 := Try.sizeOf4
  v4 := Try.zeroValue4
  t22 := Try.underlying26
  a22 := Try.isAgg26
  z22 := Try.sizeOf26
  v22 := Try.zeroValue26
  i3 := by kernel_rfl }
open Go.RowKit Go.Lib Go.Sort in
theorem Try.slices_Compact_int (blk off cap : Nat) (zs : List Int) (w : World) (hH : Holds (Value.int .i64) w blk off zs.toArray) (hsz : zs.length ≤ 9223372036854775807) (hcap : zs.length ≤ cap) :
    Calls Try.prog 71 #[.slice (some ⟨blk, off, none⟩) zs.length cap] w fun e w' => e = .returned (.slice (some ⟨blk, off, none⟩) (Lib.compact zs).length cap) ∧ ∃ q, w' = putRow (Value.int .i64) (Sort.ahead w q) blk off (Lib.compact zs ++ List.replicate (zs.length - (Lib.compact zs).length) 0).toArray := Any.slices_Compact_int Try.laysNm220 blk off cap zs w hH hsz hcap
open Go.RowKit Go.Lib Go.Sort in
theorem Try.slices_Compact_int_empty (a : Option Addr) (cap : Nat) (w : World) :
    Calls Try.prog 71 #[.slice a 0 cap] w fun e w' => e = .returned (.slice a 0 cap) ∧ w' = w := Any.slices_Compact_int_empty Try.laysNm220 a cap w
open Go.RowKit Go.Sort in
theorem Try.slices_Sort_int_none (p : Option Addr) (cap : Nat) (w : World) :
    Calls Try.prog 70 #[.slice p 0 cap] w fun e w' => e = .returned (.tuple #[]) ∧ w' = w := Any.slices_Sort_int_none Try.lays189 p cap w
end Go.Proofs
