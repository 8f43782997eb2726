/- Sessions: a copy of one that a law makes. No condition. -/
import Derived.Test.YtbbalmeglgecgaaSeO
namespace Go.Proofs.Ytbbalmeglgecgaa
open Go.ChangeShapes Go.WideShapes Go.ChangeAt Go.RowKit
structure SeS (w : World) (base : Nat) (L : List InsR) (T : List (List Int)) (s t : Value) : Prop where
  hs : Cs.Shows w base 4 s L.length (InsR.all L)
  ht : (Cs.rows IntSS.c T).Is w base 1 T.length t
theorem SeS.below {w w' : World} {base : Nat} {L : List InsR} {T : List (List Int)} {s t : Value} (h : SeS w base L T s t) (hb : Below w.heap.size w w') : SeS w' base L T s t := ⟨h.hs.below hb, h.ht.below hb⟩
theorem SeS.keep {w w' : World} {base : Nat} {L : List InsR} {T : List (List Int)} {s t : Value} (h : SeS w base L T s t) (hb : Below w.heap.size w w') : SeS w' base L T s t := h.below hb
theorem SeS.shows {w : World} {base : Nat} {L : List InsR} {T : List (List Int)} {s t : Value} (h : SeS w base L T s t) : SeS w 0 L T s t := ⟨h.hs.down (Nat.zero_le _), h.ht.down (Nat.zero_le _)⟩
def ToSeEnd (vw vm vi fu : Int) (L : List InsR) (T : List (List Int)) (w : World) (e : Ending) (w' : World) : Prop := ∃ g gt, e = .returned (.agg #[.int .i64 vw, .int .i64 vm, .int .i64 vi, .slice (some ⟨g, 0, none⟩) L.length L.length, .int .i64 fu, .slice (some ⟨gt, 0, none⟩) T.length T.length]) ∧ SeS w' 0 L T (.slice (some ⟨g, 0, none⟩) L.length L.length) (.slice (some ⟨gt, 0, none⟩) T.length T.length) ∧ Below w.heap.size w w'
set_option maxRecDepth 100000 in
set_option maxHeartbeats 4000000 in
theorem to_Session (vw vm vi fu : Int) (L : List InsR) (T : List (List Int)) (s t : Value) (w : World) (h : SeS w 0 L T s t) (hn : InsR.costs L ≤ 1048576) (hm : IntSS.costs T ≤ 1048576) :
    Calls Try.prog 15 #[.agg #[.int .i64 vw, .int .i64 vm, .int .i64 vi, s, .int .i64 fu, t]] w (ToSeEnd vw vm vi fu L T w) := by
  have hml : maxLen = 9223372036854775807 := rfl
  obtain ⟨hs, ht⟩ := h
  have KP := Lib.hid (fun W (hb : Below w.heap.size w W) => to_Program vw vm vi L _ W (hs.below hb) hn)
  have KT := Lib.hid (fun W (hb : Below w.heap.size w W) => to_Ts T _ W (ht.below hb) hm)
  unfold ToProgramEnd at KP
  unfold ToSeEnd
  obtain ⟨_, q, cap, rfl, _⟩ := hs
  obtain ⟨_, ⟨_, tq, tc, rfl, _⟩, _⟩ := ht
  clear hn hm
  obtain ⟨w0, hw0⟩ : ∃ w0, w0 = ((w.alloc (.cells #[.int .i64 vw, .int .i64 vm, .int .i64 vi, .slice q L.length cap, .int .i64 fu, .slice tq T.length tc] 36)).alloc (.cells #[.int .i64 0, .int .i64 0, .int .i64 0, .slice none 0 0, .int .i64 0, .slice none 0 0] 27)).alloc (.cells #[.int .i64 0, .int .i64 0, .int .i64 0, .slice none 0 0, .int .i64 0, .slice none 0 0] 27) := ⟨_, rfl⟩
  have HB0 := Lib.hid (show Below w.heap.size w w0 by rw [hw0]; exact (((Below.refl _ _).alloc (Nat.le_refl _) _).alloc (by simp) _).alloc (by simp; omega) _)
  have hs0 : w0.heap.size = w.heap.size + 3 := by rw [hw0]; simp
  have X0 := Lib.hid (show Cell6 w0 w.heap.size (.int .i64 vw) (.int .i64 vm) (.int .i64 vi) (.slice q L.length cap) (.int .i64 fu) (.slice tq T.length tc) by rw [hw0]; exact (cell6_alloc _ _ _ _ _ _ _ _).below (((Below.refl _ _).alloc (Nat.le_refl _) _).alloc (by simp) _))
  have E0 := Lib.hid (show w0.heap[w.heap.size + 1]? = some (.cells #[(.int .i64 0), (.int .i64 0), (.int .i64 0), (.slice none 0 0), (.int .i64 0), (.slice none 0 0)] 27 (0, 0)) by
    rw [hw0, heap_alloc_old _ _ (by simp)]
    have := heap_alloc_new (w.alloc (.cells #[.int .i64 vw, .int .i64 vm, .int .i64 vi, .slice q L.length cap, .int .i64 fu, .slice tq T.length tc] 36)) (.cells #[.int .i64 0, .int .i64 0, .int .i64 0, .slice none 0 0, .int .i64 0, .slice none 0 0] 27)
    rw [show (w.alloc (.cells #[.int .i64 vw, .int .i64 vm, .int .i64 vi, .slice q L.length cap, .int .i64 fu, .slice tq T.length tc] 36)).heap.size = w.heap.size + 1 by simp] at this
    exact this)
  have D0 := Lib.hid (show w0.heap[w.heap.size + 2]? = some (.cells #[(.int .i64 0), (.int .i64 0), (.int .i64 0), (.slice none 0 0), (.int .i64 0), (.slice none 0 0)] 27 (0, 0)) by
    rw [hw0]
    have := heap_alloc_new ((w.alloc (.cells #[.int .i64 vw, .int .i64 vm, .int .i64 vi, .slice q L.length cap, .int .i64 fu, .slice tq T.length tc] 36)).alloc (.cells #[.int .i64 0, .int .i64 0, .int .i64 0, .slice none 0 0, .int .i64 0, .slice none 0 0] 27)) (.cells #[.int .i64 0, .int .i64 0, .int .i64 0, .slice none 0 0, .int .i64 0, .slice none 0 0] 27)
    rw [show ((w.alloc (.cells #[.int .i64 vw, .int .i64 vm, .int .i64 vi, .slice q L.length cap, .int .i64 fu, .slice tq T.length tc] 36)).alloc (.cells #[.int .i64 0, .int .i64 0, .int .i64 0, .slice none 0 0, .int .i64 0, .slice none 0 0] 27)).heap.size = w.heap.size + 2 by simp] at this
    exact this)
  have HS0 := Lib.hid hs0
  clear hs0
  go_enter Try.func15, Try.ntmps15
  go_wp2_with fail
  rw [← hw0]
  clear hw0
  refine (KP.out _ HB0.out).mono ?_
  rintro e w1 ⟨g, rfl, hh, hb⟩
  have HP1 := Lib.hid hh
  have HB1 := Lib.hid (HB0.out.trans (hb.mono HB0.out.size))
  have X1 := Lib.hid (X0.out.below hb)
  have D1 := Lib.hid ((hb.block (w.heap.size + 2) (by have := HS0.out; omega)).trans D0.out)
  have E1 := Lib.hid ((hb.block (w.heap.size + 1) (by have := HS0.out; omega)).trans E0.out)
  have HZ1 := Lib.hid (show w.heap.size + 3 ≤ w1.heap.size by have := hb.size; have := HS0.out; omega)
  have HG := Lib.hid (own_lt hh (g := g) (by simp [Value.ownBlock]))
  clear hh hb
  obtain ⟨x0, x1, x2, x3, x4, x5⟩ := X1.out
  obtain ⟨d0, d1, d2, d3, d4, d5⟩ := cell6_row D1.out
  obtain ⟨f0, f1, f2, f3, f4, f5⟩ := froz6_row D1.out
  have hl1 : w.heap.size < w1.heap.size := by have := HZ1.out; omega
  have hl2 : w.heap.size + 2 < w1.heap.size := by have := HZ1.out; omega
  go_wp2_with fail
  clear x0 x1 x2 x3 x4 x5 d0 d1 d2 d3 d4 d5 f0 f1 f2 f3 f4 f5 hl1 hl2
  obtain ⟨w2, hw2⟩ : ∃ w2, w2 = (((((w1.setCell ⟨w.heap.size + 2, 0, none⟩ (.int .i64 vw)).setCell ⟨w.heap.size + 2, 1, none⟩ (.int .i64 vm)).setCell ⟨w.heap.size + 2, 2, none⟩ (.int .i64 vi)).setCell ⟨w.heap.size + 2, 3, none⟩ (.slice (some ⟨g, 0, none⟩) L.length L.length)).setCell ⟨w.heap.size + 2, 4, none⟩ (.int .i64 fu)) := ⟨_, rfl⟩
  rw [← hw2]
  have h1 : (w1.setCell ⟨w.heap.size + 2, 0, none⟩ (.int .i64 vw)).heap[w.heap.size + 2]? = some (.cells #[(.int .i64 vw), (.int .i64 0), (.int .i64 0), (.slice none 0 0), (.int .i64 0), (.slice none 0 0)] 27 (0, 0)) := heap_setCell_same w1 (w.heap.size + 2) 0 _ _ _ D1.out
  have h2 : ((w1.setCell ⟨w.heap.size + 2, 0, none⟩ (.int .i64 vw)).setCell ⟨w.heap.size + 2, 1, none⟩ (.int .i64 vm)).heap[w.heap.size + 2]? = some (.cells #[(.int .i64 vw), (.int .i64 vm), (.int .i64 0), (.slice none 0 0), (.int .i64 0), (.slice none 0 0)] 27 (0, 0)) := heap_setCell_same (w1.setCell ⟨w.heap.size + 2, 0, none⟩ (.int .i64 vw)) (w.heap.size + 2) 1 _ _ _ h1
  have h3 : (((w1.setCell ⟨w.heap.size + 2, 0, none⟩ (.int .i64 vw)).setCell ⟨w.heap.size + 2, 1, none⟩ (.int .i64 vm)).setCell ⟨w.heap.size + 2, 2, none⟩ (.int .i64 vi)).heap[w.heap.size + 2]? = some (.cells #[(.int .i64 vw), (.int .i64 vm), (.int .i64 vi), (.slice none 0 0), (.int .i64 0), (.slice none 0 0)] 27 (0, 0)) := heap_setCell_same ((w1.setCell ⟨w.heap.size + 2, 0, none⟩ (.int .i64 vw)).setCell ⟨w.heap.size + 2, 1, none⟩ (.int .i64 vm)) (w.heap.size + 2) 2 _ _ _ h2
  have h4 : ((((w1.setCell ⟨w.heap.size + 2, 0, none⟩ (.int .i64 vw)).setCell ⟨w.heap.size + 2, 1, none⟩ (.int .i64 vm)).setCell ⟨w.heap.size + 2, 2, none⟩ (.int .i64 vi)).setCell ⟨w.heap.size + 2, 3, none⟩ (.slice (some ⟨g, 0, none⟩) L.length L.length)).heap[w.heap.size + 2]? = some (.cells #[(.int .i64 vw), (.int .i64 vm), (.int .i64 vi), (.slice (some ⟨g, 0, none⟩) L.length L.length), (.int .i64 0), (.slice none 0 0)] 27 (0, 0)) := heap_setCell_same (((w1.setCell ⟨w.heap.size + 2, 0, none⟩ (.int .i64 vw)).setCell ⟨w.heap.size + 2, 1, none⟩ (.int .i64 vm)).setCell ⟨w.heap.size + 2, 2, none⟩ (.int .i64 vi)) (w.heap.size + 2) 3 _ _ _ h3
  have h5 : (((((w1.setCell ⟨w.heap.size + 2, 0, none⟩ (.int .i64 vw)).setCell ⟨w.heap.size + 2, 1, none⟩ (.int .i64 vm)).setCell ⟨w.heap.size + 2, 2, none⟩ (.int .i64 vi)).setCell ⟨w.heap.size + 2, 3, none⟩ (.slice (some ⟨g, 0, none⟩) L.length L.length)).setCell ⟨w.heap.size + 2, 4, none⟩ (.int .i64 fu)).heap[w.heap.size + 2]? = some (.cells #[(.int .i64 vw), (.int .i64 vm), (.int .i64 vi), (.slice (some ⟨g, 0, none⟩) L.length L.length), (.int .i64 fu), (.slice none 0 0)] 27 (0, 0)) := heap_setCell_same ((((w1.setCell ⟨w.heap.size + 2, 0, none⟩ (.int .i64 vw)).setCell ⟨w.heap.size + 2, 1, none⟩ (.int .i64 vm)).setCell ⟨w.heap.size + 2, 2, none⟩ (.int .i64 vi)).setCell ⟨w.heap.size + 2, 3, none⟩ (.slice (some ⟨g, 0, none⟩) L.length L.length)) (w.heap.size + 2) 4 _ _ _ h4
  have D2 := Lib.hid (show w2.heap[w.heap.size + 2]? = some (.cells #[(.int .i64 vw), (.int .i64 vm), (.int .i64 vi), (.slice (some ⟨g, 0, none⟩) L.length L.length), (.int .i64 fu), (.slice none 0 0)] 27 (0, 0)) by rw [hw2]; exact h5)
  have O2 := Lib.hid (show ∀ k, k ≠ w.heap.size + 2 → w2.heap[k]? = w1.heap[k]? from fun k hk => by rw [hw2]; repeat rw [heap_setCell_other _ _ _ _ hk])
  have HB2 := Lib.hid (show Below w.heap.size w w2 by
    rw [hw2]
    repeat (first | refine Below.setCell ?_ (by simp) _ | exact HB1.out))
  have HS2 := Lib.hid (show w2.heap.size = w1.heap.size by rw [hw2]; simp)
  clear hw2 h1 h2 h3 h4 h5
  refine (KT.out _ HB2.out).mono ?_
  rintro e w3 ⟨gt, B, rfl, hh, hb⟩
  have HT3 := Lib.hid hh
  have HB3 := Lib.hid (HB2.out.trans (hb.mono HB2.out.size))
  have D3 := Lib.hid ((hb.block (w.heap.size + 2) (by have := HS2.out; have := HZ1.out; omega)).trans D2.out)
  have E3 := Lib.hid ((hb.block (w.heap.size + 1) (by have := HS2.out; have := HZ1.out; omega)).trans ((O2.out _ (by omega)).trans E1.out))
  have HP3 := Lib.hid (own_keep (own_same HP1.out (fun k hk => O2.out k (by have := (own_lt HP1.out hk).1; have := HS0.out; omega))) hb)
  have HZ3 := Lib.hid (show w.heap.size + 3 ≤ w3.heap.size by have := hb.size; have := HS2.out; have := HZ1.out; omega)
  clear hh hb
  obtain ⟨d0, d1, d2, d3, d4, d5⟩ := cell6_row D3.out
  obtain ⟨f0, f1, f2, f3, f4, f5⟩ := froz6_row D3.out
  obtain ⟨e0, e1, e2, e3, e4, e5⟩ := cell6_row E3.out
  obtain ⟨g0, g1, g2, g3, g4, g5⟩ := froz6_row E3.out
  have hl1 : w.heap.size + 1 < w3.heap.size := by have := HZ3.out; omega
  have hl2 : w.heap.size + 2 < w3.heap.size := by have := HZ3.out; omega
  go_wp2
  clear d0 d1 d2 d3 d4 d5 f0 f1 f2 f3 f4 f5 e0 e1 e2 e3 e4 e5 g0 g1 g2 g3 g4 g5
  obtain ⟨w4, hw4⟩ : ∃ w4, w4 = (((((((w3.setCell ⟨w.heap.size + 2, 5, none⟩ (.slice (some ⟨gt, 0, none⟩) T.length T.length)).setCell ⟨w.heap.size + 1, 0, none⟩ (.int .i64 vw)).setCell ⟨w.heap.size + 1, 1, none⟩ (.int .i64 vm)).setCell ⟨w.heap.size + 1, 2, none⟩ (.int .i64 vi)).setCell ⟨w.heap.size + 1, 3, none⟩ (.slice (some ⟨g, 0, none⟩) L.length L.length)).setCell ⟨w.heap.size + 1, 4, none⟩ (.int .i64 fu)).setCell ⟨w.heap.size + 1, 5, none⟩ (.slice (some ⟨gt, 0, none⟩) T.length T.length)) := ⟨_, rfl⟩
  rw [← hw4]
  have k0 : (w3.setCell ⟨w.heap.size + 2, 5, none⟩ (.slice (some ⟨gt, 0, none⟩) T.length T.length)).heap[w.heap.size + 1]? = some (.cells #[(.int .i64 0), (.int .i64 0), (.int .i64 0), (.slice none 0 0), (.int .i64 0), (.slice none 0 0)] 27 (0, 0)) := (heap_setCell_other _ _ _ _ (by simp)).trans E3.out
  have k1 : ((w3.setCell ⟨w.heap.size + 2, 5, none⟩ (.slice (some ⟨gt, 0, none⟩) T.length T.length)).setCell ⟨w.heap.size + 1, 0, none⟩ (.int .i64 vw)).heap[w.heap.size + 1]? = some (.cells #[(.int .i64 vw), (.int .i64 0), (.int .i64 0), (.slice none 0 0), (.int .i64 0), (.slice none 0 0)] 27 (0, 0)) := heap_setCell_same (w3.setCell ⟨w.heap.size + 2, 5, none⟩ (.slice (some ⟨gt, 0, none⟩) T.length T.length)) (w.heap.size + 1) 0 _ _ _ k0
  have k2 : (((w3.setCell ⟨w.heap.size + 2, 5, none⟩ (.slice (some ⟨gt, 0, none⟩) T.length T.length)).setCell ⟨w.heap.size + 1, 0, none⟩ (.int .i64 vw)).setCell ⟨w.heap.size + 1, 1, none⟩ (.int .i64 vm)).heap[w.heap.size + 1]? = some (.cells #[(.int .i64 vw), (.int .i64 vm), (.int .i64 0), (.slice none 0 0), (.int .i64 0), (.slice none 0 0)] 27 (0, 0)) := heap_setCell_same ((w3.setCell ⟨w.heap.size + 2, 5, none⟩ (.slice (some ⟨gt, 0, none⟩) T.length T.length)).setCell ⟨w.heap.size + 1, 0, none⟩ (.int .i64 vw)) (w.heap.size + 1) 1 _ _ _ k1
  have k3 : ((((w3.setCell ⟨w.heap.size + 2, 5, none⟩ (.slice (some ⟨gt, 0, none⟩) T.length T.length)).setCell ⟨w.heap.size + 1, 0, none⟩ (.int .i64 vw)).setCell ⟨w.heap.size + 1, 1, none⟩ (.int .i64 vm)).setCell ⟨w.heap.size + 1, 2, none⟩ (.int .i64 vi)).heap[w.heap.size + 1]? = some (.cells #[(.int .i64 vw), (.int .i64 vm), (.int .i64 vi), (.slice none 0 0), (.int .i64 0), (.slice none 0 0)] 27 (0, 0)) := heap_setCell_same (((w3.setCell ⟨w.heap.size + 2, 5, none⟩ (.slice (some ⟨gt, 0, none⟩) T.length T.length)).setCell ⟨w.heap.size + 1, 0, none⟩ (.int .i64 vw)).setCell ⟨w.heap.size + 1, 1, none⟩ (.int .i64 vm)) (w.heap.size + 1) 2 _ _ _ k2
  have k4 : (((((w3.setCell ⟨w.heap.size + 2, 5, none⟩ (.slice (some ⟨gt, 0, none⟩) T.length T.length)).setCell ⟨w.heap.size + 1, 0, none⟩ (.int .i64 vw)).setCell ⟨w.heap.size + 1, 1, none⟩ (.int .i64 vm)).setCell ⟨w.heap.size + 1, 2, none⟩ (.int .i64 vi)).setCell ⟨w.heap.size + 1, 3, none⟩ (.slice (some ⟨g, 0, none⟩) L.length L.length)).heap[w.heap.size + 1]? = some (.cells #[(.int .i64 vw), (.int .i64 vm), (.int .i64 vi), (.slice (some ⟨g, 0, none⟩) L.length L.length), (.int .i64 0), (.slice none 0 0)] 27 (0, 0)) := heap_setCell_same ((((w3.setCell ⟨w.heap.size + 2, 5, none⟩ (.slice (some ⟨gt, 0, none⟩) T.length T.length)).setCell ⟨w.heap.size + 1, 0, none⟩ (.int .i64 vw)).setCell ⟨w.heap.size + 1, 1, none⟩ (.int .i64 vm)).setCell ⟨w.heap.size + 1, 2, none⟩ (.int .i64 vi)) (w.heap.size + 1) 3 _ _ _ k3
  have k5 : ((((((w3.setCell ⟨w.heap.size + 2, 5, none⟩ (.slice (some ⟨gt, 0, none⟩) T.length T.length)).setCell ⟨w.heap.size + 1, 0, none⟩ (.int .i64 vw)).setCell ⟨w.heap.size + 1, 1, none⟩ (.int .i64 vm)).setCell ⟨w.heap.size + 1, 2, none⟩ (.int .i64 vi)).setCell ⟨w.heap.size + 1, 3, none⟩ (.slice (some ⟨g, 0, none⟩) L.length L.length)).setCell ⟨w.heap.size + 1, 4, none⟩ (.int .i64 fu)).heap[w.heap.size + 1]? = some (.cells #[(.int .i64 vw), (.int .i64 vm), (.int .i64 vi), (.slice (some ⟨g, 0, none⟩) L.length L.length), (.int .i64 fu), (.slice none 0 0)] 27 (0, 0)) := heap_setCell_same (((((w3.setCell ⟨w.heap.size + 2, 5, none⟩ (.slice (some ⟨gt, 0, none⟩) T.length T.length)).setCell ⟨w.heap.size + 1, 0, none⟩ (.int .i64 vw)).setCell ⟨w.heap.size + 1, 1, none⟩ (.int .i64 vm)).setCell ⟨w.heap.size + 1, 2, none⟩ (.int .i64 vi)).setCell ⟨w.heap.size + 1, 3, none⟩ (.slice (some ⟨g, 0, none⟩) L.length L.length)) (w.heap.size + 1) 4 _ _ _ k4
  have k6 : (((((((w3.setCell ⟨w.heap.size + 2, 5, none⟩ (.slice (some ⟨gt, 0, none⟩) T.length T.length)).setCell ⟨w.heap.size + 1, 0, none⟩ (.int .i64 vw)).setCell ⟨w.heap.size + 1, 1, none⟩ (.int .i64 vm)).setCell ⟨w.heap.size + 1, 2, none⟩ (.int .i64 vi)).setCell ⟨w.heap.size + 1, 3, none⟩ (.slice (some ⟨g, 0, none⟩) L.length L.length)).setCell ⟨w.heap.size + 1, 4, none⟩ (.int .i64 fu)).setCell ⟨w.heap.size + 1, 5, none⟩ (.slice (some ⟨gt, 0, none⟩) T.length T.length)).heap[w.heap.size + 1]? = some (.cells #[(.int .i64 vw), (.int .i64 vm), (.int .i64 vi), (.slice (some ⟨g, 0, none⟩) L.length L.length), (.int .i64 fu), (.slice (some ⟨gt, 0, none⟩) T.length T.length)] 27 (0, 0)) := heap_setCell_same ((((((w3.setCell ⟨w.heap.size + 2, 5, none⟩ (.slice (some ⟨gt, 0, none⟩) T.length T.length)).setCell ⟨w.heap.size + 1, 0, none⟩ (.int .i64 vw)).setCell ⟨w.heap.size + 1, 1, none⟩ (.int .i64 vm)).setCell ⟨w.heap.size + 1, 2, none⟩ (.int .i64 vi)).setCell ⟨w.heap.size + 1, 3, none⟩ (.slice (some ⟨g, 0, none⟩) L.length L.length)).setCell ⟨w.heap.size + 1, 4, none⟩ (.int .i64 fu)) (w.heap.size + 1) 5 _ _ _ k5
  have E4 : w4.heap[w.heap.size + 1]? = some (.cells #[(.int .i64 vw), (.int .i64 vm), (.int .i64 vi), (.slice (some ⟨g, 0, none⟩) L.length L.length), (.int .i64 fu), (.slice (some ⟨gt, 0, none⟩) T.length T.length)] 27 (0, 0)) := by rw [hw4]; exact k6
  have O4 := Lib.hid (show ∀ k, k ≠ w.heap.size + 1 → k ≠ w.heap.size + 2 → w4.heap[k]? = w3.heap[k]? from fun k hk hk2 => by rw [hw4]; repeat (first | rw [heap_setCell_other _ _ _ _ hk] | rw [heap_setCell_other _ _ _ _ hk2]))
  have HB4 := Lib.hid (show Below w.heap.size w w4 by
    rw [hw4]
    repeat (first | refine Below.setCell ?_ (by simp) _ | exact HB3.out))
  clear hw4 k0 k1 k2 k3 k4 k5 k6
  obtain ⟨e0, e1, e2, e3, e4, e5⟩ := cell6_row E4
  refine bodyPost_ret (v := .agg #[.int .i64 vw, .int .i64 vm, .int .i64 vi, .slice (some ⟨g, 0, none⟩) L.length L.length, .int .i64 fu, .slice (some ⟨gt, 0, none⟩) T.length T.length]) (by simp [results, Try.results15, go_sem, e0, e1, e2, e3, e4, e5]) rfl ?_
  refine ⟨g, gt, rfl, ⟨?_, ?_⟩, HB4.out⟩
  · refine (Cs.shows_of_owns (own_same HP3.out fun k hk => O4.out k ?_ ?_)).down (Nat.zero_le _)
    · have := (own_lt HP1.out hk).1; have := HS0.out; omega
    · have := (own_lt HP1.out hk).1; have := HS0.out; omega
  · refine TsO.shows (HT3.out.same fun k hk => O4.out k ?_ ?_)
    · have := (HT3.out.lt k hk).1; have := HS2.out; have := HZ1.out; omega
    · have := (HT3.out.lt k hk).1; have := HS2.out; have := HZ1.out; omega
end Go.Proofs.Ytbbalmeglgecgaa
