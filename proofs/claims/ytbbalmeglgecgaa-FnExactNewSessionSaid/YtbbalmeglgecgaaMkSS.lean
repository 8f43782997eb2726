/- The marks that the laws write into slices of slices of ints, and their reading (markIntSS, heldIntSS). No condition. -/
import Derived.Test.YtbbalmeglgecgaaIntSSb
import Derived.Test.YtbbalmeglgecgaaMkInt
namespace Go.Proofs.Ytbbalmeglgecgaa
open Go.ChangeShapes Go.WideShapes Go.ChangeAt Go.RowKit
namespace IntSS
def mkrs (L : List (List Int)) (k : Nat) : List (List Int) := markL IntL.mkrs List.length L k
def tot (L : List (List Int)) : Nat := cntL List.length L
theorem mkrs_len (L : List (List Int)) (k : Nat) : (mkrs L k).length = L.length := markL_len _ _ L k
def half (L : List (List Int)) (k j : Nat) : List (List Int) := mkrs (L.take j) k ++ L.drop j
theorem half_zero (L : List (List Int)) (k : Nat) : half L k 0 = L := by simp [half, mkrs, markL]
theorem half_all (L : List (List Int)) (k : Nat) : half L k L.length = mkrs L k := by simp [half]
theorem half_at (L : List (List Int)) (k j : Nat) (h : j < L.length) : half L k j = mkrs (L.take j) k ++ (L[j] :: L.drop (j + 1)) := by
  unfold half
  rw [List.drop_eq_getElem_cons h]
theorem mkrs_app : ∀ (A B : List (List Int)) (k : Nat), mkrs (A ++ B) k = mkrs A k ++ mkrs B (k + tot A)
  | [], B, k => by simp [mkrs, markL, tot, cntL]
  | a :: A, B, k => by
    have := mkrs_app A B (k + a.length)
    unfold mkrs at *
    simp only [List.cons_append, markL, this]
    congr 2
    unfold tot cntL
    rw [List.map_cons, List.sum_cons, Nat.add_assoc]
theorem half_succ (L : List (List Int)) (k j c : Nat) (h : j < L.length) (hc : c = k + tot (L.take j)) : half L k (j + 1) = mkrs (L.take j) k ++ (IntL.mkrs L[j] c :: L.drop (j + 1)) := by
  unfold half
  rw [List.take_succ_eq_append_getElem h, mkrs_app, ← hc, List.append_assoc]
  rfl
theorem c_own {w : World} {base : Nat} {l : List Int} {xs : List Value} {bs : List Nat} : (c l).Own w base xs bs ↔ ∃ s, xs = [s] ∧ w.ownsRow base 3 1 s l.length (IntL.all l) ∧ bs = s.ownBlock.toList := by
  unfold c
  rw [Cs.own_sl]
  constructor
  · rintro ⟨s, xs', b1, b2, rfl, ⟨ys, b3, ho, hf, rfl⟩, ⟨rfl, rfl⟩, rfl⟩
    obtain ⟨rfl, rfl⟩ := Cs.own_flat.1 hf
    exact ⟨s, rfl, ho, by simp⟩
  · rintro ⟨s, rfl, ho, rfl⟩
    exact ⟨s, [], s.ownBlock.toList, [], rfl, ⟨_, [], ho, Cs.own_flat.2 ⟨rfl, rfl⟩, by simp⟩, ⟨rfl, rfl⟩, by simp⟩
end IntSS
set_option maxRecDepth 100000 in
theorem mark_IntSS_none (a : Option Addr) (c k : Nat) (w : World) : Calls Try.prog 44 #[.slice a 0 c, .int .i64 k] w fun e w' => e = .returned (.int .i64 k) ∧ w = w' := by
  go_enter Try.func44, Try.ntmps44
  go_wp2
  refine wp_loop_rounds 1 ?_
  rw [rounds_succ]
  go_wp2
  go_ret
  exact ⟨rfl, rfl⟩
def MarkIntSSEnd (L : List (List Int)) (base k : Nat) (v : Value) (bs : List Nat) (w : World) (e : Ending) (w' : World) : Prop := e = .returned (.int .i64 ((k + IntSS.tot L : Nat) : Int)) ∧ (Cs.rows IntSS.c (IntSS.mkrs L k)).Has w' base 58 1 L.length v bs ∧ Apart bs w w'
def MarkIntSSRel (L : List (List Int)) (n base k : Nat) (v : Value) (bs : List Nat) (w : World) (j c : Nat) (wr : World) : Prop := c = k + IntSS.tot (L.take j) ∧ (Cs.rows IntSS.c (IntSS.half L k j)).Has wr base 58 1 n v bs ∧ Apart bs w wr
set_option maxRecDepth 100000 in
set_option maxHeartbeats 2000000 in
theorem mark_IntSS (L : List (List Int)) (v : Value) (k base : Nat) (bs : List Nat) (w : World) (hv : (Cs.rows IntSS.c L).Has w base 58 1 L.length v bs) (hnd : bs.Nodup) (h1 : 1 ≤ k) (hk : k + IntSS.tot L ≤ 1000000000000) (hl : L.length ≤ 1000000000000) :
    Calls Try.prog 44 #[v, .int .i64 k] w (MarkIntSSEnd L base k v bs w) := by
  have hml : maxLen = 9223372036854775807 := rfl
  have HV := Lib.hid hv
  obtain ⟨ys, b0, ho, hown, hbs0⟩ := hv
  rcases ho.2 with ⟨rfl, h0⟩ | ⟨g, cap, cur, rfl, _⟩
  · have hL : L = [] := List.length_eq_zero_iff.1 h0
    subst hL
    exact (mark_IntSS_none _ _ _ _).mono fun e w' ⟨he, hw⟩ => by subst hw; exact ⟨he, HV.out, Apart.refl _ _⟩
  · have HND := Lib.hid hnd
    have HT := Lib.hid (fun j (h : j < L.length) => cntL_take List.length L j h)
    have HTL := Lib.hid (fun j => cntL_le List.length L j)
    have HA := Lib.hid (fun j (h : j < L.length) => IntSS.half_at L k j h)
    have HS := Lib.hid (fun j c (h : j < L.length) (hc : c = k + IntSS.tot (L.take j)) => IntSS.half_succ L k j c h hc)
    unfold MarkIntSSEnd
    clear ho hown hnd hbs0
    go_enter Try.func44, Try.ntmps44
    go_wp2
    go_loopw [1, 5] (fun m i wr => ∃ (j c : Nat), j ≤ L.length ∧ i = .int .i64 j ∧ m = .int .i64 c ∧ MarkIntSSRel L L.length base k (.slice (some ⟨g, 0, none⟩) L.length cap) bs w j c wr) (fun _ i _ => L.length - (intOf i).toNat)
    case atStart => exact ⟨0, k, Nat.zero_le _, rfl, rfl, by simp [IntSS.tot, cntL], by rw [IntSS.half_zero]; exact HV.out, Apart.refl _ _⟩
    case round =>
      obtain ⟨j, c, hj, rfl, rfl, hc, hh, hap⟩ := hrel
      by_cases hjn : j < L.length
      · have hjL := hjn
        have ht1 := HT.out j hjn
        have ht2 := HTL.out (j + 1)
        have hck : c + L[j].length ≤ 1000000000000 := by unfold IntSS.tot at hc hk; omega
        rw [HA.out j hjn, Cs.rows_app, Cs.rows] at hh
        obtain ⟨x1, x2, x3, b1, b2, b3, hbs, ho, o1, o2, o3, l1, l2⟩ := Cs.has_at hh
        have hnd := HND.out
        rw [hbs] at hnd
        obtain ⟨hnd2, hg2⟩ := Cs.nodup_mid hnd
        obtain ⟨sv, rfl, hsv, rfl⟩ := IntSS.c_own.1 o2
        rw [Cs.rows_len IntSS.c IntSS.c_len, IntSS.mkrs_len, List.length_take, Nat.min_eq_left (by omega), Nat.mul_one] at l1
        have hr := range_mid (own_range ho)
        rw [l1, Nat.zero_add] at hr
        have c0 : wr.cell? ⟨g, j, none⟩ = some sv := hr 0 _ rfl
        have hgl := (ho.lt g rfl).2
        have CM := Lib.hid (mark_Int L[j] sv c base wr hsv (by omega) hck)
        have hjj : (j : Int) < (L.length : Int) := by omega
        have HR := Lib.hid (And.intro hc (And.intro hbs (And.intro o1 (And.intro o3 (And.intro hnd (And.intro hg2 (And.intro hap (And.intro ht1 ho))))))))
        unfold MarkIntEnd at CM
        obtain ⟨sq, sc, rfl⟩ : ∃ sq sc, sv = .slice sq L[j].length sc := by
          rcases hsv.2 with ⟨rfl, h0⟩ | ⟨g, cap, _, rfl, _⟩
          · exact ⟨none, 0, by rw [h0]⟩
          · exact ⟨_, cap, rfl⟩
        clear hr hc hbs o1 o2 o3 hnd hnd2 hg2 l1 l2 hh ht1 ht2 ho hap hsv
        obtain ⟨lj, hlj⟩ : ∃ l, L[j] = l := ⟨_, rfl⟩
        rw [hlj] at CM c0 HR hck
        have HLJ := Lib.hid hlj
        clear hlj
        go_wp2_with fail
        refine CM.out.mono ?_
        rintro e w2 ⟨rfl, hh2, hap2⟩
        have HN := Lib.hid (And.intro hh2 hap2)
        clear hh2 hap2 c0
        go_wp2
        go_roundw
        case rel =>
          obtain ⟨hc, hbs, o1, o3, hnd, hg2, hap, ht1, ho⟩ := HR.out
          obtain ⟨hh2, hap2⟩ := HN.out
          have hall : Apart (g :: (Value.slice sq lj.length sc).ownBlock.toList) wr w2 := hap2.mono (by intro x hx; exact List.mem_cons_of_mem _ hx)
          refine ⟨j + 1, c + lj.length, by omega, by go_num, rfl, by unfold IntSS.tot at hc ⊢; rw [ht1, ← HLJ.out] at *; omega, ?_, hap.trans (hall.mono (by rw [hbs]; intro x hx; rcases List.mem_cons.1 hx with rfl | hx; exact List.mem_cons_self; exact List.mem_cons_of_mem _ (List.mem_append_right _ (List.mem_append_left _ hx))))⟩
          rw [HS.out j c hjn hc, Cs.rows_app, Cs.rows, hbs]
          refine Cs.has_back hnd o1 o3 (own_same ho (fun x hx => hap2.block x ?_ ?_)) (IntSS.c_own.2 ⟨_, rfl, ?_, rfl⟩) hall
          · exact (ho.lt x (by simpa using hx)).2
          · have : x = g := by simpa [Value.ownBlock] using hx
            rw [this]; exact hg2
          · have e := HLJ.out
            subst e
            have hml2 : (IntL.mkrs L[j] c).length = L[j].length := markL_len _ _ _ _
            rw [hml2]
            exact hh2
        case measure => simp [intOf]; omega
      · have ej : j = L.length := by omega
        have HR := Lib.hid (And.intro hc (And.intro hh hap))
        have hjj : ¬ ((j : Int) < (L.length : Int)) := by omega
        clear hc hh hap
        go_wp2
        go_ret
        obtain ⟨hc, hh, hap⟩ := HR.out
        rw [ej] at hc hh
        rw [IntSS.half_all] at hh
        rw [List.take_length] at hc
        exact ⟨by rw [hc]; first | rfl | (simp only [Int.natCast_add]; rfl), hh, hap⟩
theorem IntSS.mkrs_at (L : List (List Int)) (k j : Nat) (h : j < L.length) : (IntSS.mkrs L k)[j]'(by rw [IntSS.mkrs_len]; exact h) = IntL.mkrs L[j] (k + IntSS.tot (L.take j)) := markL_get _ _ L k j h
end Go.Proofs.Ytbbalmeglgecgaa
