/- The marks that the laws write into terms: markTermS and markTerm. No condition. -/
import Derived.Test.YtbdkningngpgcaaRows
import Derived.Test.YtbdkningngpgcaaDat
import Derived.Test.YtbdkningngpgcaaMarkText
import Derived.Test.YtbdkningngpgcaaNilS
import Derived.Deep.RegionWith
namespace Go.Proofs.Ytbdkningngpgcaa
open Go.ChangeShapes Go.WideShapes Go.ChangeAt Go.RowKit
namespace Fo
/-- a forest that bears the marks from a number on -/
def mkF : Fo → Nat → Fo
  | .nil, _ => .nil
  | .cons _ _ _ _ kd r, k => .cons (k : Int) ((k : Int) + 1) ((k : Int) + 1 + 1) (mk (k + 3)) (mkF kd (k + 4)) (mkF r (k + 4 + 4 * kd.nodes))
theorem mkF_len : ∀ (F : Fo) (k : Nat), (mkF F k).len = F.len
  | .nil, _ => rfl
  | .cons _ _ _ _ _ r, k => by simp only [mkF, len, mkF_len r]
theorem mkF_nodes : ∀ (F : Fo) (k : Nat), (mkF F k).nodes = F.nodes
  | .nil, _ => rfl
  | .cons _ _ _ _ kd r, k => by simp only [mkF, nodes, mkF_nodes kd, mkF_nodes r]
theorem app_td : ∀ (F : Fo) (j : Nat), (F.take j).app (F.drop j) = F
  | .nil, 0 => rfl
  | .nil, _ + 1 => rfl
  | .cons _ _ _ _ _ _, 0 => rfl
  | .cons _ _ _ _ _ r, j + 1 => by simp only [take, drop, app, app_td r j]
theorem nodes_app : ∀ (A B : Fo), (A.app B).nodes = A.nodes + B.nodes
  | .nil, B => by simp [app, nodes]
  | .cons _ _ _ _ _ r, B => by simp only [app, nodes, nodes_app r B]; omega
theorem mkF_app : ∀ (A B : Fo) (k : Nat), mkF (A.app B) k = (mkF A k).app (mkF B (k + 4 * A.nodes))
  | .nil, B, k => by simp [app, mkF, nodes]
  | .cons _ _ _ _ kd r, B, k => by
    simp only [app, mkF, mkF_app r B, nodes]
    rw [show k + 4 + 4 * kd.nodes + 4 * r.nodes = k + 4 * (1 + kd.nodes + r.nodes) by omega]
theorem app_assoc : ∀ A B C : Fo, (A.app B).app C = A.app (B.app C)
  | .nil, _, _ => rfl
  | .cons _ _ _ _ _ r, B, C => by simp only [app, app_assoc r]
/-- the first rows bear their marks, the others are as they were -/
def half (F : Fo) (k j : Nat) : Fo := (mkF (F.take j) k).app (F.drop j)
theorem half_zero (F : Fo) (k : Nat) : half F k 0 = F := by unfold half; rw [take_zero, drop_zero]; rfl
theorem half_len (F : Fo) (k j : Nat) : (half F k j).len = F.len := by
  unfold half
  rw [len_app, mkF_len, ← len_app, app_td]
theorem half_all (F : Fo) (k : Nat) : half F k F.len = mkF F k := by
  unfold half
  rw [take_all, drop_all]
  generalize mkF F k = G
  induction G with
  | nil => rfl
  | cons _ _ _ _ _ r _ ih => simp only [app, ih]
theorem half_at {F : Fo} {j : Nat} {op wd n : Int} {nm : ByteArray} {kd : Fo} (h : F.At j op wd n nm kd) (k : Nat) : half F k j = (mkF (F.take j) k).app (.cons op wd n nm kd (F.drop (j + 1))) := by
  unfold half
  rw [drop_at F j h]
theorem half_succ {F : Fo} {j : Nat} {op wd n : Int} {nm : ByteArray} {kd : Fo} (h : F.At j op wd n nm kd) {k c : Nat} (hc : c = k + 4 * (F.take j).nodes) : half F k (j + 1) = (mkF (F.take j) k).app (.cons (c : Int) ((c : Int) + 1) ((c : Int) + 1 + 1) (mk (c + 3)) (mkF kd (c + 4)) (F.drop (j + 1))) := by
  unfold half
  rw [take_at F j h, mkF_app, app_assoc, ← hc]
  rfl
theorem take_nodes {F : Fo} {j : Nat} {op wd n : Int} {nm : ByteArray} {kd : Fo} (h : F.At j op wd n nm kd) : (F.take (j + 1)).nodes = (F.take j).nodes + 1 + kd.nodes ∧ (F.take (j + 1)).nodes ≤ F.nodes := by
  refine ⟨?_, ?_⟩
  · rw [take_at F j h, nodes_app]; simp only [nodes]; omega
  · have := congrArg nodes (app_td F (j + 1))
    rw [nodes_app] at this
    omega
end Fo
def MarkEnd (F : Fo) (base k : Nat) (v : Value) (bs : List Nat) (w : World) (e : Ending) (w' : World) : Prop := e = .returned (.int .i64 ((k + 4 * F.nodes : Nat) : Int)) ∧ ((F.mkF k).cs 87).Has w' base 87 5 F.len v bs ∧ Apart bs w w'
def MarkC (F : Fo) : Prop := ∀ (v : Value) (k base : Nat) (bs : List Nat) (w : World), (F.cs 87).Has w base 87 5 F.len v bs → bs.Nodup → 1 ≤ k → k + 4 * F.nodes ≤ 1000000000000 → Calls Try.prog 78 #[v, .int .i64 k] w (MarkEnd F base k v bs w)
/-- a round of the marks begins and ends so -/
def MarkRel (F : Fo) (n base k : Nat) (v : Value) (bs : List Nat) (w : World) (j c : Nat) (wr : World) : Prop := c = k + 4 * (F.take j).nodes ∧ ((F.half k j).cs 87).Has wr base 87 5 n v bs ∧ Apart bs w wr
set_option maxRecDepth 100000 in
set_option maxHeartbeats 1000000 in
theorem mark_loop (F : Fo) (hF : F.AllK MarkC) : MarkC F := by
  intro v k base bs w hv hnd h1 hk
  have hml : maxLen = 9223372036854775807 := rfl
  have hnl := F.len_le
  have HV := Lib.hid hv
  have hv2 := hv
  obtain ⟨ys, b0, ho, hown, rfl⟩ := hv2
  rcases ho.2 with ⟨rfl, h0⟩ | ⟨g, cap, cur, rfl, _⟩
  · have hF0 : F = .nil := by
      cases F with
      | nil => rfl
      | cons op wd n nm kd r => simp [Fo.len] at h0
    subst hF0
    exact (mk0S _ _ _ _).mono fun e w' ⟨he, hw⟩ => by subst hw; exact ⟨he, HV.out, Apart.refl _ _⟩
  · have hln : F.len ≤ 1000000000000 := by omega
    have HK := Lib.hid hF
    have HND := Lib.hid hnd
    have HS := Lib.hid (Fo.at_some F)
    have HT := Lib.hid (fun j op wd n nm kd (h : F.At j op wd n nm kd) => Fo.take_nodes h)
    clear hF hv ho hown hnd
    generalize hbs : (Value.slice (some ⟨g, 0, none⟩) F.len cap).ownBlock.toList ++ b0 = bs at *
    clear hbs
    generalize hlen : F.len = n at *
    have HL := Lib.hid hlen
    clear hlen
    go_enter Try.func78, Try.ntmps78
    go_wp2
    go_loopw [1, 5] (fun m i wr => ∃ (j c : Nat), j ≤ n ∧ i = .int .i64 j ∧ m = .int .i64 c ∧ MarkRel F n base k (.slice (some ⟨g, 0, none⟩) n cap) bs w j c wr) (fun _ i _ => n - (intOf i).toNat)
    case atStart => exact ⟨0, k, Nat.zero_le _, rfl, rfl, by rw [Fo.take_zero]; rfl, by rw [Fo.half_zero]; exact HV.out, Apart.refl _ _⟩
    case round =>
      obtain ⟨j, c, hj, rfl, rfl, hc, hh, hap⟩ := hrel
      by_cases hjn : j < n
      · obtain ⟨op, wd, nn, nm, kd, hat⟩ := HS.out j hjn
        obtain ⟨ht1, ht2⟩ := HT.out _ _ _ _ _ _ hat
        have hck : c + 4 * kd.nodes + 4 ≤ 1000000000000 := by omega
        have hk1 := Fo.at_allK F j hat HK.out
        rw [Fo.half_at hat, Fo.cs_app, Fo.cs_cons] at hh
        obtain ⟨x1, x2, x3, b1, b2, b3, hbs, ho, o1, o2, o3, l1, l2⟩ := Cs.has_at hh
        have hnd := HND.out
        rw [hbs] at hnd
        obtain ⟨hnd2, hg2⟩ := Cs.nodup_mid hnd
        obtain ⟨sv, rfl, hkd⟩ := Fo.one_own o2
        rw [Fo.cs_len, Fo.mkF_len, Fo.len_take F j (by have := Fo.at_lt F j hat; omega)] at l1
        have hr := range_mid (own_range ho)
        rw [l1, Nat.zero_add] at hr
        have c0 : wr.cell? ⟨g, j * 5, none⟩ = some (.int .i64 op) := hr 0 _ rfl
        have c1 : wr.cell? ⟨g, j * 5 + 1, none⟩ = some (.int .i64 wd) := hr 1 _ rfl
        have c2 : wr.cell? ⟨g, j * 5 + 2, none⟩ = some (.int .i64 nn) := hr 2 _ rfl
        have c3 : wr.cell? ⟨g, j * 5 + 3, none⟩ = some (.string nm) := hr 3 _ rfl
        have c4 : wr.cell? ⟨g, j * 5 + 4, none⟩ = some sv := hr 4 _ rfl
        have f0 := ho.frozenAt (j * 5)
        have f1 := ho.frozenAt (j * 5 + 1)
        have f2 := ho.frozenAt (j * 5 + 2)
        have f3 := ho.frozenAt (j * 5 + 3)
        have f4 := ho.frozenAt (j * 5 + 4)
        have hgl := (ho.lt g rfl).2
        have A3 : Hid (Apart [g] wr (((wr.setCell ⟨g, j * 5, none⟩ (.int .i64 (c : Int))).setCell ⟨g, j * 5 + 1, none⟩ (.int .i64 ((c : Int) + 1))).setCell ⟨g, j * 5 + 2, none⟩ (.int .i64 ((c : Int) + 1 + 1)))) := Lib.hid ((((Apart.refl _ _).setCell (by simp) _).setCell (by simp) _).setCell (by simp) _)
        have O3 := Lib.hid (Cs.own_poke (i := 2) (Cs.own_poke (i := 1) (Cs.own_poke (i := 0) ho l1 (by simp) (.int .i64 (c : Int))) l1 (by simp) (.int .i64 ((c : Int) + 1))) l1 (by simp) (.int .i64 ((c : Int) + 1 + 1)))
        have HR := Lib.hid (And.intro hc (And.intro hbs (And.intro o1 (And.intro o3 (And.intro hkd (And.intro hnd (And.intro hnd2 (And.intro hg2 (And.intro l1 (And.intro hap (And.intro hat (And.intro ht1 hk1))))))))))))
        clear hr hc hbs o1 o2 o3 hkd hnd hnd2 hg2 l1 l2 hh hat ht1 ht2 hk1 ho hap
        obtain ⟨W, hW⟩ : ∃ W, W = (((wr.setCell ⟨g, j * 5, none⟩ (.int .i64 (c : Int))).setCell ⟨g, j * 5 + 1, none⟩ (.int .i64 ((c : Int) + 1))).setCell ⟨g, j * 5 + 2, none⟩ (.int .i64 ((c : Int) + 1 + 1))) := ⟨_, rfl⟩
        rw [← hW] at A3
        have O3' : Hid (W.ownsRow base 87 5 (.slice (some ⟨g, 0, none⟩) n cap) n (x1 ++ [.int .i64 (c : Int), .int .i64 ((c : Int) + 1), .int .i64 ((c : Int) + 1 + 1), .string nm, sv] ++ x3)) := Lib.hid (by rw [hW]; exact O3.out)
        have HW := Lib.hid hW
        clear O3 hW
        go_wp2_with fail
        rw [← HW.out, show ((c : Int) + 1 + 1 + 1) = ((c + 3 : Nat) : Int) by omega]
        clear HW c0 c1 c2 c3 c4 f0 f1 f2 f3 f4
        refine (mark_text (c + 3) (by omega) (by omega) _).mono ?_
        rintro e w1 ⟨rfl, hb1⟩
        have O4 := Lib.hid (own_keep O3'.out hb1)
        have A4 := Lib.hid (A3.out.trans (Apart.of_below (bs := [g]) hb1))
        have hr := range_mid (own_range O4.out)
        rw [HR.out.2.2.2.2.2.2.2.2.1, Nat.zero_add] at hr
        have c3 : w1.cell? ⟨g, j * 5 + 3, none⟩ = some (.string nm) := hr 3 _ rfl
        have c4 : w1.cell? ⟨g, j * 5 + 4, none⟩ = some sv := hr 4 _ rfl
        have f3 := O4.out.frozenAt (j * 5 + 3)
        clear hr hb1 A3 O3'
        obtain ⟨hc, hbs, o1, o3, hkd, hnd, hnd2, hg2, l1, hap, hat, ht1, hk1⟩ := HR.out
        have A5 := Lib.hid (A4.out.setCell (p := ⟨g, j * 5 + 3, none⟩) (by simp) (.string (mk (c + 3))))
        have O5 := Lib.hid (Cs.own_poke (i := 3) O4.out l1 (by simp) (.string (mk (c + 3))))
        have CM := Lib.hid (hk1 sv (c + 4) base b2 _ (hkd.apart A5.out (fun x hx hm => hg2 (by simp at hm; rw [← hm]; exact hx))) hnd2 (by omega) (by omega))
        clear hc hbs o1 o3 hkd hnd hnd2 hg2 l1 hap hat ht1 hk1 O4 A4
        unfold MarkEnd at CM
        go_wp2_with fail
        rw [show ((c : Int) + 3 + 1) = ((c + 4 : Nat) : Int) by omega]
        refine CM.out.mono ?_
        rintro e w2 ⟨rfl, hh2, hap2⟩
        have HN := Lib.hid (And.intro hh2 hap2)
        clear hh2 hap2 c3 c4 f3
        go_wp2
        go_roundw
        case rel =>
          obtain ⟨hc, hbs, o1, o3, hkd, hnd, hnd2, hg2, l1, hap, hat, ht1, hk1⟩ := HR.out
          obtain ⟨hh2, hap2⟩ := HN.out
          have hall : Apart (g :: b2) wr w2 := (A5.out.mono (by simp)).trans (hap2.mono (by simp; intro x hx; exact .inr hx))
          refine ⟨j + 1, c + 4 + 4 * kd.nodes, by omega, by go_num, by go_num, by rw [ht1]; omega, ?_, hap.trans (hall.mono (by rw [hbs]; simp; intro x hx; exact .inr (.inr (.inl hx))))⟩
          rw [Fo.half_succ hat hc, Fo.cs_app, Fo.cs_cons, hbs]
          refine Cs.has_back hnd o1 o3 (own_same O5.out (fun x hx => hap2.block x ?_ ?_)) (Fo.own_one (by rw [Fo.mkF_len]; exact hh2)) hall
          · exact (O5.out.lt x (by simpa using hx)).2
          · have : x = g := by simpa [Value.ownBlock] using hx
            rw [this]; exact hg2
        case measure => simp [intOf]; omega
      · have ej : j = n := by omega
        have HR := Lib.hid (And.intro hc (And.intro hh hap))
        clear hc hh hap
        go_wp2
        go_ret
        obtain ⟨hc, hh, hap⟩ := HR.out
        rw [ej, ← HL.out] at hc hh
        rw [Fo.half_all] at hh
        rw [Fo.take_all] at hc
        exact ⟨by rw [hc]; rfl, by rw [HL.out] at hh ⊢; exact hh, hap⟩
theorem mark_any : ∀ F : Fo, MarkC F := Fo.every mark_loop
end Go.Proofs.Ytbdkningngpgcaa
