/- The marks that the laws write into terms: markTermS and markTerm. No condition. The marks that the laws write into a path: markPath. No condition. The marks that the laws write into slices of Ins, and their reading: markInsS. No condition. -/
import Derived.Test.YthmababifgaejaaGreatDoorRows
import Derived.Test.YthmababifgaejaaGreatDoorEmGDat
import Derived.Test.YthmababifgaejaaGreatDoorEmGHdState
import Derived.Deep.RegionWith
import Derived.Test.YthmababifgaejaaGreatDoorEmPath
import Derived.Test.YthmababifgaejaaGreatDoorEmGEpI
import Derived.Test.YthmababifgaejaaGreatDoorEmGTmM
namespace Go.Proofs.YthmababifgaejaaGreatDoor
open Go.ChangeShapes Go.WideShapes Go.ChangeAt Go.RowKit
namespace Fo
/-- a forest that bears the marks from a number on -/
def mkF : Fo → Nat → Fo
  | .nil, _ => .nil
  | .cons _ _ _ _ kd r, k => .cons (k : Int) ((k : Int) + 1) ((k : Int) + 1 + 1) (mk (k + 3)) (mkF kd (k + 4)) (mkF r (k + 4 + 4 * kd.nodes))
theorem mkF_len : ∀ (F : Fo) (k : Nat), (mkF F k).len = F.len
  | .nil, _ => rfl
  | .cons _ _ _ _ _ r, k => by simp only [mkF, len, mkF_len r]
theorem mkF_nodes : ∀ (F : Fo) (k : Nat), (mkF F k).nodes = F.nodes
  | .nil, _ => rfl
  | .cons _ _ _ _ kd r, k => by simp only [mkF, nodes, mkF_nodes kd, mkF_nodes r]
theorem app_td : ∀ (F : Fo) (j : Nat), (F.take j).app (F.drop j) = F
  | .nil, 0 => rfl
  | .nil, _ + 1 => rfl
  | .cons _ _ _ _ _ _, 0 => rfl
  | .cons _ _ _ _ _ r, j + 1 => by simp only [take, drop, app, app_td r j]
theorem nodes_app : ∀ (A B : Fo), (A.app B).nodes = A.nodes + B.nodes
  | .nil, B => by simp [app, nodes]
  | .cons _ _ _ _ _ r, B => by simp only [app, nodes, nodes_app r B]; omega
theorem mkF_app : ∀ (A B : Fo) (k : Nat), mkF (A.app B) k = (mkF A k).app (mkF B (k + 4 * A.nodes))
  | .nil, B, k => by simp [app, mkF, nodes]
  | .cons _ _ _ _ kd r, B, k => by
    simp only [app, mkF, mkF_app r B, nodes]
    rw [show k + 4 + 4 * kd.nodes + 4 * r.nodes = k + 4 * (1 + kd.nodes + r.nodes) by omega]
theorem app_assoc : ∀ A B C : Fo, (A.app B).app C = A.app (B.app C)
  | .nil, _, _ => rfl
  | .cons _ _ _ _ _ r, B, C => by simp only [app, app_assoc r]
/-- the first rows bear their marks, the others are as they were -/
def half (F : Fo) (k j : Nat) : Fo := (mkF (F.take j) k).app (F.drop j)
theorem half_zero (F : Fo) (k : Nat) : half F k 0 = F := by unfold half; rw [take_zero, drop_zero]; rfl
theorem half_len (F : Fo) (k j : Nat) : (half F k j).len = F.len := by
  unfold half
  rw [len_app, mkF_len, ← len_app, app_td]
theorem half_all (F : Fo) (k : Nat) : half F k F.len = mkF F k := by
  unfold half
  rw [take_all, drop_all]
  generalize mkF F k = G
  induction G with
  | nil => rfl
  | cons _ _ _ _ _ r _ ih => simp only [app, ih]
theorem half_at {F : Fo} {j : Nat} {op wd n : Int} {nm : ByteArray} {kd : Fo} (h : F.At j op wd n nm kd) (k : Nat) : half F k j = (mkF (F.take j) k).app (.cons op wd n nm kd (F.drop (j + 1))) := by
  unfold half
  rw [drop_at F j h]
theorem half_succ {F : Fo} {j : Nat} {op wd n : Int} {nm : ByteArray} {kd : Fo} (h : F.At j op wd n nm kd) {k c : Nat} (hc : c = k + 4 * (F.take j).nodes) : half F k (j + 1) = (mkF (F.take j) k).app (.cons (c : Int) ((c : Int) + 1) ((c : Int) + 1 + 1) (mk (c + 3)) (mkF kd (c + 4)) (F.drop (j + 1))) := by
  unfold half
  rw [take_at F j h, mkF_app, app_assoc, ← hc]
  rfl
theorem take_nodes {F : Fo} {j : Nat} {op wd n : Int} {nm : ByteArray} {kd : Fo} (h : F.At j op wd n nm kd) : (F.take (j + 1)).nodes = (F.take j).nodes + 1 + kd.nodes ∧ (F.take (j + 1)).nodes ≤ F.nodes := by
  refine ⟨?_, ?_⟩
  · rw [take_at F j h, nodes_app]; simp only [nodes]; omega
  · have := congrArg nodes (app_td F (j + 1))
    rw [nodes_app] at this
    omega
end Fo
def MarkEnd (F : Fo) (base k : Nat) (v : Value) (bs : List Nat) (w : World) (e : Ending) (w' : World) : Prop := e = .returned (.int .i64 ((k + 4 * F.nodes : Nat) : Int)) ∧ ((F.mkF k).cs 64).Has w' base 64 5 F.len v bs ∧ Apart bs w w'
def MarkC (F : Fo) : Prop := ∀ (v : Value) (k base : Nat) (bs : List Nat) (w : World), (F.cs 64).Has w base 64 5 F.len v bs → bs.Nodup → 1 ≤ k → k + 4 * F.nodes ≤ 1000000000000 → Calls Tryz.prog 36 #[v, .int .i64 k] w (MarkEnd F base k v bs w)
/-- a round of the marks begins and ends so -/
def MarkRel (F : Fo) (n base k : Nat) (v : Value) (bs : List Nat) (w : World) (j c : Nat) (wr : World) : Prop := c = k + 4 * (F.take j).nodes ∧ ((F.half k j).cs 64).Has wr base 64 5 n v bs ∧ Apart bs w wr
set_option maxRecDepth 100000 in
set_option maxHeartbeats 1000000 in
theorem mark_loop (F : Fo) (hF : F.AllK MarkC) : MarkC F := by
  intro v k base bs w hv hnd h1 hk
  have hml : maxLen = 9223372036854775807 := rfl
  have hnl := F.len_le
  have HV := Lib.hid hv
  have hv2 := hv
  obtain ⟨ys, b0, ho, hown, rfl⟩ := hv2
  rcases ho.2 with ⟨rfl, h0⟩ | ⟨g, cap, cur, rfl, _⟩
  · have hF0 : F = .nil := by
      cases F with
      | nil => rfl
      | cons op wd n nm kd r => simp [Fo.len] at h0
    subst hF0
    exact (mk0S _ _ _ _).mono fun e w' ⟨he, hw⟩ => by subst hw; exact ⟨he, HV.out, Apart.refl _ _⟩
  · have hln : F.len ≤ 1000000000000 := by omega
    have HK := Lib.hid hF
    have HND := Lib.hid hnd
    have HS := Lib.hid (Fo.at_some F)
    have HT := Lib.hid (fun j op wd n nm kd (h : F.At j op wd n nm kd) => Fo.take_nodes h)
    clear hF hv ho hown hnd
    generalize hbs : (Value.slice (some ⟨g, 0, none⟩) F.len cap).ownBlock.toList ++ b0 = bs at *
    clear hbs
    generalize hlen : F.len = n at *
    have HL := Lib.hid hlen
    clear hlen
    go_enter Tryz.func36, Tryz.ntmps36
    go_wp2
    go_loopw [1, 5] (fun m i wr => ∃ (j c : Nat), j ≤ n ∧ i = .int .i64 j ∧ m = .int .i64 c ∧ MarkRel F n base k (.slice (some ⟨g, 0, none⟩) n cap) bs w j c wr) (fun _ i _ => n - (intOf i).toNat)
    case atStart => exact ⟨0, k, Nat.zero_le _, rfl, rfl, by rw [Fo.take_zero]; rfl, by rw [Fo.half_zero]; exact HV.out, Apart.refl _ _⟩
    case round =>
      obtain ⟨j, c, hj, rfl, rfl, hc, hh, hap⟩ := hrel
      by_cases hjn : j < n
      · obtain ⟨op, wd, nn, nm, kd, hat⟩ := HS.out j hjn
        obtain ⟨ht1, ht2⟩ := HT.out _ _ _ _ _ _ hat
        have hck : c + 4 * kd.nodes + 4 ≤ 1000000000000 := by omega
        have hk1 := Fo.at_allK F j hat HK.out
        rw [Fo.half_at hat, Fo.cs_app, Fo.cs_cons] at hh
        obtain ⟨x1, x2, x3, b1, b2, b3, hbs, ho, o1, o2, o3, l1, l2⟩ := Cs.has_at hh
        have hnd := HND.out
        rw [hbs] at hnd
        obtain ⟨hnd2, hg2⟩ := Cs.nodup_mid hnd
        obtain ⟨sv, rfl, hkd⟩ := Fo.one_own o2
        rw [Fo.cs_len, Fo.mkF_len, Fo.len_take F j (by have := Fo.at_lt F j hat; omega)] at l1
        have hr := range_mid (own_range ho)
        rw [l1, Nat.zero_add] at hr
        have c0 : wr.cell? ⟨g, j * 5, none⟩ = some (.int .i64 op) := hr 0 _ rfl
        have c1 : wr.cell? ⟨g, j * 5 + 1, none⟩ = some (.int .i64 wd) := hr 1 _ rfl
        have c2 : wr.cell? ⟨g, j * 5 + 2, none⟩ = some (.int .i64 nn) := hr 2 _ rfl
        have c3 : wr.cell? ⟨g, j * 5 + 3, none⟩ = some (.string nm) := hr 3 _ rfl
        have c4 : wr.cell? ⟨g, j * 5 + 4, none⟩ = some sv := hr 4 _ rfl
        have f0 := ho.frozenAt (j * 5)
        have f1 := ho.frozenAt (j * 5 + 1)
        have f2 := ho.frozenAt (j * 5 + 2)
        have f3 := ho.frozenAt (j * 5 + 3)
        have f4 := ho.frozenAt (j * 5 + 4)
        have hgl := (ho.lt g rfl).2
        have A3 : Hid (Apart [g] wr (((wr.setCell ⟨g, j * 5, none⟩ (.int .i64 (c : Int))).setCell ⟨g, j * 5 + 1, none⟩ (.int .i64 ((c : Int) + 1))).setCell ⟨g, j * 5 + 2, none⟩ (.int .i64 ((c : Int) + 1 + 1)))) := Lib.hid ((((Apart.refl _ _).setCell (by simp) _).setCell (by simp) _).setCell (by simp) _)
        have O3 := Lib.hid (Cs.own_poke (i := 2) (Cs.own_poke (i := 1) (Cs.own_poke (i := 0) ho l1 (by simp) (.int .i64 (c : Int))) l1 (by simp) (.int .i64 ((c : Int) + 1))) l1 (by simp) (.int .i64 ((c : Int) + 1 + 1)))
        have HR := Lib.hid (And.intro hc (And.intro hbs (And.intro o1 (And.intro o3 (And.intro hkd (And.intro hnd (And.intro hnd2 (And.intro hg2 (And.intro l1 (And.intro hap (And.intro hat (And.intro ht1 hk1))))))))))))
        clear hr hc hbs o1 o2 o3 hkd hnd hnd2 hg2 l1 l2 hh hat ht1 ht2 hk1 ho hap
        obtain ⟨W, hW⟩ : ∃ W, W = (((wr.setCell ⟨g, j * 5, none⟩ (.int .i64 (c : Int))).setCell ⟨g, j * 5 + 1, none⟩ (.int .i64 ((c : Int) + 1))).setCell ⟨g, j * 5 + 2, none⟩ (.int .i64 ((c : Int) + 1 + 1))) := ⟨_, rfl⟩
        rw [← hW] at A3
        have O3' : Hid (W.ownsRow base 64 5 (.slice (some ⟨g, 0, none⟩) n cap) n (x1 ++ [.int .i64 (c : Int), .int .i64 ((c : Int) + 1), .int .i64 ((c : Int) + 1 + 1), .string nm, sv] ++ x3)) := Lib.hid (by rw [hW]; exact O3.out)
        have HW := Lib.hid hW
        clear O3 hW
        go_wp2_with fail
        rw [← HW.out, show ((c : Int) + 1 + 1 + 1) = ((c + 3 : Nat) : Int) by omega]
        clear HW c0 c1 c2 c3 c4 f0 f1 f2 f3 f4
        refine (mark_text (c + 3) (by omega) (by omega) _).mono ?_
        rintro e w1 ⟨rfl, hb1⟩
        have O4 := Lib.hid (own_keep O3'.out hb1)
        have A4 := Lib.hid (A3.out.trans (Apart.of_below (bs := [g]) hb1))
        have hr := range_mid (own_range O4.out)
        rw [HR.out.2.2.2.2.2.2.2.2.1, Nat.zero_add] at hr
        have c3 : w1.cell? ⟨g, j * 5 + 3, none⟩ = some (.string nm) := hr 3 _ rfl
        have c4 : w1.cell? ⟨g, j * 5 + 4, none⟩ = some sv := hr 4 _ rfl
        have f3 := O4.out.frozenAt (j * 5 + 3)
        clear hr hb1 A3 O3'
        obtain ⟨hc, hbs, o1, o3, hkd, hnd, hnd2, hg2, l1, hap, hat, ht1, hk1⟩ := HR.out
        have A5 := Lib.hid (A4.out.setCell (p := ⟨g, j * 5 + 3, none⟩) (by simp) (.string (mk (c + 3))))
        have O5 := Lib.hid (Cs.own_poke (i := 3) O4.out l1 (by simp) (.string (mk (c + 3))))
        have CM := Lib.hid (hk1 sv (c + 4) base b2 _ (hkd.apart A5.out (fun x hx hm => hg2 (by simp at hm; rw [← hm]; exact hx))) hnd2 (by omega) (by omega))
        clear hc hbs o1 o3 hkd hnd hnd2 hg2 l1 hap hat ht1 hk1 O4 A4
        unfold MarkEnd at CM
        go_wp2_with fail
        rw [show ((c : Int) + 3 + 1) = ((c + 4 : Nat) : Int) by omega]
        refine CM.out.mono ?_
        rintro e w2 ⟨rfl, hh2, hap2⟩
        have HN := Lib.hid (And.intro hh2 hap2)
        clear hh2 hap2 c3 c4 f3
        go_wp2
        go_roundw
        case rel =>
          obtain ⟨hc, hbs, o1, o3, hkd, hnd, hnd2, hg2, l1, hap, hat, ht1, hk1⟩ := HR.out
          obtain ⟨hh2, hap2⟩ := HN.out
          have hall : Apart (g :: b2) wr w2 := (A5.out.mono (by simp)).trans (hap2.mono (by simp; intro x hx; exact .inr hx))
          refine ⟨j + 1, c + 4 + 4 * kd.nodes, by omega, by go_num, by go_num, by rw [ht1]; omega, ?_, hap.trans (hall.mono (by rw [hbs]; simp; intro x hx; exact .inr (.inr (.inl hx))))⟩
          rw [Fo.half_succ hat hc, Fo.cs_app, Fo.cs_cons, hbs]
          refine Cs.has_back hnd o1 o3 (own_same O5.out (fun x hx => hap2.block x ?_ ?_)) (Fo.own_one (by rw [Fo.mkF_len]; exact hh2)) hall
          · exact (O5.out.lt x (by simpa using hx)).2
          · have : x = g := by simpa [Value.ownBlock] using hx
            rw [this]; exact hg2
        case measure => simp [intOf]; omega
      · have ej : j = n := by omega
        have HR := Lib.hid (And.intro hc (And.intro hh hap))
        clear hc hh hap
        go_wp2
        go_ret
        obtain ⟨hc, hh, hap⟩ := HR.out
        rw [ej, ← HL.out] at hc hh
        rw [Fo.half_all] at hh
        rw [Fo.take_all] at hc
        exact ⟨by rw [hc]; rfl, by rw [HL.out] at hh ⊢; exact hh, hap⟩
theorem mark_any : ∀ F : Fo, MarkC F := Fo.every mark_loop
end Go.Proofs.YthmababifgaejaaGreatDoor
namespace Go.Proofs.YthmababifgaejaaGreatDoor
open Go.ChangeShapes Go.WideShapes Go.ChangeAt Go.RowKit
namespace PaR
def marks (x : PaR) : Nat := 4 * x.R.nodes + 4 * x.M.nodes + x.S.length + 4 * x.O.nodes + 4 * x.C.nodes + x.U.length
def mkd (x : PaR) (k : Nat) : PaR := { x with R := x.R.mkF k, M := x.M.mkF (k + 4 * x.R.nodes), S := IntL.mkrs x.S (k + 4 * x.R.nodes + 4 * x.M.nodes), O := x.O.mkF (k + 4 * x.R.nodes + 4 * x.M.nodes + x.S.length), C := x.C.mkF (k + 4 * x.R.nodes + 4 * x.M.nodes + x.S.length + 4 * x.O.nodes), U := IntL.mkrs x.U (k + 4 * x.R.nodes + 4 * x.M.nodes + x.S.length + 4 * x.O.nodes + 4 * x.C.nodes) }
end PaR
theorem nd6 {a b c d e f : List Nat} (h : (a ++ (b ++ (c ++ (d ++ (e ++ (f)))))).Nodup) : (a.Nodup ∧ ∀ g ∈ a, g ∉ b ∧ g ∉ c ∧ g ∉ d ∧ g ∉ e ∧ g ∉ f) ∧ (b.Nodup ∧ ∀ g ∈ b, g ∉ c ∧ g ∉ d ∧ g ∉ e ∧ g ∉ f) ∧ (c.Nodup ∧ ∀ g ∈ c, g ∉ d ∧ g ∉ e ∧ g ∉ f) ∧ (d.Nodup ∧ ∀ g ∈ d, g ∉ e ∧ g ∉ f) ∧ (e.Nodup ∧ ∀ g ∈ e, g ∉ f) ∧ f.Nodup := by
  rw [List.nodup_append] at h
  obtain ⟨n0, h, d0⟩ := h
  rw [List.nodup_append] at h
  obtain ⟨n1, h, d1⟩ := h
  rw [List.nodup_append] at h
  obtain ⟨n2, h, d2⟩ := h
  rw [List.nodup_append] at h
  obtain ⟨n3, h, d3⟩ := h
  rw [List.nodup_append] at h
  obtain ⟨n4, h, d4⟩ := h
  exact ⟨⟨n0, fun g hm => ⟨fun hg => d0 g hm g (List.mem_append_left _ hg) rfl, fun hg => d0 g hm g (List.mem_append_right _ (List.mem_append_left _ hg)) rfl, fun hg => d0 g hm g (List.mem_append_right _ (List.mem_append_right _ (List.mem_append_left _ hg))) rfl, fun hg => d0 g hm g (List.mem_append_right _ (List.mem_append_right _ (List.mem_append_right _ (List.mem_append_left _ hg)))) rfl, fun hg => d0 g hm g (List.mem_append_right _ (List.mem_append_right _ (List.mem_append_right _ (List.mem_append_right _ (hg))))) rfl⟩⟩, ⟨n1, fun g hm => ⟨fun hg => d1 g hm g (List.mem_append_left _ hg) rfl, fun hg => d1 g hm g (List.mem_append_right _ (List.mem_append_left _ hg)) rfl, fun hg => d1 g hm g (List.mem_append_right _ (List.mem_append_right _ (List.mem_append_left _ hg))) rfl, fun hg => d1 g hm g (List.mem_append_right _ (List.mem_append_right _ (List.mem_append_right _ (hg)))) rfl⟩⟩, ⟨n2, fun g hm => ⟨fun hg => d2 g hm g (List.mem_append_left _ hg) rfl, fun hg => d2 g hm g (List.mem_append_right _ (List.mem_append_left _ hg)) rfl, fun hg => d2 g hm g (List.mem_append_right _ (List.mem_append_right _ (hg))) rfl⟩⟩, ⟨n3, fun g hm => ⟨fun hg => d3 g hm g (List.mem_append_left _ hg) rfl, fun hg => d3 g hm g (List.mem_append_right _ (hg)) rfl⟩⟩, ⟨n4, fun g hm => fun hg => d4 g hm g hg rfl⟩, h⟩
set_option maxRecDepth 100000 in
set_option maxHeartbeats 8000000 in
theorem mark_Path (x : PaR) (r m s o c u : Value) (k base : Nat) (B : List Nat) (w : World) (ho : PaO w base x r m s o c u B) (h1 : 1 ≤ k) (hk : k + x.marks ≤ 1000000000000) :
    Calls Tryz.prog 16 #[.agg #[.int .i64 x.pc, r, m, s, .int .i64 x.inn, o, .int .i64 x.cd, .int .i64 x.st, c, u], .int .i64 k] w fun e w' => e = .returned (.int .i64 ((k + x.marks : Nat) : Int)) ∧ PaO w' base (x.mkd k) r m s o c u B ∧ Apart B w w' := by
  have hx : x.marks = 4 * x.R.nodes + 4 * x.M.nodes + x.S.length + 4 * x.O.nodes + 4 * x.C.nodes + x.U.length := rfl
  have LT := Lib.hid ho.lt
  obtain ⟨br, bm, bo, bc, or, om, os, oo, oc, ou, hB, hN⟩ := ho
  rw [hB] at hN
  obtain ⟨e0, e1, e2, e3, e4, e5⟩ := nd6 hN
  have M0 := Lib.hid (fun W (h : (x.R.cs 64).Has W base 64 5 x.R.len r br) => mark_any x.R r k base br W h e0.1 (by omega) (by omega))
  have M1 := Lib.hid (fun W (h : (x.M.cs 64).Has W base 64 5 x.M.len m bm) => mark_any x.M m (k + 4 * x.R.nodes) base bm W h e1.1 (by omega) (by omega))
  have M2 := Lib.hid (fun W (h : W.ownsRow base 3 1 s x.S.length (IntL.all x.S)) => mark_Int x.S s (k + 4 * x.R.nodes + 4 * x.M.nodes) base W h (by omega) (by omega))
  have M3 := Lib.hid (fun W (h : (x.O.cs 64).Has W base 64 5 x.O.len o bo) => mark_any x.O o (k + 4 * x.R.nodes + 4 * x.M.nodes + x.S.length) base bo W h e3.1 (by omega) (by omega))
  have M4 := Lib.hid (fun W (h : (x.C.cs 64).Has W base 64 5 x.C.len c bc) => mark_any x.C c (k + 4 * x.R.nodes + 4 * x.M.nodes + x.S.length + 4 * x.O.nodes) base bc W h e4.1 (by omega) (by omega))
  have M5 := Lib.hid (fun W (h : W.ownsRow base 3 1 u x.U.length (IntL.all x.U)) => mark_Int x.U u (k + 4 * x.R.nodes + 4 * x.M.nodes + x.S.length + 4 * x.O.nodes + 4 * x.C.nodes) base W h (by omega) (by omega))
  unfold MarkIntEnd at M2 M5
  unfold MarkEnd at M0 M1 M3 M4
  have EE : k + x.marks = (k + 4 * x.R.nodes + 4 * x.M.nodes + x.S.length + 4 * x.O.nodes + 4 * x.C.nodes + x.U.length) := by omega
  have hb0 : Below w.heap.size w (w.alloc (.cells #[.int .i64 x.pc, r, m, s, .int .i64 x.inn, o, .int .i64 x.cd, .int .i64 x.st, c, u] 41)) := (Below.refl w.heap.size w).alloc (Nat.le_refl _) _
  have Or0 := Lib.hid (or.below hb0)
  have Om0 := Lib.hid (om.below hb0)
  have Os0 := Lib.hid (own_keep os hb0)
  have Oo0 := Lib.hid (oo.below hb0)
  have Oc0 := Lib.hid (oc.below hb0)
  have Ou0 := Lib.hid (own_keep ou hb0)
  have HA0 := Lib.hid (Apart.of_below (bs := B) hb0)
  have X0 := Lib.hid (heap_alloc_new w (.cells #[.int .i64 x.pc, r, m, s, .int .i64 x.inn, o, .int .i64 x.cd, .int .i64 x.st, c, u] 41))
  obtain ⟨w0, hw0⟩ : ∃ w0, w0 = w.alloc (.cells #[.int .i64 x.pc, r, m, s, .int .i64 x.inn, o, .int .i64 x.cd, .int .i64 x.st, c, u] 41) := ⟨_, rfl⟩
  rw [← hw0] at Or0 Om0 Os0 Oo0 Oc0 Ou0 HA0 X0
  clear or om os oo oc ou hb0
  have HBB := Lib.hid hB
  have HNN := Lib.hid hN
  clear hB hN
  obtain ⟨x0, x1, x2, x3, x4, x5, x6, x7, x8, x9⟩ := cell10_row X0.out
  rw [hw0] at x0 x1 x2 x3 x4 x5 x6 x7 x8 x9
  obtain ⟨z0, hz0⟩ : ∃ z : Int, z = k := ⟨_, rfl⟩
  obtain ⟨z1, hz1⟩ : ∃ z : Int, z = (((k + 4 * x.R.nodes) : Nat) : Int) := ⟨_, rfl⟩
  obtain ⟨z2, hz2⟩ : ∃ z : Int, z = (((k + 4 * x.R.nodes + 4 * x.M.nodes) : Nat) : Int) := ⟨_, rfl⟩
  obtain ⟨z3, hz3⟩ : ∃ z : Int, z = (((k + 4 * x.R.nodes + 4 * x.M.nodes + x.S.length) : Nat) : Int) := ⟨_, rfl⟩
  obtain ⟨z4, hz4⟩ : ∃ z : Int, z = (((k + 4 * x.R.nodes + 4 * x.M.nodes + x.S.length + 4 * x.O.nodes) : Nat) : Int) := ⟨_, rfl⟩
  obtain ⟨z5, hz5⟩ : ∃ z : Int, z = (((k + 4 * x.R.nodes + 4 * x.M.nodes + x.S.length + 4 * x.O.nodes + 4 * x.C.nodes) : Nat) : Int) := ⟨_, rfl⟩
  obtain ⟨z6, hz6⟩ : ∃ z : Int, z = (((k + 4 * x.R.nodes + 4 * x.M.nodes + x.S.length + 4 * x.O.nodes + 4 * x.C.nodes + x.U.length) : Nat) : Int) := ⟨_, rfl⟩
  rw [show ((k + x.marks : Nat) : Int) = z6 by rw [hz6, EE], ← hz0]
  rw [← hz0, show ((k + 4 * x.R.nodes : Nat) : Int) = z1 by rw [hz1]] at M0
  rw [← hz1, show (((k + 4 * x.R.nodes) + 4 * x.M.nodes : Nat) : Int) = z2 by rw [hz2]] at M1
  rw [← hz2, show (((k + 4 * x.R.nodes + 4 * x.M.nodes) + x.S.length : Nat) : Int) = z3 by rw [hz3]] at M2
  rw [← hz3, show (((k + 4 * x.R.nodes + 4 * x.M.nodes + x.S.length) + 4 * x.O.nodes : Nat) : Int) = z4 by rw [hz4]] at M3
  rw [← hz4, show (((k + 4 * x.R.nodes + 4 * x.M.nodes + x.S.length + 4 * x.O.nodes) + 4 * x.C.nodes : Nat) : Int) = z5 by rw [hz5]] at M4
  rw [← hz5, show (((k + 4 * x.R.nodes + 4 * x.M.nodes + x.S.length + 4 * x.O.nodes + 4 * x.C.nodes) + x.U.length : Nat) : Int) = z6 by rw [hz6]] at M5
  clear hz0 hz1 hz2 hz3 hz4 hz5 hz6 hk EE hx
  go_enter Tryz.func16, Tryz.ntmps16
  go_wp2_with fail
  rw [← hw0]
  clear hw0 x0 x1 x2 x3 x4 x5 x6 x7 x8 x9
  have N0 := Lib.hid (M0.out w0 Or0.out)
  refine N0.out.mono ?_
  rintro e w1 ⟨rfl, hh, hap⟩
  have HA1 := Lib.hid (HA0.out.trans (hap.mono (fun g hg => by rw [HBB.out]; exact List.mem_append_left _ hg)))
  have X1 := Lib.hid ((hap.block w.heap.size (Array.getElem?_eq_some_iff.1 X0.out).1 (fun hg => by have := (LT.out w.heap.size (by rw [HBB.out]; exact List.mem_append_left _ hg)).2; omega)).trans X0.out)
  have Or1 := Lib.hid hh
  have Om1 := Lib.hid (Om0.out.same (fun g hg => hap.block g (Om0.out.lt g hg).2 (fun hm => (e0.2 g hm).1 hg)))
  have Os1 := Lib.hid (own_same Os0.out (fun g hg => hap.block g (own_lt Os0.out hg).2 (fun hm => (e0.2 g hm).2.1 hg)))
  have Oo1 := Lib.hid (Oo0.out.same (fun g hg => hap.block g (Oo0.out.lt g hg).2 (fun hm => (e0.2 g hm).2.2.1 hg)))
  have Oc1 := Lib.hid (Oc0.out.same (fun g hg => hap.block g (Oc0.out.lt g hg).2 (fun hm => (e0.2 g hm).2.2.2.1 hg)))
  have Ou1 := Lib.hid (own_same Ou0.out (fun g hg => hap.block g (own_lt Ou0.out hg).2 (fun hm => (e0.2 g hm).2.2.2.2 hg)))
  clear hh hap N0
  obtain ⟨x0, x1, x2, x3, x4, x5, x6, x7, x8, x9⟩ := cell10_row X1.out
  go_wp2_with fail
  clear x0 x1 x2 x3 x4 x5 x6 x7 x8 x9
  have N1 := Lib.hid (M1.out w1 Om1.out)
  refine N1.out.mono ?_
  rintro e w2 ⟨rfl, hh, hap⟩
  have HA2 := Lib.hid (HA1.out.trans (hap.mono (fun g hg => by rw [HBB.out]; exact List.mem_append_right _ (List.mem_append_left _ hg))))
  have X2 := Lib.hid ((hap.block w.heap.size (Array.getElem?_eq_some_iff.1 X1.out).1 (fun hg => by have := (LT.out w.heap.size (by rw [HBB.out]; exact List.mem_append_right _ (List.mem_append_left _ hg))).2; omega)).trans X1.out)
  have Om2 := Lib.hid hh
  have Or2 := Lib.hid (Or1.out.same (fun g hg => hap.block g (Or1.out.lt g hg).2 (fun hm => (e0.2 g hg).1 hm)))
  have Os2 := Lib.hid (own_same Os1.out (fun g hg => hap.block g (own_lt Os1.out hg).2 (fun hm => (e1.2 g hm).1 hg)))
  have Oo2 := Lib.hid (Oo1.out.same (fun g hg => hap.block g (Oo1.out.lt g hg).2 (fun hm => (e1.2 g hm).2.1 hg)))
  have Oc2 := Lib.hid (Oc1.out.same (fun g hg => hap.block g (Oc1.out.lt g hg).2 (fun hm => (e1.2 g hm).2.2.1 hg)))
  have Ou2 := Lib.hid (own_same Ou1.out (fun g hg => hap.block g (own_lt Ou1.out hg).2 (fun hm => (e1.2 g hm).2.2.2 hg)))
  clear hh hap N1
  obtain ⟨x0, x1, x2, x3, x4, x5, x6, x7, x8, x9⟩ := cell10_row X2.out
  go_wp2_with fail
  clear x0 x1 x2 x3 x4 x5 x6 x7 x8 x9
  have N2 := Lib.hid (M2.out w2 Os2.out)
  refine N2.out.mono ?_
  rintro e w3 ⟨rfl, hh, hap⟩
  have HA3 := Lib.hid (HA2.out.trans (hap.mono (fun g hg => by rw [HBB.out]; exact List.mem_append_right _ (List.mem_append_right _ (List.mem_append_left _ hg)))))
  have X3 := Lib.hid ((hap.block w.heap.size (Array.getElem?_eq_some_iff.1 X2.out).1 (fun hg => by have := (LT.out w.heap.size (by rw [HBB.out]; exact List.mem_append_right _ (List.mem_append_right _ (List.mem_append_left _ hg)))).2; omega)).trans X2.out)
  have Os3 := Lib.hid hh
  have Or3 := Lib.hid (Or2.out.same (fun g hg => hap.block g (Or2.out.lt g hg).2 (fun hm => (e0.2 g hg).2.1 hm)))
  have Om3 := Lib.hid (Om2.out.same (fun g hg => hap.block g (Om2.out.lt g hg).2 (fun hm => (e1.2 g hg).1 hm)))
  have Oo3 := Lib.hid (Oo2.out.same (fun g hg => hap.block g (Oo2.out.lt g hg).2 (fun hm => (e2.2 g hm).1 hg)))
  have Oc3 := Lib.hid (Oc2.out.same (fun g hg => hap.block g (Oc2.out.lt g hg).2 (fun hm => (e2.2 g hm).2.1 hg)))
  have Ou3 := Lib.hid (own_same Ou2.out (fun g hg => hap.block g (own_lt Ou2.out hg).2 (fun hm => (e2.2 g hm).2.2 hg)))
  clear hh hap N2
  obtain ⟨x0, x1, x2, x3, x4, x5, x6, x7, x8, x9⟩ := cell10_row X3.out
  go_wp2_with fail
  clear x0 x1 x2 x3 x4 x5 x6 x7 x8 x9
  have N3 := Lib.hid (M3.out w3 Oo3.out)
  refine N3.out.mono ?_
  rintro e w4 ⟨rfl, hh, hap⟩
  have HA4 := Lib.hid (HA3.out.trans (hap.mono (fun g hg => by rw [HBB.out]; exact List.mem_append_right _ (List.mem_append_right _ (List.mem_append_right _ (List.mem_append_left _ hg))))))
  have X4 := Lib.hid ((hap.block w.heap.size (Array.getElem?_eq_some_iff.1 X3.out).1 (fun hg => by have := (LT.out w.heap.size (by rw [HBB.out]; exact List.mem_append_right _ (List.mem_append_right _ (List.mem_append_right _ (List.mem_append_left _ hg))))).2; omega)).trans X3.out)
  have Oo4 := Lib.hid hh
  have Or4 := Lib.hid (Or3.out.same (fun g hg => hap.block g (Or3.out.lt g hg).2 (fun hm => (e0.2 g hg).2.2.1 hm)))
  have Om4 := Lib.hid (Om3.out.same (fun g hg => hap.block g (Om3.out.lt g hg).2 (fun hm => (e1.2 g hg).2.1 hm)))
  have Os4 := Lib.hid (own_same Os3.out (fun g hg => hap.block g (own_lt Os3.out hg).2 (fun hm => (e2.2 g hg).1 hm)))
  have Oc4 := Lib.hid (Oc3.out.same (fun g hg => hap.block g (Oc3.out.lt g hg).2 (fun hm => (e3.2 g hm).1 hg)))
  have Ou4 := Lib.hid (own_same Ou3.out (fun g hg => hap.block g (own_lt Ou3.out hg).2 (fun hm => (e3.2 g hm).2 hg)))
  clear hh hap N3
  obtain ⟨x0, x1, x2, x3, x4, x5, x6, x7, x8, x9⟩ := cell10_row X4.out
  go_wp2_with fail
  clear x0 x1 x2 x3 x4 x5 x6 x7 x8 x9
  have N4 := Lib.hid (M4.out w4 Oc4.out)
  refine N4.out.mono ?_
  rintro e w5 ⟨rfl, hh, hap⟩
  have HA5 := Lib.hid (HA4.out.trans (hap.mono (fun g hg => by rw [HBB.out]; exact List.mem_append_right _ (List.mem_append_right _ (List.mem_append_right _ (List.mem_append_right _ (List.mem_append_left _ hg)))))))
  have X5 := Lib.hid ((hap.block w.heap.size (Array.getElem?_eq_some_iff.1 X4.out).1 (fun hg => by have := (LT.out w.heap.size (by rw [HBB.out]; exact List.mem_append_right _ (List.mem_append_right _ (List.mem_append_right _ (List.mem_append_right _ (List.mem_append_left _ hg)))))).2; omega)).trans X4.out)
  have Oc5 := Lib.hid hh
  have Or5 := Lib.hid (Or4.out.same (fun g hg => hap.block g (Or4.out.lt g hg).2 (fun hm => (e0.2 g hg).2.2.2.1 hm)))
  have Om5 := Lib.hid (Om4.out.same (fun g hg => hap.block g (Om4.out.lt g hg).2 (fun hm => (e1.2 g hg).2.2.1 hm)))
  have Os5 := Lib.hid (own_same Os4.out (fun g hg => hap.block g (own_lt Os4.out hg).2 (fun hm => (e2.2 g hg).2.1 hm)))
  have Oo5 := Lib.hid (Oo4.out.same (fun g hg => hap.block g (Oo4.out.lt g hg).2 (fun hm => (e3.2 g hg).1 hm)))
  have Ou5 := Lib.hid (own_same Ou4.out (fun g hg => hap.block g (own_lt Ou4.out hg).2 (fun hm => e4.2 g hm hg)))
  clear hh hap N4
  obtain ⟨x0, x1, x2, x3, x4, x5, x6, x7, x8, x9⟩ := cell10_row X5.out
  go_wp2_with fail
  clear x0 x1 x2 x3 x4 x5 x6 x7 x8 x9
  have N5 := Lib.hid (M5.out w5 Ou5.out)
  refine N5.out.mono ?_
  rintro e w6 ⟨rfl, hh, hap⟩
  have HA6 := Lib.hid (HA5.out.trans (hap.mono (fun g hg => by rw [HBB.out]; exact List.mem_append_right _ (List.mem_append_right _ (List.mem_append_right _ (List.mem_append_right _ (List.mem_append_right _ (hg))))))))
  have X6 := Lib.hid ((hap.block w.heap.size (Array.getElem?_eq_some_iff.1 X5.out).1 (fun hg => by have := (LT.out w.heap.size (by rw [HBB.out]; exact List.mem_append_right _ (List.mem_append_right _ (List.mem_append_right _ (List.mem_append_right _ (List.mem_append_right _ (hg))))))).2; omega)).trans X5.out)
  have Ou6 := Lib.hid hh
  have Or6 := Lib.hid (Or5.out.same (fun g hg => hap.block g (Or5.out.lt g hg).2 (fun hm => (e0.2 g hg).2.2.2.2 hm)))
  have Om6 := Lib.hid (Om5.out.same (fun g hg => hap.block g (Om5.out.lt g hg).2 (fun hm => (e1.2 g hg).2.2.2 hm)))
  have Os6 := Lib.hid (own_same Os5.out (fun g hg => hap.block g (own_lt Os5.out hg).2 (fun hm => (e2.2 g hg).2.2 hm)))
  have Oo6 := Lib.hid (Oo5.out.same (fun g hg => hap.block g (Oo5.out.lt g hg).2 (fun hm => (e3.2 g hg).2 hm)))
  have Oc6 := Lib.hid (Oc5.out.same (fun g hg => hap.block g (Oc5.out.lt g hg).2 (fun hm => e4.2 g hg hm)))
  clear hh hap N5
  obtain ⟨x0, x1, x2, x3, x4, x5, x6, x7, x8, x9⟩ := cell10_row X6.out
  go_wp2
  go_ret
  refine ⟨rfl, ⟨br, bm, bo, bc, ?_, ?_, ?_, ?_, ?_, ?_, HBB.out, by rw [HBB.out]; exact HNN.out⟩, HA6.out⟩
  · show ((x.mkd k).R.cs 64).Has _ _ _ _ (x.mkd k).R.len _ _
    have e : (x.mkd k).R.len = x.R.len := Fo.mkF_len _ _
    rw [e]
    exact Or6.out
  · show ((x.mkd k).M.cs 64).Has _ _ _ _ (x.mkd k).M.len _ _
    have e : (x.mkd k).M.len = x.M.len := Fo.mkF_len _ _
    rw [e]
    exact Om6.out
  · have e : (x.mkd k).S.length = x.S.length := markL_len _ _ _ _
    rw [e]
    exact Os6.out
  · show ((x.mkd k).O.cs 64).Has _ _ _ _ (x.mkd k).O.len _ _
    have e : (x.mkd k).O.len = x.O.len := Fo.mkF_len _ _
    rw [e]
    exact Oo6.out
  · show ((x.mkd k).C.cs 64).Has _ _ _ _ (x.mkd k).C.len _ _
    have e : (x.mkd k).C.len = x.C.len := Fo.mkF_len _ _
    rw [e]
    exact Oc6.out
  · have e : (x.mkd k).U.length = x.U.length := markL_len _ _ _ _
    rw [e]
    exact Ou6.out
end Go.Proofs.YthmababifgaejaaGreatDoor
namespace Go.Proofs.YthmababifgaejaaGreatDoor
open Go.ChangeShapes Go.WideShapes Go.ChangeAt Go.RowKit
namespace InsR
/-- a row that bears the marks from a number on -/
def mkr (k : Nat) : InsR := ⟨(k : Int), ((k : Int) + 1), ((k : Int) + 1 + 1), ((k : Int) + 1 + 1 + 1)⟩
/-- a list of rows that bear them -/
def mkrs (L : List InsR) (k : Nat) : List InsR := markL (fun _ k => mkr k) (fun _ => 4) L k
theorem mkrs_len (L : List InsR) (k : Nat) : (mkrs L k).length = L.length := markL_len _ _ _ _
theorem cnt3 (L : List InsR) : cntL (fun _ => 4) L = 4 * L.length := by
  unfold cntL
  induction L with
  | nil => rfl
  | cons r L ih => simp only [List.map_cons, List.sum_cons, List.length_cons, ih]; omega
theorem mkrs_get (L : List InsR) (k j : Nat) (h : j < L.length) : (mkrs L k)[j]'(by rw [mkrs_len]; exact h) = mkr (k + 4 * j) := by
  have := markL_get (fun (_ : InsR) k => mkr k) (fun _ => 4) L k j h
  rw [cnt3, List.length_take, Nat.min_eq_left (by omega)] at this
  exact this
/-- the first rows bear their marks, the others are as they were -/
def half (L : List InsR) (k j : Nat) : List InsR := (mkrs L k).take j ++ L.drop j
theorem half_zero (L : List InsR) (k : Nat) : half L k 0 = L := by simp [half]
theorem half_all (L : List InsR) (k : Nat) : half L k L.length = mkrs L k := by simp [half, mkrs_len, List.take_of_length_le]
theorem all_len (L : List InsR) : (all L).length = L.length * 4 := by
  unfold all
  induction L with
  | nil => rfl
  | cons r L ih => rw [List.flatMap_cons, List.length_append, ih, len, List.length_cons]; omega
theorem half_at (L : List InsR) (k j : Nat) (h : j < L.length) : ∃ (x1 : List Value) (r : InsR) (x3 : List Value), x1.length = j * 4 ∧ all (half L k j) = x1 ++ r.cells ++ x3 ∧ ∀ c, c = k + 4 * j → all (half L k (j + 1)) = x1 ++ (mkr c).cells ++ x3 := by
  refine ⟨all ((mkrs L k).take j), L[j], all (L.drop (j + 1)), ?_, ?_, fun c hc => ?_⟩
  · rw [all_len, List.length_take, mkrs_len, Nat.min_eq_left (by omega)]
  · unfold half
    rw [List.drop_eq_getElem_cons h]
    simp only [all, List.flatMap_append, List.flatMap_cons, List.append_assoc]
  · unfold half
    rw [List.take_succ_eq_append_getElem (by rw [mkrs_len]; exact h), mkrs_get L k j h, ← hc]
    simp only [all, List.flatMap_append, List.flatMap_cons, List.append_assoc, List.flatMap_nil, List.nil_append]
end InsR
open InsR (all costs)
set_option maxRecDepth 100000 in
theorem mark_Ins_none (a : Option Addr) (c k : Nat) (w : World) : Calls Tryz.prog 35 #[.slice a 0 c, .int .i64 k] w fun e w' => e = .returned (.int .i64 k) ∧ w = w' := by
  go_enter Tryz.func35, Tryz.ntmps35
  go_wp2
  refine wp_loop_rounds 1 ?_
  rw [rounds_succ]
  go_wp2
  go_ret
  exact ⟨rfl, rfl⟩
def MarkInsEnd (L : List InsR) (base k : Nat) (v : Value) (w : World) (e : Ending) (w' : World) : Prop := e = .returned (.int .i64 ((k + 4 * L.length : Nat) : Int)) ∧ w'.ownsRow base 82 4 v L.length (all (InsR.mkrs L k)) ∧ Apart v.ownBlock.toList w w'
set_option maxRecDepth 100000 in
set_option maxHeartbeats 1000000 in
theorem mark_Ins (L : List InsR) (v : Value) (k base : Nat) (w : World) (ho : w.ownsRow base 82 4 v L.length (all L)) (h1 : 1 ≤ k) (hk : k + 4 * L.length ≤ 1000000000000) :
    Calls Tryz.prog 35 #[v, .int .i64 k] w (MarkInsEnd L base k v w) := by
  have hml : maxLen = 9223372036854775807 := rfl
  rcases ho.2 with ⟨rfl, h0⟩ | ⟨g, cap, cur, rfl, _⟩
  · have hL : L = [] := List.length_eq_zero_iff.1 h0
    subst hL
    exact (mark_Ins_none _ _ _ _).mono fun e w' ⟨he, hw⟩ => by subst hw; exact ⟨he, ho, Apart.refl _ _⟩
  have HOW := Lib.hid ho
  have HG := Lib.hid (fun j (h : j < L.length) => InsR.half_at L k j h)
  have HZ := Lib.hid (InsR.half_zero L k)
  have HE := Lib.hid (InsR.half_all L k)
  unfold MarkInsEnd
  clear ho
  generalize hlen : L.length = n at *
  have HL := Lib.hid hlen
  clear hlen
  go_enter Tryz.func35, Tryz.ntmps35
  go_wp2
  go_loopw [1, 5] (fun m i wr => ∃ (j c : Nat), j ≤ n ∧ i = .int .i64 j ∧ m = .int .i64 c ∧ c = k + 4 * j ∧ wr.ownsRow base 82 4 (.slice (some ⟨g, 0, none⟩) n cap) n (all (InsR.half L k j)) ∧ Apart [g] w wr) (fun _ i _ => n - (intOf i).toNat)
  case atStart => exact ⟨0, k, Nat.zero_le _, rfl, rfl, rfl, by rw [HZ.out]; exact HOW.out, Apart.refl _ _⟩
  case round =>
    obtain ⟨j, c, hj, rfl, rfl, hc, ho, hap⟩ := hrel
    by_cases hjn : j < n
    · obtain ⟨x1, r, x3, hl1, hx0, hx1⟩ := HG.out j hjn
      rw [hx0] at ho
      have HX1 := Lib.hid (hx1 c hc)
      have HL1 := Lib.hid hl1
      have hcb : c + 4 ≤ 1000000000000 := by omega
      have hc1 : 1 ≤ c := by omega
      have HC := Lib.hid hc
      clear hx0 hx1 hl1
      have HO : Hid (wr.ownsRow base 82 4 (.slice (some ⟨g, 0, none⟩) n cap) n (x1 ++ [.int .i64 r.f0, .int .i64 r.f1, .int .i64 r.f2, .int .i64 r.f3] ++ x3)) := Lib.hid ho
      have HA := Lib.hid hap
      have hr := range_mid (own_range HO.out)
      rw [HL1.out, Nat.zero_add] at hr
      have c0 : wr.cell? ⟨g, j * 4, none⟩ = some (.int .i64 r.f0) := hr 0 _ rfl
      have c1 : wr.cell? ⟨g, j * 4 + 1, none⟩ = some (.int .i64 r.f1) := hr 1 _ rfl
      have c2 : wr.cell? ⟨g, j * 4 + 2, none⟩ = some (.int .i64 r.f2) := hr 2 _ rfl
      have c3 : wr.cell? ⟨g, j * 4 + 3, none⟩ = some (.int .i64 r.f3) := hr 3 _ rfl
      have f0 := HO.out.frozenAt (j * 4)
      have f1 := HO.out.frozenAt (j * 4 + 1)
      have f2 := HO.out.frozenAt (j * 4 + 2)
      have f3 := HO.out.frozenAt (j * 4 + 3)
      clear hr hc ho hap
      have OE := Lib.hid (Cs.own_poke (i := 3) (Cs.own_poke (i := 2) (Cs.own_poke (i := 1) (Cs.own_poke (i := 0) HO.out HL1.out (by simp) (.int .i64 (c : Int))) HL1.out (by simp) (.int .i64 ((c : Int) + 1))) HL1.out (by simp) (.int .i64 ((c : Int) + 1 + 1))) HL1.out (by simp) (.int .i64 ((c : Int) + 1 + 1 + 1)))
      have AE := Lib.hid (((((Apart.refl [g] wr).setCell (p := ⟨g, j * 4, none⟩) (by simp) (.int .i64 (c : Int))).setCell (p := ⟨g, j * 4 + 1, none⟩) (by simp) (.int .i64 ((c : Int) + 1))).setCell (p := ⟨g, j * 4 + 2, none⟩) (by simp) (.int .i64 ((c : Int) + 1 + 1))).setCell (p := ⟨g, j * 4 + 3, none⟩) (by simp) (.int .i64 ((c : Int) + 1 + 1 + 1)))
      go_wp2
      go_roundw
      case rel => exact ⟨j + 1, c + 4, by omega, by go_num, by go_num, by rw [HC.out]; omega, by rw [HX1.out]; exact OE.out, HA.out.trans AE.out⟩
      case measure => simp [intOf]; omega
    · have ej : j = n := by omega
      subst ej
      have HR := Lib.hid (And.intro hc (And.intro ho hap))
      clear hc ho hap
      go_wp2
      go_ret
      obtain ⟨hc, ho, hap⟩ := HR.out
      rw [HE.out] at ho
      exact ⟨by rw [hc]; rfl, ho, hap⟩
end Go.Proofs.YthmababifgaejaaGreatDoor
