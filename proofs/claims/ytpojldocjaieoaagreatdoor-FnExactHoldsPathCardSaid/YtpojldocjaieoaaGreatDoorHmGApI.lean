/- What the program's (Term).apply returns, for a node that fits and words. No condition. What the program's (Term).eval returns for a term that is valid and values. No condition. -/
import Derived.Test.YtpojldocjaieoaaGreatDoorHmGVlM
import Derived.Deep.RegionWith
import Derived.StillTailTactics
import Derived.Test.YtpojldocjaieoaaGreatDoorHmGApS
import Derived.Test.YtpojldocjaieoaaGreatDoorHmGAdd
namespace Go.Proofs.YtpojldocjaieoaaGreatDoor
open Go.ChangeShapes Go.WideShapes Go.ChangeAt Go.RowKit
set_option maxRecDepth 100000 in
set_option maxHeartbeats 2000000 in
theorem i_ap_u1 (wd n x : Int) (nm : ByteArray) (b o cap bw : Nat) (w : World) (hbl : b < w.heap.size) (hbw : bw < w.heap.size) (c0 : w.cell? ⟨b, o + 1, none⟩ = some (.int .i64 wd)) (d0 : w.cell? ⟨bw, 0, none⟩ = some (.int .i64 x)) (h1 : 1 ≤ wd) (h2 : wd ≤ 16) (h3 : 0 ≤ x) (h4 : x ≤ 2 ^ wd.toNat - 1) :
    Calls Tryz.prog 65 #[.agg #[.int .i64 1, .int .i64 wd, .int .i64 n, .string nm, .slice (some ⟨b, o, none⟩) 1 cap], .slice (some ⟨bw, 0, none⟩) 3 3] w fun e w' => e = .returned (.int .i64 (unM 1 wd x)) ∧ Below w.heap.size w w' := by
  have KX := Lib.hid (fun W => i_un 1 wd x (by omega) h1 h2 h3 h4 W)
  go_enter Tryz.func65, Tryz.ntmps65
  go_wp2
  go_region_with (go_at_call 84; refine (KX.out _).mono ?_; rintro e w1 ⟨rfl, rfl⟩)
  all_goals
    go_wp2
    go_ret
    first | exact ⟨rfl, ((Below.refl _ _).alloc (Nat.le_refl _) _).drew⟩ | exact ⟨rfl, ((Below.refl _ _).alloc (Nat.le_refl _) _)⟩
set_option maxRecDepth 100000 in
set_option maxHeartbeats 2000000 in
theorem i_ap_u2 (wd n x : Int) (nm : ByteArray) (b o cap bw : Nat) (w : World) (hbl : b < w.heap.size) (hbw : bw < w.heap.size) (c0 : w.cell? ⟨b, o + 1, none⟩ = some (.int .i64 wd)) (d0 : w.cell? ⟨bw, 0, none⟩ = some (.int .i64 x)) (h1 : 1 ≤ wd) (h2 : wd ≤ 16) (h3 : 0 ≤ x) (h4 : x ≤ 2 ^ wd.toNat - 1) :
    Calls Tryz.prog 65 #[.agg #[.int .i64 2, .int .i64 wd, .int .i64 n, .string nm, .slice (some ⟨b, o, none⟩) 1 cap], .slice (some ⟨bw, 0, none⟩) 3 3] w fun e w' => e = .returned (.int .i64 (unM 2 wd x)) ∧ Below w.heap.size w w' := by
  have KX := Lib.hid (fun W => i_un 2 wd x (by omega) h1 h2 h3 h4 W)
  go_enter Tryz.func65, Tryz.ntmps65
  go_wp2
  go_region_with (go_at_call 84; refine (KX.out _).mono ?_; rintro e w1 ⟨rfl, rfl⟩)
  all_goals
    go_wp2
    go_ret
    first | exact ⟨rfl, ((Below.refl _ _).alloc (Nat.le_refl _) _).drew⟩ | exact ⟨rfl, ((Below.refl _ _).alloc (Nat.le_refl _) _)⟩
set_option maxRecDepth 100000 in
set_option maxHeartbeats 2000000 in
theorem i_ap_bin (op wd n a x y : Int) (nm : ByteArray) (b o cap bw : Nat) (w : World) (hbl : b < w.heap.size) (hbw : bw < w.heap.size) (c0 : w.cell? ⟨b, o + 1, none⟩ = some (.int .i64 a)) (d0 : w.cell? ⟨bw, 0, none⟩ = some (.int .i64 x)) (d1 : w.cell? ⟨bw, 1, none⟩ = some (.int .i64 y)) (ho1 : 3 ≤ op) (ho2 : op ≤ 16) (h1 : 1 ≤ a) (h2 : a ≤ 16) (h3 : 0 ≤ x) (h4 : x ≤ 2 ^ a.toNat - 1) (k3 : 0 ≤ y) (k4 : y ≤ 2 ^ a.toNat - 1) :
    Calls Tryz.prog 65 #[.agg #[.int .i64 op, .int .i64 wd, .int .i64 n, .string nm, .slice (some ⟨b, o, none⟩) 2 cap], .slice (some ⟨bw, 0, none⟩) 3 3] w fun e w' => e = .returned (.int .i64 (binM op a x y)) ∧ Below w.heap.size w w' := by
  have e1 : ((op : Int) == 1) = false := by simp; omega
  have e2 : ((op : Int) == 2) = false := by simp; omega
  have e17 : ((op : Int) == 17) = false := by simp; omega
  have e18 : ((op : Int) == 18) = false := by simp; omega
  have e19 : ((op : Int) == 19) = false := by simp; omega
  have e20 : ((op : Int) == 20) = false := by simp; omega
  have e21 : ((op : Int) == 21) = false := by simp; omega
  have KX := Lib.hid (fun W => i_bin op a x y ⟨ho1, ho2⟩ h1 h2 h3 h4 k3 k4 W)
  go_enter Tryz.func65, Tryz.ntmps65
  go_wp2
  go_region_with (go_at_call 88; refine (KX.out _).mono ?_; rintro e w1 ⟨rfl, rfl⟩)
  all_goals
    go_wp2
    go_ret
    first | exact ⟨rfl, ((Below.refl _ _).alloc (Nat.le_refl _) _).drew⟩ | exact ⟨rfl, ((Below.refl _ _).alloc (Nat.le_refl _) _)⟩
set_option maxRecDepth 100000 in
set_option maxHeartbeats 2000000 in
theorem i_ap_if (wd n a x y z : Int) (nm : ByteArray) (b o cap bw : Nat) (w : World) (hbl : b < w.heap.size) (hbw : bw < w.heap.size) (c0 : w.cell? ⟨b, o + 1, none⟩ = some (.int .i64 a)) (d0 : w.cell? ⟨bw, 0, none⟩ = some (.int .i64 x)) (d1 : w.cell? ⟨bw, 1, none⟩ = some (.int .i64 y)) (d2 : w.cell? ⟨bw, 2, none⟩ = some (.int .i64 z))  :
    Calls Tryz.prog 65 #[.agg #[.int .i64 17, .int .i64 wd, .int .i64 n, .string nm, .slice (some ⟨b, o, none⟩) 3 cap], .slice (some ⟨bw, 0, none⟩) 3 3] w fun e w' => e = .returned (.int .i64 (if x = 1 then y else z)) ∧ Below w.heap.size w w' := by
  by_cases hx : x = 1
  · subst hx
    go_enter Tryz.func65, Tryz.ntmps65
    go_wp2
    go_ret
    exact ⟨by first | rfl | (simp [*]; done), ((Below.refl _ _).alloc (Nat.le_refl _) _)⟩
  · have hx1 : ((x : Int) == 1) = false := by simpa using hx
    rw [if_neg hx]
    clear hx
    go_enter Tryz.func65, Tryz.ntmps65
    go_wp2
    go_ret
    exact ⟨by first | rfl | (simp [*]; done), ((Below.refl _ _).alloc (Nat.le_refl _) _)⟩
set_option maxRecDepth 100000 in
set_option maxHeartbeats 2000000 in
theorem i_ap_join (wd n a a2 x y : Int) (nm : ByteArray) (b o cap bw : Nat) (w : World) (hbl : b < w.heap.size) (hbw : bw < w.heap.size) (c0 : w.cell? ⟨b, o + 1, none⟩ = some (.int .i64 a)) (c1 : w.cell? ⟨b, o + 5 + 1, none⟩ = some (.int .i64 a2)) (d0 : w.cell? ⟨bw, 0, none⟩ = some (.int .i64 x)) (d1 : w.cell? ⟨bw, 1, none⟩ = some (.int .i64 y)) (h1 : 1 ≤ a) (h2 : a ≤ 16) (h3 : 0 ≤ x) (h4 : x ≤ 2 ^ a.toNat - 1) (k1 : 1 ≤ a2) (k2 : a2 ≤ 16) (k3 : 0 ≤ y) (k4 : y ≤ 2 ^ a2.toNat - 1) (g : a + a2 ≤ 16) :
    Calls Tryz.prog 65 #[.agg #[.int .i64 18, .int .i64 wd, .int .i64 n, .string nm, .slice (some ⟨b, o, none⟩) 2 cap], .slice (some ⟨bw, 0, none⟩) 3 3] w fun e w' => e = .returned (.int .i64 (joinM x a2 y)) ∧ Below w.heap.size w w' := by
  have KX := Lib.hid (fun W => i_join a x a2 y h1 h2 h3 h4 k1 k2 k3 k4 g W)
  go_enter Tryz.func65, Tryz.ntmps65
  go_wp2
  go_region_with (go_at_call 85; refine (KX.out _).mono ?_; rintro e w1 ⟨rfl, rfl⟩)
  all_goals
    go_wp2
    go_ret
    first | exact ⟨rfl, ((Below.refl _ _).alloc (Nat.le_refl _) _).drew⟩ | exact ⟨rfl, ((Below.refl _ _).alloc (Nat.le_refl _) _)⟩
set_option maxRecDepth 100000 in
set_option maxHeartbeats 2000000 in
theorem i_ap_cut (wd n a x : Int) (nm : ByteArray) (b o cap bw : Nat) (w : World) (hbl : b < w.heap.size) (hbw : bw < w.heap.size) (c0 : w.cell? ⟨b, o + 1, none⟩ = some (.int .i64 a)) (d0 : w.cell? ⟨bw, 0, none⟩ = some (.int .i64 x)) (h1 : 1 ≤ a) (h2 : a ≤ 16) (h3 : 0 ≤ x) (h4 : x ≤ 2 ^ a.toNat - 1) (g0 : 0 ≤ n) (g1 : 1 ≤ wd) (g2 : n + wd ≤ a) :
    Calls Tryz.prog 65 #[.agg #[.int .i64 19, .int .i64 wd, .int .i64 n, .string nm, .slice (some ⟨b, o, none⟩) 1 cap], .slice (some ⟨bw, 0, none⟩) 3 3] w fun e w' => e = .returned (.int .i64 (cutM x n wd)) ∧ Below w.heap.size w w' := by
  have KX := Lib.hid (fun W => i_cut a x n wd h1 h2 h3 h4 g0 g1 g2 W)
  go_enter Tryz.func65, Tryz.ntmps65
  go_wp2
  go_region_with (go_at_call 86; refine (KX.out _).mono ?_; rintro e w1 ⟨rfl, rfl⟩)
  all_goals
    go_wp2
    go_ret
    first | exact ⟨rfl, ((Below.refl _ _).alloc (Nat.le_refl _) _).drew⟩ | exact ⟨rfl, ((Below.refl _ _).alloc (Nat.le_refl _) _)⟩
set_option maxRecDepth 100000 in
set_option maxHeartbeats 2000000 in
theorem i_ap_w20 (wd n a x : Int) (nm : ByteArray) (b o cap bw : Nat) (w : World) (hbl : b < w.heap.size) (hbw : bw < w.heap.size) (c0 : w.cell? ⟨b, o + 1, none⟩ = some (.int .i64 a)) (d0 : w.cell? ⟨bw, 0, none⟩ = some (.int .i64 x)) (h1 : 1 ≤ a) (h2 : a ≤ 16) (h3 : 0 ≤ x) (h4 : x ≤ 2 ^ a.toNat - 1) (g1 : a ≤ wd) (g2 : wd ≤ 16) :
    Calls Tryz.prog 65 #[.agg #[.int .i64 20, .int .i64 wd, .int .i64 n, .string nm, .slice (some ⟨b, o, none⟩) 1 cap], .slice (some ⟨bw, 0, none⟩) 3 3] w fun e w' => e = .returned (.int .i64 (widenM a x wd false)) ∧ Below w.heap.size w w' := by
  have KX := Lib.hid (fun W => i_widen a x wd false h1 h2 h3 h4 g1 g2 W)
  go_enter Tryz.func65, Tryz.ntmps65
  go_wp2
  go_region_with (go_at_call 87; refine (KX.out _).mono ?_; rintro e w1 ⟨rfl, rfl⟩)
  all_goals
    go_wp2
    go_ret
    first | exact ⟨rfl, ((Below.refl _ _).alloc (Nat.le_refl _) _).drew⟩ | exact ⟨rfl, ((Below.refl _ _).alloc (Nat.le_refl _) _)⟩
set_option maxRecDepth 100000 in
set_option maxHeartbeats 2000000 in
theorem i_ap_w21 (wd n a x : Int) (nm : ByteArray) (b o cap bw : Nat) (w : World) (hbl : b < w.heap.size) (hbw : bw < w.heap.size) (c0 : w.cell? ⟨b, o + 1, none⟩ = some (.int .i64 a)) (d0 : w.cell? ⟨bw, 0, none⟩ = some (.int .i64 x)) (h1 : 1 ≤ a) (h2 : a ≤ 16) (h3 : 0 ≤ x) (h4 : x ≤ 2 ^ a.toNat - 1) (g1 : a ≤ wd) (g2 : wd ≤ 16) :
    Calls Tryz.prog 65 #[.agg #[.int .i64 21, .int .i64 wd, .int .i64 n, .string nm, .slice (some ⟨b, o, none⟩) 1 cap], .slice (some ⟨bw, 0, none⟩) 3 3] w fun e w' => e = .returned (.int .i64 (widenM a x wd true)) ∧ Below w.heap.size w w' := by
  have KX := Lib.hid (fun W => i_widen a x wd true h1 h2 h3 h4 g1 g2 W)
  go_enter Tryz.func65, Tryz.ntmps65
  go_wp2
  go_region_with (go_at_call 87; refine (KX.out _).mono ?_; rintro e w1 ⟨rfl, rfl⟩)
  all_goals
    go_wp2
    go_ret
    first | exact ⟨rfl, ((Below.refl _ _).alloc (Nat.le_refl _) _).drew⟩ | exact ⟨rfl, ((Below.refl _ _).alloc (Nat.le_refl _) _)⟩
end Go.Proofs.YtpojldocjaieoaaGreatDoor
namespace Go.Proofs.YtpojldocjaieoaaGreatDoor
open Go.ChangeShapes Go.WideShapes Go.ChangeAt Go.RowKit
open ValueR (all costs)
/-- the words stand at the head of three cells -/
def Pre3 (xs : List Int) (a0 a1 a2 : Int) : Prop := (∀ x, xs[0]? = some x → a0 = x) ∧ (∀ x, xs[1]? = some x → a1 = x) ∧ (∀ x, xs[2]? = some x → a2 = x)
theorem pre_snoc {xs : List Int} {a0 a1 a2 x : Int} (h : Pre3 xs a0 a1 a2) (hl : xs.length < 3) : Pre3 (xs ++ [x]) (if xs.length = 0 then x else a0) (if xs.length = 1 then x else a1) (if xs.length = 2 then x else a2) := by
  match xs, hl, h with
  | [], _, _ => exact ⟨fun y hy => by cases hy; rfl, fun y hy => by simp at hy, fun y hy => by simp at hy⟩
  | [p], _, ⟨h0, _, _⟩ => exact ⟨fun y hy => by cases hy; exact h0 p rfl, fun y hy => by cases hy; rfl, fun y hy => by simp at hy⟩
  | [p, q], _, ⟨h0, h1, _⟩ => exact ⟨fun y hy => by cases hy; exact h0 p rfl, fun y hy => by cases hy; exact h1 q rfl, fun y hy => by cases hy; rfl⟩
theorem i_apply {op wd n : Int} {nm : ByteArray} {k : Fo} {s : Value} {xs : List Int} {a0 a1 a2 : Int} {bw : Nat} {w : World} (his : (k.cs 69).Is w 0 5 k.len s) (hfit : fitB op wd n nm k.ws = true) (h0 : op ≠ 0) (h22 : op ≠ 22) (hall : k.allB = true) (hx : AreW k.ws xs)
    (hbw : bw < w.heap.size) (d0 : w.cell? ⟨bw, 0, none⟩ = some (.int .i64 a0)) (d1 : w.cell? ⟨bw, 1, none⟩ = some (.int .i64 a1)) (d2 : w.cell? ⟨bw, 2, none⟩ = some (.int .i64 a2)) (hp : Pre3 xs a0 a1 a2) :
    Calls Tryz.prog 65 #[.agg #[.int .i64 op, .int .i64 wd, .int .i64 n, .string nm, s], .slice (some ⟨bw, 0, none⟩) 3 3] w fun e w' => e = .returned (.int .i64 (appM op wd n k.ws xs)) ∧ Below w.heap.size w w' := by
  obtain ⟨hw, hs⟩ := fit_shape hfit h0 h22 (ws_ok k hall)
  obtain ⟨p0, p1, p2⟩ := hp
  rcases hs with ⟨ho, e⟩ | ⟨h1, h2, e⟩ | ⟨a, h1, h2, rfl, e, _, _⟩ | ⟨rfl, e⟩ | ⟨a, a2', rfl, e, hsum, _, _⟩ | ⟨a, rfl, e, hn0, hnw, _⟩ | ⟨a, ho, e, _, _⟩
  · rw [e] at hx ⊢
    obtain ⟨b, o, cap, rfl, hbl, hc⟩ := kid_ws his e (by simp)
    match xs, hx with
    | [x], ⟨⟨q1, q2, q3, q4⟩, _⟩ =>
      rw [p0 x rfl] at d0
      rw [app1, if_pos ho]
      rcases ho with rfl | rfl
      · exact i_ap_u1 wd n x nm b o cap bw w hbl hbw (hc 0 _ rfl) d0 q1 q2 q3 q4
      · exact i_ap_u2 wd n x nm b o cap bw w hbl hbw (hc 0 _ rfl) d0 q1 q2 q3 q4
  · rw [e] at hx ⊢
    obtain ⟨b, o, cap, rfl, hbl, hc⟩ := kid_ws his e (by simp)
    match xs, hx with
    | [x, y], ⟨⟨q1, q2, q3, q4⟩, ⟨_, _, r3, r4⟩, _⟩ =>
      rw [p0 x rfl] at d0
      rw [p1 y rfl] at d1
      rw [app2, if_neg (by omega)]
      exact i_ap_bin op wd n wd x y nm b o cap bw w hbl hbw (hc 0 _ rfl) d0 d1 h1 (by omega) q1 q2 q3 q4 r3 r4
  · rw [e] at hx ⊢
    obtain ⟨b, o, cap, rfl, hbl, hc⟩ := kid_ws his e (by simp)
    match xs, hx with
    | [x, y], ⟨⟨q1, q2, q3, q4⟩, ⟨_, _, r3, r4⟩, _⟩ =>
      rw [p0 x rfl] at d0
      rw [p1 y rfl] at d1
      rw [app2, if_neg (by omega)]
      exact i_ap_bin op 1 n a x y nm b o cap bw w hbl hbw (hc 0 _ rfl) d0 d1 (by omega) h2 q1 q2 q3 q4 r3 r4
  · rw [e] at hx ⊢
    obtain ⟨b, o, cap, rfl, hbl, hc⟩ := kid_ws his e (by simp)
    match xs, hx with
    | [x, y, z], _ =>
      rw [p0 x rfl] at d0
      rw [p1 y rfl] at d1
      rw [p2 z rfl] at d2
      rw [app3]
      exact i_ap_if wd n 1 x y z nm b o cap bw w hbl hbw (hc 0 _ rfl) d0 d1 d2
  · rw [e] at hx ⊢
    obtain ⟨b, o, cap, rfl, hbl, hc⟩ := kid_ws his e (by simp)
    match xs, hx with
    | [x, y], ⟨⟨q1, q2, q3, q4⟩, ⟨r1, r2, r3, r4⟩, _⟩ =>
      rw [p0 x rfl] at d0
      rw [p1 y rfl] at d1
      rw [app2, if_pos rfl]
      exact i_ap_join wd n a a2' x y nm b o cap bw w hbl hbw (hc 0 _ rfl) (hc 1 _ rfl) d0 d1 q1 q2 q3 q4 r1 r2 r3 r4 (by omega)
  · rw [e] at hx ⊢
    obtain ⟨b, o, cap, rfl, hbl, hc⟩ := kid_ws his e (by simp)
    match xs, hx with
    | [x], ⟨⟨q1, q2, q3, q4⟩, _⟩ =>
      rw [p0 x rfl] at d0
      rw [app1, if_neg (by decide), if_pos rfl]
      exact i_ap_cut wd n a x nm b o cap bw w hbl hbw (hc 0 _ rfl) d0 q1 q2 q3 q4 hn0 hw.1 hnw
  · rw [e] at hx ⊢
    obtain ⟨b, o, cap, rfl, hbl, hc⟩ := kid_ws his e (by simp)
    match xs, hx with
    | [x], ⟨⟨q1, q2, q3, q4⟩, _⟩ =>
      rw [p0 x rfl] at d0
      rw [app1, if_neg (by omega), if_neg (by omega)]
      rcases ho with rfl | rfl
      · exact i_ap_w20 wd n a x nm b o cap bw w hbl hbw (hc 0 _ rfl) d0 q1 q2 q3 q4 (by assumption) hw.2
      · exact i_ap_w21 wd n a x nm b o cap bw w hbl hbw (hc 0 _ rfl) d0 q1 q2 q3 q4 (by assumption) hw.2
end Go.Proofs.YtpojldocjaieoaaGreatDoor
