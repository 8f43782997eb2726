/- What the specification's l05Step returns. No condition. The specification's test of a range. No condition. -/
import Derived.Test.YthmababifgaejaaGreatCmStSA
import Derived.Test.YthmababifgaejaaGreatCmStSC
import Derived.Test.YthmababifgaejaaGreatRows
import Derived.Test.YthmababifgaejaaGreatCmGCs
import Derived.WalkSpells
namespace Go.Proofs.YthmababifgaejaaGreat
open Go.ChangeShapes Go.WideShapes Go.ChangeAt Go.RowKit
theorem s_step (vw vm vi : Int) (L : List InsR) (x : StR) (I : List Int) (sL r m s o li : Value) (base : Nat) (w : World) (hp : prB vw vm vi L = true) (hG : Gd vw vm vi L.length x) (hI : (I.length : Int) = vi ∧ ∀ y ∈ I, IsW vw y) (hs : Cs.Shows w 0 4 sL L.length (InsR.all L)) (hli : Cs.Shows w 0 1 li I.length (IntL.all I)) (ho : StO w base x r m s o) (hbase : base ≤ w.heap.size) :
    Calls Tryz.prog 33 #[.agg #[.int .i64 vw, .int .i64 vm, .int .i64 vi, sL], .agg #[.int .i64 x.pc, r, m, s, .int .i64 x.inn, o, .int .i64 x.cd, .int .i64 x.st], li] w (SqEnd r m s o base (stepV vw vm vi L I x) w) := by
  obtain ⟨pc, R, M, S, inn, O, cd, st⟩ := x
  by_cases hcd : cd ≠ 0 ∨ st = 400
  · exact s_stepE vw vm vi L pc R M S inn O cd st I sL r m s o li base w hp hG hI hs hli ho hbase (.inl hcd)
  · by_cases hpl : pc = L.length
    · exact s_stepE vw vm vi L pc R M S inn O cd st I sL r m s o li base w hp hG hI hs hli ho hbase (.inr hpl)
    · obtain ⟨k, hk, hpk, hLk⟩ := getD_ins (L := L) hG.pc.1 (show pc < L.length by have : pc ≤ (L.length : Int) := hG.pc.2; omega)
      have hop := (ins_parts ((pr_in hp).2 k hk)).1
      have hLk' : L.getD pc.toNat ⟨0, 0, 0, 0⟩ = L[k] := hLk
      by_cases h1 : L[k].f0 ≤ 5
      · exact s_stepA vw vm vi L pc R M S inn O cd st I sL r m s o li base w hp hG hI hs hli ho hbase hcd hpl (by rw [hLk']; exact ⟨hop.1, h1⟩)
      · by_cases h2 : L[k].f0 ≤ 8
        · exact s_stepB vw vm vi L pc R M S inn O cd st I sL r m s o li base w hp hG hI hs hli ho hbase hcd hpl (by rw [hLk']; omega)
        · by_cases h3 : L[k].f0 ≤ 11
          · exact s_stepC vw vm vi L pc R M S inn O cd st I sL r m s o li base w hp hG hI hs hli ho hbase hcd hpl (by rw [hLk']; omega)
          · exact s_stepD vw vm vi L pc R M S inn O cd st I sL r m s o li base w hp hG hI hs hli ho hbase hcd hpl (by rw [hLk']; omega)
end Go.Proofs.YthmababifgaejaaGreat
namespace Go.Proofs.YthmababifgaejaaGreat
open Go.ChangeShapes Go.RowKit
set_option maxRecDepth 100000 in
theorem s_in_lo (x a b : Int) (h : x < a) (w : World) : Calls Tryz.prog 20 #[.int .i64 x, .int .i64 a, .int .i64 b] w fun e w' => e = .returned (.bool false) ∧ w = w' := by
  go_enter Tryz.func20, Tryz.ntmps20
  go_wp2
  go_ret
  exact ⟨rfl, rfl⟩
set_option maxRecDepth 100000 in
theorem s_in_hi (x a b : Int) (h : b < x) (w : World) : Calls Tryz.prog 20 #[.int .i64 x, .int .i64 a, .int .i64 b] w fun e w' => e = .returned (.bool false) ∧ w = w' := by
  by_cases h1 : a ≤ x
  · have h2 : decide (x ≤ b) = false := by simp; omega
    go_enter Tryz.func20, Tryz.ntmps20
    go_wp2
    go_ret
    exact ⟨rfl, rfl⟩
  · exact s_in_lo x a b (by omega) w
set_option maxRecDepth 100000 in
theorem s_in_ok (x a b : Int) (h1 : a ≤ x) (h2 : x ≤ b) (w : World) : Calls Tryz.prog 20 #[.int .i64 x, .int .i64 a, .int .i64 b] w fun e w' => e = .returned (.bool true) ∧ w = w' := by
  go_enter Tryz.func20, Tryz.ntmps20
  go_wp2
  go_ret
  exact ⟨rfl, rfl⟩
theorem sz_arr (l : List UInt8) : (⟨l.toArray⟩ : ByteArray).size = l.length := by simp [ByteArray.size]
end Go.Proofs.YthmababifgaejaaGreat
