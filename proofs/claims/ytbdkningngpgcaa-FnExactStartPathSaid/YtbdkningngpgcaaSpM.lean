/- The model of StartPath: lists of the constant 0. No condition. -/
import Derived.Test.YtbdkningngpgcaaPath
import Derived.Test.YtbdkningngpgcaaPrM
namespace Go.Proofs.Ytbdkningngpgcaa
open Go.ChangeShapes Go.WideShapes Go.ChangeAt Go.RowKit
/-- so many constants 0 -/
def repF (vw : Int) : Nat → Fo
  | 0 => .nil
  | n + 1 => .cons 0 vw 0 ByteArray.empty .nil (repF vw n)
def zc (vw : Int) : List Value := [.int .i64 0, .int .i64 vw, .int .i64 0, .string ByteArray.empty, .slice none 0 0]
def zcs (vw : Int) (n : Nat) : List Value := (List.replicate n (zc vw)).flatten
theorem zcs_len (vw : Int) : ∀ n, (zcs vw n).length = n * 5
  | 0 => rfl
  | n + 1 => by
    have := zcs_len vw n
    unfold zcs at *
    rw [List.replicate_succ, List.flatten_cons, List.length_append, this]
    simp [zc]; omega
theorem zcs_succ (vw : Int) (n : Nat) : zcs vw (n + 1) = zcs vw n ++ zc vw := by
  unfold zcs
  rw [List.replicate_succ', List.flatten_append]
  simp
theorem zcs_add (vw : Int) (m n : Nat) : zcs vw (m + n) = zcs vw m ++ zcs vw n := by
  unfold zcs
  rw [← List.replicate_append_replicate, List.flatten_append]
theorem zcs_one (vw : Int) (n : Nat) : ∀ u ∈ zcs vw n, u.oneCell' = true := by
  intro u hu
  unfold zcs at hu
  rw [List.mem_flatten] at hu
  obtain ⟨l, hl, hu⟩ := hu
  rw [List.mem_replicate] at hl
  rw [hl.2] at hu
  simp [zc] at hu
  rcases hu with rfl | rfl | rfl | rfl | rfl <;> rfl
theorem repF_len (vw : Int) : ∀ n, (repF vw n).len = n
  | 0 => rfl
  | n + 1 => by rw [repF, Fo.len, repF_len vw n]
theorem repF_nodes (vw : Int) : ∀ n, (repF vw n).nodes = n
  | 0 => rfl
  | n + 1 => by rw [repF, Fo.nodes, repF_nodes vw n]; simp [Fo.nodes]; omega
theorem rep_cells {w : World} {base : Nat} {T : TypeId} (vw : Int) : ∀ n, ((repF vw n).cs T).Own w base (zcs vw n) []
  | 0 => ⟨rfl, rfl⟩
  | n + 1 => by
    have h1 : (Fo.one T 0 vw 0 ByteArray.empty .nil).Own w base (zc vw) [] := Fo.own_one ⟨[], [], World.ownsRow_nil _ _ _ _, ⟨rfl, rfl⟩, by simp [Value.ownBlock]⟩
    have h2 := Cs.own_app h1 (rep_cells (w := w) (base := base) (T := T) vw n)
    rw [repF, Fo.cs_cons]
    have e : zcs vw (n + 1) = zc vw ++ zcs vw n := by unfold zcs; rw [List.replicate_succ, List.flatten_cons]
    rw [e]
    exact h2
theorem rep_has {w : World} {base n : Nat} {v : Value} {vw : Int} (h : w.ownsRow base 87 5 v n (zcs vw n)) : ((repF vw n).cs 87).Has w base 87 5 (repF vw n).len v v.ownBlock.toList := by
  rw [repF_len]
  exact ⟨_, [], h, rep_cells vw n, by simp⟩
def zeroPa : PaR := ⟨0, .nil, .nil, [], 0, .nil, 0, 0, .nil, []⟩
def spV (vw vm vi : Int) (L : List InsR) : PaR := if prB vw vm vi L = true then ⟨0, repF vw 4, repF vw vm.toNat, [], 0, .nil, 0, 0, .nil, []⟩ else zeroPa
end Go.Proofs.Ytbdkningngpgcaa
