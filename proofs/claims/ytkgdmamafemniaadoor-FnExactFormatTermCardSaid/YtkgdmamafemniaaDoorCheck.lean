/- checkTerm, TermOk and VarsOf of the program. -/
import Derived.Test.YtkgdmamafemniaaDoorAcc
namespace Go.Proofs.YtkgdmamafemniaaDoor
open Go.ChangeShapes Go.WideShapes Go.ChangeAt Go.RowKit
open ValueR (all costs)
def ChkEnd (w : World) (res : Option (Nat × List ValueR)) (e : Ending) (w' : World) : Prop := Below w.heap.size w w' ∧ match res with
  | some p => ∃ q cap, e = .returned (.tuple #[.slice q p.2.length cap, .bool true]) ∧ w'.ownsRow w.heap.size 74 3 (.slice q p.2.length cap) p.2.length (all p.2) ∧ p.2.length ≤ 240
  | none => e = .returned (.tuple #[.slice none 0 0, .bool false])
set_option maxRecDepth 100000 in
set_option maxHeartbeats 2000000 in
theorem check_term (k : Fo) (op wd n : Int) (nm : ByteArray) (s : Value) (w : World) (his : (k.cs 29).Is w 0 5 k.len s) (hnm : nm.size ≤ 1048576) (hk : k.cost ≤ 1048576) :
    Calls Tryd.prog 38 #[.agg #[.int .i64 op, .int .i64 wd, .int .i64 n, .string nm, s]] w (ChkEnd w (accOne op wd n nm k 0 [])) := by
  have HIS := Lib.hid his
  obtain ⟨_, ⟨_, q, cap, rfl, _⟩, _⟩ := his
  obtain ⟨W1, hW1⟩ : ∃ W1, W1 = (w.alloc (.cells #[.int .i64 op, .int .i64 wd, .int .i64 n, .string nm, .slice q k.len cap] 29)).alloc (.cells #[.int .i64 0, .slice none 0 0] 76) := ⟨_, rfl⟩
  have HB : Hid (Below w.heap.size w W1) := Lib.hid (by rw [hW1]; exact ((Below.refl _ _).alloc (Nat.le_refl _) _).alloc (by simp) _)
  have HS : Hid (StAt w.heap.size (w.heap.size + 1) 0 [] W1) := Lib.hid ⟨.slice none 0 0, by
    rw [hW1]
    have := heap_alloc_new (w.alloc (.cells #[.int .i64 op, .int .i64 wd, .int .i64 n, .string nm, .slice q k.len cap] 29)) (.cells #[.int .i64 0, .slice none 0 0] 76)
    simpa using this, ⟨rfl, .inl ⟨rfl, rfl⟩⟩, by simp [Value.ownBlock], List.Pairwise.nil, by omega⟩
  have AC := Lib.hid (acc_any k w op wd n nm _ (w.heap.size + 1) 0 [] W1 HIS.out HB.out HS.out hnm hk (by simp) (by omega))
  unfold AccEnd at AC
  obtain ⟨res, hres⟩ : ∃ res, accOne op wd n nm k 0 [] = res := ⟨_, rfl⟩
  rw [hres] at AC ⊢
  clear hres
  go_enter Tryd.func38, Tryd.ntmps38
  cases res with
  | none =>
    dsimp only at AC
    go_wp2_with fail
    rw [← hW1]
    refine AC.out.mono ?_
    rintro e w2 ⟨hb2, rfl⟩
    go_wp2
    go_ret2
    exact ⟨hb2, rfl⟩
  | some p =>
    dsimp only at AC
    go_wp2_with fail
    rw [← hW1]
    refine AC.out.mono ?_
    rintro e w2 ⟨hb2, rfl, hs2, hl2, hc2⟩
    obtain ⟨vv, hbk, hown, _, _, _⟩ := hs2
    obtain ⟨q2, cap2, rfl⟩ : ∃ q cap, vv = .slice q p.2.length cap := by
      rcases hown.2 with ⟨rfl, h⟩ | ⟨g, cap, cur, rfl, _⟩
      · exact ⟨none, 0, by rw [h]⟩
      · exact ⟨_, cap, rfl⟩
    have f1 : w2.cell? ⟨w.heap.size + 1, 1, none⟩ = some (.slice q2 p.2.length cap2) := cell_of_row w2 _ 1 _ _ _ hbk
    have HO := Lib.hid hown
    clear hown hbk
    go_wp2
    go_ret2
    exact ⟨hb2, q2, cap2, rfl, HO.out, by omega⟩
/-- TermOk of the program -/
theorem i_termok (k : Fo) (op wd n : Int) (nm : ByteArray) (s : Value) (w : World) (his : (k.cs 29).Is w 0 5 k.len s) (hnm : nm.size ≤ 1048576) (hk : k.cost ≤ 1048576) :
    Calls Tryd.prog 19 #[.agg #[.int .i64 op, .int .i64 wd, .int .i64 n, .string nm, s]] w fun e w' => e = .returned (.bool (accOne op wd n nm k 0 []).isSome) ∧ Below w.heap.size w w' := by
  have HIS := Lib.hid his
  obtain ⟨_, ⟨_, q, cap, rfl, _⟩, _⟩ := his
  have CT := Lib.hid (fun W (hW : Below w.heap.size w W) => check_term k op wd n nm _ W (HIS.out.below hW) hnm hk)
  unfold ChkEnd at CT
  obtain ⟨res, hres⟩ : ∃ res, accOne op wd n nm k 0 [] = res := ⟨_, rfl⟩
  rw [hres] at CT ⊢
  clear hres
  go_enter Tryd.func19, Tryd.ntmps19
  cases res with
  | none =>
    dsimp only at CT
    go_wp2_with (go_at_call 38; refine (CT.out _ ((Below.refl _ _).alloc (Nat.le_refl _) _)).mono ?_; rintro e w1 ⟨hb1, rfl⟩)
    go_ret
    exact ⟨rfl, ((Below.refl _ _).alloc (Nat.le_refl _) _).trans (hb1.mono (by simp))⟩
  | some p =>
    dsimp only at CT
    go_wp2_with (go_at_call 38; refine (CT.out _ ((Below.refl _ _).alloc (Nat.le_refl _) _)).mono ?_; rintro e w1 ⟨hb1, q1, cap1, rfl, _, _⟩)
    go_ret
    exact ⟨rfl, ((Below.refl _ _).alloc (Nat.le_refl _) _).trans (hb1.mono (by simp))⟩
/-- what VarsOf gives back -/
def VarsEnd (w : World) (V : List ValueR) (e : Ending) (w' : World) : Prop := Below w.heap.size w w' ∧ ∃ q cap, e = .returned (.slice q V.length cap) ∧ w'.ownsRow w.heap.size 74 3 (.slice q V.length cap) V.length (all V)
/-- the variables of a term -/
noncomputable def varsAll (op wd n : Int) (nm : ByteArray) (k : Fo) : List ValueR := match accOne op wd n nm k 0 [] with
  | some p => p.2
  | none => []
end Go.Proofs.YtkgdmamafemniaaDoor
