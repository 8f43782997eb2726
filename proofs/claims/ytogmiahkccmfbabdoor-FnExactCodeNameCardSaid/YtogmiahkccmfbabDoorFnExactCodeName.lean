/- Proved: for every input the law FnExactCodeName returns true and leaves everything as it was. The one condition, that the table codeNames holds what the program's text lays there, is tied to that text by the card. -/
import Derived.Test.YtogmiahkccmfbabDoorCdNm
import Derived.Test.YtogmiahkccmfbabDoorCards
import Derived.Test.YtogmiahkccmfbabDoorTie
import Derived.Below
import Derived.SevenTiedAt
namespace Go.Proofs.YtogmiahkccmfbabDoor.fnExactCodeName
open Go.ChangeShapes Go.WideShapes Go.ChangeAt Go.RowKit
open Go.ChangeMaps (open_string shut_string)
theorem own : ownKnob Tryd.prog.godebug = none := by kernel_rfl
theorem door_met (os : Os) (args : Array Value) : laidMetH Tryd.prog [("loop.example/g03219/impl.codeNames", Rows.laid_loop_example_g03219_impl_codeNames)] ((World.doorLaid Tryd.prog 400 os).forCall (fun _ _ => 0) ⟨#[], args, []⟩).memory :=
  laidMetH_of_parts3 (fuel := 8) (laidMet_of_run' 8 (by kernel_rfl) (by kernel_rfl)) (by kernel_rfl) (by kernel_rfl)
theorem reads_table {H : Type} (enc : TypeId × Value → H) (W : World) (sp : Nat → Bool) : DataW.trod enc Tryd.prog W 0 sp true 3 26 nmCells.toList = some (.agg (nmL.map fun l => (.lit (.string l) : DataW H)), []) := by kernel_rfl
theorem var_grown {W W' : World} (h : Grown W W') {t : TypeId} {fr : Nat × Nat} (hr : W.heap[0]? = some (.cells nmCells t fr)) : W'.var? Tryd.prog "loop.example/g03219/impl.codeNames" = some nmCells := by
  have hlt : 0 < W.heap.size := by
    rcases Nat.lt_or_ge 0 W.heap.size with h' | h'
    · exact h'
    · rw [Array.getElem?_eq_none h'] at hr; cases hr
  have k := h.1.2.2 0 hlt
  rw [hr] at k
  unfold World.var?
  rw [gNames]
  simp only [Option.bind_some]
  split at k
  · rename_i c0 t0 f0 c1 t1 f1 e0 e1
    cases e0
    obtain ⟨_, _, _, hc⟩ := k
    have : c1 = nmCells := Array.ext_getElem? fun j => hc j (fun f => f)
    rw [e1, this]
  · rename_i e0 e1
    cases e0
  · rw [k]
set_option maxRecDepth 100000 in
theorem lifted (os : Os) (started : os.Started) (H : Type) (enc : TypeId × Value → H) :
    ReturnsInHanded {} Tryd.checked os 3 .any (fun w args => (Rows.fnExactCodeNameSpec.pre enc Tryd.prog Tryd.f3 [] false w args ∧ laidMetH Tryd.prog [("loop.example/g03219/impl.codeNames", Rows.laid_loop_example_g03219_impl_codeNames)] w) ∧ sizedMet enc Tryd.prog Tryd.f3 (OpenSpec.ofChange Rows.fnExactCodeNameSpec) false w args)
      (Rows.fnExactCodeNameSpec.post enc Tryd.prog Tryd.f3 false true false false) := by
  refine returnsInHanded_of_change_and (C := Tryd.checked) (X := fun w _ => laidMetH Tryd.prog [("loop.example/g03219/impl.codeNames", Rows.laid_loop_example_g03219_impl_codeNames)] w) (fun _ _ _ hh h => h.of_heap hh) own started (by kernel_rfl) Tryd.func3
    (ChangeSpec.witness_shaped (enc := enc) (C := Tryd.checked) (os := os) (X := fun w _ => laidMetH Tryd.prog [("loop.example/g03219/impl.codeNames", Rows.laid_loop_example_g03219_impl_codeNames)] w) false (World.doorLaid Tryd.prog 400 os) #[.int .i64 0] 8 rfl (World.shaped_of_RefB (by kernel_rfl) (by kernel_rfl)) (by kernel_rfl) (by kernel_rfl) (by kernel_rfl) (door_met os _)) ?_
  intro W base args ds gs before hval0 hW _ _ hL _
  have hval : ∀ (j : Nat) t v, Tryd.f3.params[j]? = some t → args[j]? = some v → Value.okWide Tryd.prog W .any base t v := hval0
  have hW' := hW
  obtain ⟨p, q, hA0, hV0, rfl, hfz, hnd⟩ := hW
  have hA : DataW.TrodAll enc Tryd.prog W 0 (fun _ => true) true Tryd.f3.params.toList args.toList ds p := hA0
  have hV : DataW.TrodVars enc Tryd.prog W (fun _ => true) ["loop.example/g03219/impl.codeNames"] gs q := hV0
  rw [Tryd.params3] at hA hval
  obtain ⟨v0, d0, rfl, rfl, h0⟩ := trodAll_one hA
  obtain ⟨a0, rfl, rfl, rfl, w0⟩ := open_int Tryd.underlying3 (hval 0 3 v0 rfl rfl) h0
  have hvar := var_of_laid hL
  obtain ⟨g, t, cs, fuel, d, p', rfl, hg, ht, hvar', hd, rfl⟩ := trodVars_one hV
  obtain rfl := Option.some.inj (gNames.symm.trans hg)
  obtain rfl := Option.some.inj (tNames.symm.trans ht)
  obtain rfl : cs = nmCells := Option.some.inj (hvar'.symm.trans hvar)
  obtain ⟨rfl, rfl⟩ := DataW.Trod.unique (v := .agg nmCells) ⟨fuel, hd⟩ ⟨3, reads_table enc W _⟩
  clear hA0 hV0 hval0
  obtain ⟨tr, fr, hr⟩ := row_of_var hvar
  refine (law_codeName a0 W hvar).mono fun e W' ⟨he, hg'⟩ => ?_
  subst he
  have hvars : ∀ sp : Nat → Bool, DataW.TrodVars enc Tryd.prog W' sp ["loop.example/g03219/impl.codeNames"] [.agg (nmL.map fun l => (.lit (.string l) : DataW H))] (MemPlace.row ⟨0, 0, none⟩ nmCells.size ++ [] ++ []) := fun sp =>
    ⟨0, 26, nmCells, 3, [], [], gNames, tNames, var_grown hg' hr, reads_table enc W' sp, rfl, rfl⟩
  exact ⟨_, rfl, post_of_same (pa := []) hW' (fun _ _ _ => trodAll_mk1 (shut_bool Tryd.underlying4 _)) (fun sp _ => trodAll_mk1 (shut_int Tryd.underlying3 w0)) (fun sp _ => hvars sp) (by simp)
    (hg'.frame _) hg'.2.1 (ok_one (by kernel_rfl) rfl (okWide_bool_mk Tryd.underlying4 _))⟩

theorem row_holds : Rows.FnExactCodeNameSaid :=
  OpenClaim.holds_of_wide 3 Tryd.f3 rfl rfl rfl rfl rfl rfl rfl ⟨rfl, rfl, rfl, rfl, rfl⟩ rfl rfl rfl rfl rfl (by kernel_rfl) Tryd.func3 (by kernel_rfl)
    (of_decide_eq_true (by kernel_rfl)) (by unfold Func.isWrapper; first | (rw [if_pos (by decide +kernel)]; kernel_rfl) | (rw [if_neg (by decide +kernel)]; exact ⟨rfl, rfl⟩))
    (fun os started H enc _ => lifted os started H enc)

theorem proved : Rows.FnExactCodeNameCardSaid :=
  Claim7.holds_tied_plain_at .later [] [.data] true Rows.fnExactCodeNameCard.stood.harness false
    row_holds (fun _ h => by cases h) (by kernel_rfl) (fun _ h => by cases h) fnExactCodeName_row_tie rfl ⟨rfl, rfl⟩ (by kernel_rfl) rfl
    (fun f fn hf hfn => by
      obtain rfl : f = 3 := Option.some.inj ((show Tryd.prog.funcNamed "loop.example/g03219/laws.FnExactCodeName" = some 3 by kernel_rfl).symm.trans hf) |>.symm
      obtain rfl : fn = Tryd.f3 := (Option.some.inj (Tryd.func3.symm.trans hfn)).symm
      exact ⟨by kernel_rfl, fun j t ht => by
        rw [Tryd.params3] at ht
        have hm : t ∈ [3] := by simpa using Array.mem_of_getElem? ht
        have hall : ([3].all fun u => !Tryd.prog.wantsStandIn u) = true := by kernel_rfl
        exact (show Tryd.prog.wantsStandIn t = false by simpa using List.all_eq_true.1 hall t hm)⟩)
    (by kernel_rfl)
#print axioms proved
end Go.Proofs.YtogmiahkccmfbabDoor.fnExactCodeName
