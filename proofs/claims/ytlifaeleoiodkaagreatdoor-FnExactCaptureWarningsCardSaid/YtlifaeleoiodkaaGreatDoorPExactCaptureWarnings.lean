/-
  'FnExactCaptureWarnings' returns true whatever it is called with, and its arguments read as they did: a card, its listed variables tied to the program's text; none of them is read on the way. No condition besides.
-/
import Derived.Test.YtlifaeleoiodkaaGreatDoorRows
import Derived.Test.YtlifaeleoiodkaaGreatDoorCards
import Derived.Test.YtlifaeleoiodkaaGreatDoorTie
import Derived.LaidMore
import Derived.Lay
import Derived.SevenTiedAt
import Derived.WalkKit
import Derived.ProofKit
import Derived.OpenShut
import Derived.ShutString
import Derived.ChangeOld
import Derived.Below
import Derived.Test.YtlifaeleoiodkaaGreatDoorLawTrees
import Derived.Test.YtlifaeleoiodkaaGreatDoorORule
import Derived.Test.YtlifaeleoiodkaaGreatDoorOWarning
import Derived.Test.YtlifaeleoiodkaaGreatDoorLCaptureWarnings
namespace Go.Proofs.YtlifaeleoiodkaaGreatDoor.fnExactCaptureWarnings
open Go.ChangeShapes Go.WideShapes Go.ChangeAt Go.RowKit
open Go.ChangeMaps (open_string shut_string)
set_option linter.unusedVariables false

theorem own : ownKnob Tryz.prog.godebug = none := by kernel_rfl
theorem laidOut : laidOutB Tryz.prog = true := by kernel_rfl

theorem door_met (os : Os) (args : Array Value) : laidMetH Tryz.prog Rows.fnExactCaptureWarningsRow.laid ((World.laidAll Tryz.prog os Rows.fnExactCaptureWarningsRow.laid).forCall (fun _ _ => 0) ⟨#[], args, []⟩).memory :=
  by rw [MakeChecks.laidMetH_plain _ _ _ (by kernel_rfl)]; exact laidMet_laidAll _ (by kernel_rfl) (by kernel_rfl)

set_option maxRecDepth 100000 in
theorem lifted (os : Os) (started : os.Started) (H : Type) (enc : TypeId × Value → H) :
    ReturnsInHanded {} Tryz.checked os 3 .any (fun w args => (Rows.fnExactCaptureWarningsSpec.pre enc Tryz.prog Tryz.f3 [] false w args ∧ laidMetH Tryz.prog Rows.fnExactCaptureWarningsRow.laid w) ∧ sizedMet enc Tryz.prog Tryz.f3 (OpenSpec.ofChange Rows.fnExactCaptureWarningsSpec) false w args) (Rows.fnExactCaptureWarningsSpec.post enc Tryz.prog Tryz.f3 false true false false) := by
  refine returnsInHanded_of_change_and (C := Tryz.checked) (X := fun w _ => laidMetH Tryz.prog Rows.fnExactCaptureWarningsRow.laid w) (fun _ _ _ hh h => h.of_heap hh) own started (by kernel_rfl) Tryz.func3
    (ChangeSpec.witness_shaped (enc := enc) (C := Tryz.checked) (os := os) (X := fun w _ => laidMetH Tryz.prog Rows.fnExactCaptureWarningsRow.laid w) false (World.laidAll Tryz.prog os Rows.fnExactCaptureWarningsRow.laid) #[.agg #[.slice none 0 0, .slice none 0 0, .int .i64 0], .slice none 0 0, .slice none 0 0] 8 (World.laidAll_os _ _ _) (World.shaped_of_ZipB (by kernel_rfl) (by kernel_rfl)) (by kernel_rfl) (by kernel_rfl) (by kernel_rfl) (door_met os _)) ?_
  intro W base args ds gs before hval0 hW _ _ hL _
  have hval : ∀ (j : Nat) t v, Tryz.f3.params[j]? = some t → args[j]? = some v → Value.okWide Tryz.prog W .any base t v := hval0
  have hW' := hW
  obtain ⟨p, q, hA0, hV, rfl, hfz, hnd⟩ := hW
  have hA : DataW.TrodAll enc Tryz.prog W 0 (fun _ => true) true Tryz.f3.params.toList args.toList ds p := hA0
  rw [Tryz.params3] at hA hval
  obtain ⟨v0, vs0, d0, ds0, p0, q0, hargs, rfl, rfl, h0, r0⟩ := trodAll_cons hA
  obtain ⟨v1, vs1, d1, ds1, p1, q1, rfl, rfl, rfl, h1, r1⟩ := trodAll_cons r0
  obtain ⟨v2, vs2, d2, ds2, p2, q2, rfl, rfl, rfl, h2, r2⟩ := trodAll_cons r1
  obtain ⟨rfl, rfl, rfl⟩ := trodAll_nil r2
  obtain rfl : args = #[v0, v1, v2] := by cases args; simp_all
  obtain ⟨rfl, rfl⟩ := trodVars_none hV
  have k0 := h0
  have lt0 : ∀ x ∈ p0, x.block < W.heap.size := by obtain ⟨m, hm⟩ := k0; exact DataW.trod_lt m _ _ _ hm
  obtain ⟨u0, hu0⟩ := h0
  obtain ⟨cs0, rfl, _⟩ := okWide_agg Tryz.underlying25 (hval 0 25 v0 rfl rfl)
  obtain ⟨Aa0, na0, ca0, Ab0, nb0, cb0, qt0, la0, lb0, ea0, ha0⟩ := openTree (cs := cs0.toList) (by simpa [Value.cells] using hu0)
  obtain rfl : cs0 = #[.slice Aa0 na0 ca0, .slice Ab0 nb0 cb0, .int .i64 qt0] := Array.toList_inj.1 ea0
  have k1 := h1
  have lt1 : ∀ x ∈ p1, x.block < W.heap.size := by obtain ⟨m, hm⟩ := k1; exact DataW.trod_lt m _ _ _ hm
  obtain ⟨u1, hu1⟩ := h1
  obtain ⟨As1, ns1, cps1, hvs1⟩ := okWide_slice Tryz.underlying26 (hval 1 26 v1 rfl rfl)
  obtain ⟨l1, n1, s1, m1⟩ := open_rows rucells 4 rucells_len (by omega) (fun y => y.wd.length ≤ maxLen ∧ y.md.length ≤ maxLen) Tryz.underlying26 (by kernel_rfl) (fun _ _ _ h => openRule h) (v := v1) (by rw [hvs1] at hu1 ⊢; simpa [Value.cells] using hu1)
  obtain ⟨A1, c1, rfl, _, _⟩ := s1.form
  have k2 := h2
  have lt2 : ∀ x ∈ p2, x.block < W.heap.size := by obtain ⟨m, hm⟩ := k2; exact DataW.trod_lt m _ _ _ hm
  obtain ⟨u2, hu2⟩ := h2
  obtain ⟨As2, ns2, cps2, hvs2⟩ := okWide_slice Tryz.underlying27 (hval 2 27 v2 rfl rfl)
  obtain ⟨l2, n2, s2, m2⟩ := open_rows wncells 3 wncells_len (by omega) (fun y => y.tx.length ≤ maxLen ∧ y.md.length ≤ maxLen) Tryz.underlying27 (by kernel_rfl) (fun _ _ _ h => openWarning h) (v := v2) (by rw [hvs2] at hu2 ⊢; simpa [Value.cells] using hu2)
  obtain ⟨A2, c2, rfl, _, _⟩ := s2.form
  clear hA0 hval0
  refine (walk_FnExactCaptureWarnings Aa0 na0 ca0 Ab0 nb0 cb0 (lsOf la0, hsOf lb0, qt0) A1 n1 c1 l1 A2 n2 c2 l2 W ⟨la0, lb0, ha0, rfl, rfl⟩ ⟨s1, m1⟩ ⟨s2, m2⟩).mono fun e W' ⟨he, bel⟩ => ?_
  subst he
  exact ⟨_, rfl, _, _, _, [], _, [], hW', trodAll_mk1 (shut_bool Tryz.underlying4 _), (trodAll_cons_mk (Below.trod laidOut (by kernel_rfl) (of_decide_eq_true (by kernel_rfl)) k0 bel lt0) (trodAll_cons_mk (Below.trod laidOut (by kernel_rfl) (of_decide_eq_true (by kernel_rfl)) k1 bel lt1) (trodAll_cons_mk (Below.trod laidOut (by kernel_rfl) (of_decide_eq_true (by kernel_rfl)) k2 bel lt2) trodAll_mk0))), rfl, bel.frame _, fun h => by cases h⟩

theorem over : Rows.fnExactCaptureWarningsRow.holds Tryz.pinned (OpenSpec.ofChange Rows.fnExactCaptureWarningsSpec) :=
  OpenClaim.holds_of_wide 3 Tryz.f3 rfl rfl rfl rfl rfl rfl rfl ⟨rfl, rfl, rfl, rfl, rfl⟩ rfl rfl rfl rfl rfl (by kernel_rfl) Tryz.func3 (by kernel_rfl)
    (of_decide_eq_true (by kernel_rfl)) (by unfold Func.isWrapper; first | (rw [if_pos (by decide +kernel)]; kernel_rfl) | (rw [if_neg (by decide +kernel)]; exact ⟨rfl, rfl⟩))
    (fun os started H enc _ => lifted os started H enc)

theorem said : Rows.FnExactCaptureWarningsSaid := over

theorem proved : Rows.FnExactCaptureWarningsCardSaid :=
  Claim7.holds_tied_plain_at .later [] [.data, .pinned] true Rows.fnExactCaptureWarningsCard.stood.harness true
    said (fun _ h => by cases h) (by kernel_rfl) (fun _ h => by cases h) fnExactCaptureWarnings_row_tie rfl ⟨rfl, rfl⟩ (by kernel_rfl) rfl
    (fun f fn hf hfn => by
      obtain rfl : f = 3 := Option.some.inj ((show Tryz.prog.funcNamed "loop.example/loggertree/laws.FnExactCaptureWarnings" = some 3 by kernel_rfl).symm.trans hf) |>.symm
      obtain rfl : fn = Tryz.f3 := (Option.some.inj (Tryz.func3.symm.trans hfn)).symm
      exact ⟨by kernel_rfl, fun j t ht => by
        rw [Tryz.params3] at ht
        have hm : t ∈ [25, 26, 27] := by simpa using Array.mem_of_getElem? ht
        have hall : ([25, 26, 27].all fun u => !Tryz.prog.wantsStandIn u) = true := by kernel_rfl
        exact (show Tryz.prog.wantsStandIn t = false by simpa using List.all_eq_true.1 hall t hm)⟩)
    (by kernel_rfl)
#print axioms proved
end Go.Proofs.YtlifaeleoiodkaaGreatDoor.fnExactCaptureWarnings
