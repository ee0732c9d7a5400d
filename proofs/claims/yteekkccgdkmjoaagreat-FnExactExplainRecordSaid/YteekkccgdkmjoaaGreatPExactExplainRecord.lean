/-
  'FnExactExplainRecord' returns true whatever it is called with, and its arguments read as they did. No condition.
-/
import Derived.Test.YteekkccgdkmjoaaGreatRows
import Derived.WalkKit
import Derived.ProofKit
import Derived.OpenShut
import Derived.ShutString
import Derived.ChangeOld
import Derived.Below
import Derived.Test.YteekkccgdkmjoaaGreatLawTrees
import Derived.Test.YteekkccgdkmjoaaGreatORecord
import Derived.Test.YteekkccgdkmjoaaGreatLExplainRecord
namespace Go.Proofs.YteekkccgdkmjoaaGreat.fnExactExplainRecord
open Go.ChangeShapes Go.WideShapes Go.ChangeAt Go.RowKit
open Go.ChangeMaps (open_string shut_string)
set_option linter.unusedVariables false

theorem own : ownKnob Tryz.prog.godebug = none := by kernel_rfl
theorem laidOut : laidOutB Tryz.prog = true := by kernel_rfl

set_option maxRecDepth 100000 in
theorem lifted (os : Os) (started : os.Started) (H : Type) (enc : TypeId × Value → H) :
    ReturnsInHanded {} Tryz.checked os 4 .any (Rows.fnExactExplainRecordSpec.pre6 enc Tryz.prog Tryz.f4 Rows.fnExactExplainRecordRow.domain false) (Rows.fnExactExplainRecordSpec.post enc Tryz.prog Tryz.f4 false true false false) := by
  refine returnsInHanded_of_change (C := Tryz.checked) own started (by kernel_rfl) Tryz.func4
    (ChangeSpec.witness6 (enc := enc) (C := Tryz.checked) false ⟨#[], #[.agg #[.slice none 0 0, .slice none 0 0, .int .i64 0], .agg #[.string ByteArray.empty, .int .i64 0, .string ByteArray.empty, .int .i64 0]], []⟩ 8 (by kernel_rfl) (by kernel_rfl) (by kernel_rfl) (by kernel_rfl)) ?_
  intro W base args ds gs before hval0 hW hcnd _
  have hval : ∀ (j : Nat) t v, Tryz.f4.params[j]? = some t → args[j]? = some v → Value.okWide Tryz.prog W .any base t v := hval0
  have hW' := hW
  obtain ⟨p, q, hA0, hV, rfl, hfz, hnd⟩ := hW
  have hA : DataW.TrodAll enc Tryz.prog W 0 (fun _ => true) true Tryz.f4.params.toList args.toList ds p := hA0
  rw [Tryz.params4] at hA hval
  obtain ⟨v0, vs0, d0, ds0, p0, q0, hargs, rfl, rfl, h0, r0⟩ := trodAll_cons hA
  obtain ⟨v1, vs1, d1, ds1, p1, q1, rfl, rfl, rfl, h1, r1⟩ := trodAll_cons r0
  obtain ⟨rfl, rfl, rfl⟩ := trodAll_nil r1
  obtain rfl : args = #[v0, v1] := by cases args; simp_all
  obtain ⟨rfl, rfl⟩ := trodVars_none hV
  have k0 := h0
  have lt0 : ∀ x ∈ p0, x.block < W.heap.size := by obtain ⟨m, hm⟩ := k0; exact DataW.trod_lt m _ _ _ hm
  obtain ⟨u0, hu0⟩ := h0
  obtain ⟨cs0, rfl, _⟩ := okWide_agg Tryz.underlying25 (hval 0 25 v0 rfl rfl)
  obtain ⟨Aa0, na0, ca0, Ab0, nb0, cb0, qt0, la0, lb0, ea0, ha0⟩ := openTree (cs := cs0.toList) (by simpa [Value.cells] using hu0)
  obtain rfl : cs0 = #[.slice Aa0 na0 ca0, .slice Ab0 nb0 cb0, .int .i64 qt0] := Array.toList_inj.1 ea0
  have k1 := h1
  have lt1 : ∀ x ∈ p1, x.block < W.heap.size := by obtain ⟨m, hm⟩ := k1; exact DataW.trod_lt m _ _ _ hm
  obtain ⟨u1, hu1⟩ := h1
  obtain ⟨cs1, rfl, _⟩ := okWide_agg Tryz.underlying27 (hval 1 27 v1 rfl rfl)
  obtain ⟨y1, ey1, hq1⟩ := openRecord (cs := cs1.toList) (by simpa [Value.cells] using hu1)
  obtain rfl : cs1 = #[.string ⟨y1.nm.toArray⟩, .int .i64 y1.lv, .string ⟨y1.tx.toArray⟩, .int .i64 y1.sq] := Array.toList_inj.1 ey1
  clear hA0 hval0
  refine (walk_FnExactExplainRecord Aa0 na0 ca0 Ab0 nb0 cb0 (lsOf la0, hsOf lb0, qt0) ⟨y1.nm.toArray⟩ y1.lv ⟨y1.tx.toArray⟩ y1.sq W ⟨la0, lb0, ha0, rfl, rfl⟩ (by rw [Lib.size_eq]; exact hq1.1) (by rw [Lib.size_eq]; exact hq1.2)).mono fun e W' ⟨he, bel⟩ => ?_
  subst he
  exact ⟨_, rfl, _, _, _, [], _, [], hW', trodAll_mk1 (shut_bool Tryz.underlying4 _), (trodAll_cons_mk (Below.trod laidOut (by kernel_rfl) (of_decide_eq_true (by kernel_rfl)) k0 bel lt0) (trodAll_cons_mk (Below.trod laidOut (by kernel_rfl) (of_decide_eq_true (by kernel_rfl)) k1 bel lt1) trodAll_mk0)), rfl, bel.frame _, fun h => by cases h⟩

theorem over : Rows.fnExactExplainRecordRow.holds Tryz.pinned (OpenSpec.ofChange Rows.fnExactExplainRecordSpec) :=
  OpenClaim.holds_of_wide 4 Tryz.f4 rfl rfl rfl rfl rfl rfl rfl ⟨rfl, rfl, rfl, rfl, rfl⟩ rfl rfl rfl rfl rfl (by kernel_rfl) Tryz.func4 (by kernel_rfl)
    (of_decide_eq_true (by kernel_rfl)) (by unfold Func.isWrapper; first | (rw [if_pos (by decide +kernel)]; kernel_rfl) | (rw [if_neg (by decide +kernel)]; exact ⟨rfl, rfl⟩))
    (fun os started H enc _ => lifted os started H enc)

theorem proved : Rows.FnExactExplainRecordSaid := over
#print axioms proved
end Go.Proofs.YteekkccgdkmjoaaGreat.fnExactExplainRecord
