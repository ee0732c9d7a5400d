/-
  WALK: the law FnExactSizeOf. By gen_any.py.
-/
import Derived.Deep.Cut
import Derived.Test.YtnhcjookpneppaaF1
import Derived.Test.YtnhcjookpneppaaApp
import Derived.Test.YtnhcjookpneppaaKStrs
namespace Go.Proofs.Ytnhcjookpneppaa
open Go.RowKit Nm
set_option linter.unusedSimpArgs false
set_option linter.unusedVariables false

set_option maxHeartbeats 16000000 in
set_option maxRecDepth 100000 in
theorem walk_FnExactSizeOf (A0 : Option Addr) (n0 c0 : Nat) (d0 : TxtL) (w : World) (t0 : StrsRaw w w.heap.size A0 n0 c0 d0) :
    Calls Try.prog 3 #[.slice A0 n0 c0] w (BoolPost w true) := by
  have T0 := hid t0
  clear t0
  have HB := hid (Below.refl w.heap.size w)
  go_enter Try.func3, Try.ntmps3
  go_wp2_with fail
  refine (szStrsY_c A0 n0 c0 d0 w.heap.size _ _ (T0.out.below HB.out (Nat.le_refl _)) HB.out.size (by omega) (by omega)).mono ?_
  rintro e w1 ⟨r0, rfl, hb, hr⟩
  replace HB := hid (HB.out.trans (hb.mono HB.out.size))
  clear hb
  rcases hr with hr | ⟨hr0, hr1, hfit⟩
  · go_wp2_with fail
    go_ret
    exact ⟨rfl, HB.out⟩
  have F0 := hid hfit
  clear hfit
  have cS : ∀ (W : World) (v0 : Value) (h0 : StrsIn W W.heap.size v0 d0), Calls Try.prog 13 #[v0] W (fun e w2 => e = .returned (.int .i64 (sizeX d0)) ∧ Below W.heap.size W w2) := fun W v0 h0 => specSizeOf_c h0
  have cI : ∀ (W : World) (v0 : Value) (h0 : StrsIn W W.heap.size v0 d0), Calls Try.prog 15 #[v0] W (fun e w2 => e = .returned (.int .i64 (sizeX d0)) ∧ Below W.heap.size W w2) := fun W v0 h0 => implSizeOf_c h0 (Nat.le_refl _)
  generalize sizeX d0 = X0 at cS cI
  have hX0 : (X0 == X0) = true := by simp
  replace cS := hid cS
  replace cI := hid cI
  go_wp2_with fail
  refine (toStrsY_c A0 n0 c0 d0 w.heap.size _ (T0.out.below HB.out (Nat.le_refl _)) HB.out.size F0.out).mono ?_
  rintro e w2 ⟨v, rss0, rfl, hs, hr, hb⟩
  obtain ⟨fs00, fs01, fs02, rfl⟩ := hs.form hr
  have Ss0 := hid hs
  clear hs
  have HR := hid (hr.base HB.out.size)
  replace HB := hid (HB.out.trans (hb.mono HB.out.size))
  clear hb hr
  go_wp2_with fail
  refine (cS.out _ _ (Ss0.out.at_ (HR.out) F0.out)).mono ?_
  rintro e w3 ⟨rfl, hb⟩
  replace HR := hid (HR.out.below hb)
  replace HB := hid (HB.out.trans (hb.mono HB.out.size))
  clear hb
  clear HR
  clear Ss0
  go_wp2_with fail
  refine (toStrsY_c A0 n0 c0 d0 w.heap.size _ (T0.out.below HB.out (Nat.le_refl _)) HB.out.size F0.out).mono ?_
  rintro e w4 ⟨v, rsx0, rfl, hs, hr, hb⟩
  obtain ⟨fx00, fx01, fx02, rfl⟩ := hs.form hr
  have Sx0 := hid hs
  clear hs
  have HR := hid (hr.base HB.out.size)
  replace HB := hid (HB.out.trans (hb.mono HB.out.size))
  clear hb hr
  go_wp2_with fail
  refine (cI.out _ _ (Sx0.out.at_ (HR.out) F0.out)).mono ?_
  rintro e w5 ⟨rfl, hb⟩
  replace HR := hid (HR.out.below hb)
  replace HB := hid (HB.out.trans (hb.mono HB.out.size))
  clear hb
  go_wp2_with fail
  refine (toStrsY_c A0 n0 c0 d0 w.heap.size _ (T0.out.below HB.out (Nat.le_refl _)) HB.out.size F0.out).mono ?_
  rintro e w6 ⟨v, rsy0, rfl, hs, hr, hb⟩
  obtain ⟨fy00, fy01, fy02, rfl⟩ := hs.form hr
  have Sy0 := hid hs
  clear hs
  replace HR := hid (HR.out.newer hb hr HB.out.size)
  replace HB := hid (HB.out.trans (hb.mono HB.out.size))
  clear hb hr
  go_wp2_with fail
  refine (eqStrsX_c Sx0.out (HR.out.right) Sy0.out (HR.out.left)).mono ?_
  rintro e w7 ⟨rfl, hb⟩
  replace HR := hid (HR.out.below hb)
  replace HB := hid (HB.out.trans (hb.mono HB.out.size))
  clear hb
  replace HR := hid (HR.out.sub (List.sublist_append_right _ _))
  clear Sy0
  go_wp2_with fail
  go_ret
  exact ⟨rfl, HB.out⟩
end Go.Proofs.Ytnhcjookpneppaa
