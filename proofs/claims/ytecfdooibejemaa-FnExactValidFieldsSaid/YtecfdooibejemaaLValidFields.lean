/-
  WALK: the law FnExactValidFields. By gen_law.py.
-/
import Derived.Test.YtecfdooibejemaaR11
import Derived.Test.YtecfdooibejemaaR12
import Derived.Test.YtecfdooibejemaaHelps
namespace Go.Proofs.Ytecfdooibejemaa
open Go.RowKit Nm
set_option linter.unusedSimpArgs false
set_option linter.unusedVariables false

set_option maxHeartbeats 8000000 in
set_option maxRecDepth 100000 in
theorem walk_FnExactValidFields (v0 : Value) (n0 : Nat) (l0 : List Fld) (w : World) (h0 : Sl w w.heap.size 2 n0 v0 (l0.flatMap fdcells)) (m0 : ∀ x ∈ l0, x.ky.length ≤ maxLen ∧ x.vl.length ≤ maxLen) :
    Calls Try.prog 5 #[v0] w (BoolPost w true) := by
  obtain ⟨A0, c0, rfl, _, _⟩ := h0.form
  have Sa0 := hid h0
  have M0 := hid m0
  have C0 := hid (Sl.count fdcells_len h0 (by omega))
  clear h0 m0
  have HB := hid (Below.refl w.heap.size w)
  generalize fldsOk l0 = X
  go_enter Try.func5, Try.ntmps5
  go_wp2_with fail
  refine (szFieldS_c _ _ _ _ _ _ Sa0.out HB.out.size M0.out (by omega) (by omega)).mono ?_
  rintro e w1 ⟨r0, rfl, hb, hr⟩
  replace Sa0 := hid (Sa0.out.below hb HB.out.size)
  replace HB := hid (HB.out.trans (hb.mono HB.out.size))
  clear hb
  rcases hr with hr | ⟨hr0, hr1, hn0, hfit0⟩
  · go_wp2_with fail
    go_ret
    exact ⟨rfl, HB.out⟩
  have F0 := hid hfit0
  clear hfit0
  have hnt0 : n0 ≤ 1048576 := hn0
  go_wp2_with fail
  refine (toFieldS_c _ _ _ _ _ Sa0.out HB.out.size hnt0).mono ?_
  rintro e w2 ⟨v', rfl, ho, hb⟩
  have Ls0 := hid HB.out.size
  have hsz := hb.size
  replace Sa0 := hid (Sa0.out.below hb HB.out.size)
  replace HB := hid (HB.out.trans (hb.mono HB.out.size))
  clear hb
  obtain ⟨As0, ks0, rfl, _, _⟩ := (Sl.of_own ho).form
  have Ts0 := hid hsz
  have Hs0 := hid ho
  clear ho hsz
  go_wp2_with fail
  refine (specValidFieldsX_c _ _ _ l0 _ ⟨Sl.of_own Hs0.out, F0.out⟩ (Nat.le_refl _)).mono ?_
  rintro e w3 ⟨rfl, hb⟩
  replace Hs0 := hid (own_below Hs0.out hb)
  replace Ts0 := hid (Nat.le_trans Ts0.out hb.size)
  replace Sa0 := hid (Sa0.out.below hb HB.out.size)
  replace HB := hid (HB.out.trans (hb.mono HB.out.size))
  clear hb
  clear Hs0 Ts0 Ls0
  go_wp2_with fail
  refine (toFieldS_c _ _ _ _ _ Sa0.out HB.out.size hnt0).mono ?_
  rintro e w4 ⟨v', rfl, ho, hb⟩
  have Lx0 := hid HB.out.size
  have hsz := hb.size
  replace Sa0 := hid (Sa0.out.below hb HB.out.size)
  replace HB := hid (HB.out.trans (hb.mono HB.out.size))
  clear hb
  obtain ⟨Ax0, kx0, rfl, _, _⟩ := (Sl.of_own ho).form
  have Tx0 := hid hsz
  have Hx0 := hid ho
  clear ho hsz
  go_wp2_with fail
  refine (implValidFields_c _ _ _ l0 _ ⟨Sl.of_own Hx0.out, F0.out⟩ (Nat.le_refl _)).mono ?_
  rintro e w5 ⟨rfl, hb⟩
  replace Hx0 := hid (own_below Hx0.out hb)
  replace Tx0 := hid (Nat.le_trans Tx0.out hb.size)
  replace Sa0 := hid (Sa0.out.below hb HB.out.size)
  replace HB := hid (HB.out.trans (hb.mono HB.out.size))
  clear hb
  go_wp2_with fail
  refine (toFieldS_c _ _ _ _ _ Sa0.out HB.out.size hnt0).mono ?_
  rintro e w6 ⟨v', rfl, ho, hb⟩
  have Nx0y0 := hid (own_ne Hx0.out ho)
  have Ny0x0 := hid (own_ne' Hx0.out ho)
  have Ly0 := hid HB.out.size
  have hsz := hb.size
  replace Hx0 := hid (own_below Hx0.out hb)
  replace Tx0 := hid (Nat.le_trans Tx0.out hb.size)
  replace Sa0 := hid (Sa0.out.below hb HB.out.size)
  replace HB := hid (HB.out.trans (hb.mono HB.out.size))
  clear hb
  obtain ⟨Ay0, ky0, rfl, _, _⟩ := (Sl.of_own ho).form
  have Ty0 := hid hsz
  have Hy0 := hid ho
  clear ho hsz
  go_wp2_with fail
  refine (eqFieldS_c _ _ _ _ l0 _ (Sl.of_own Hx0.out) (Sl.of_own Hy0.out) (Nat.le_refl _)).mono ?_
  rintro e w7 ⟨rfl, hb⟩
  replace Hx0 := hid (own_below Hx0.out hb)
  replace Tx0 := hid (Nat.le_trans Tx0.out hb.size)
  replace Hy0 := hid (own_below Hy0.out hb)
  replace Ty0 := hid (Nat.le_trans Ty0.out hb.size)
  replace Sa0 := hid (Sa0.out.below hb HB.out.size)
  replace HB := hid (HB.out.trans (hb.mono HB.out.size))
  clear hb
  clear Hy0 Ty0 Ly0 Nx0y0 Ny0x0
  go_wp2_with fail
  go_ret
  exact ⟨rfl, HB.out⟩
end Go.Proofs.Ytecfdooibejemaa
