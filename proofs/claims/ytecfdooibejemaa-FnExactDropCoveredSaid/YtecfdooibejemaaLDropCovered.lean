/-
  WALK: the law FnExactDropCovered. By gen_law.py.
-/
import Derived.Test.YtecfdooibejemaaR14
import Derived.Test.YtecfdooibejemaaHelps
namespace Go.Proofs.Ytecfdooibejemaa
open Go.RowKit Nm
set_option linter.unusedSimpArgs false
set_option linter.unusedVariables false

set_option maxHeartbeats 8000000 in
set_option maxRecDepth 100000 in
theorem walk_FnExactDropCovered (v0 : Value) (n0 : Nat) (l0 : List Rul) (w : World) (h0 : Sl w w.heap.size 4 n0 v0 (l0.flatMap rucells)) (m0 : ∀ x ∈ l0, x.wd.length ≤ maxLen ∧ x.md.length ≤ maxLen) :
    Calls Try.prog 6 #[v0] w (BoolPost w true) := by
  obtain ⟨A0, c0, rfl, _, _⟩ := h0.form
  have Sa0 := hid h0
  have M0 := hid m0
  have C0 := hid (Sl.count rucells_len h0 (by omega))
  clear h0 m0
  have HB := hid (Below.refl w.heap.size w)
  have cS := fun (v0 : Value) (W : World) (hR0 : Ruls W W.heap.size n0 v0 l0) (hn0 : n0 ≤ maxTxt) => specDropCovered_c v0 n0 _ l0  W hR0 (Nat.le_refl _) hn0
  have cI := fun (v0 : Value) (W : World) (hR0 : Ruls W W.heap.size n0 v0 l0) (hn0 : n0 ≤ maxTxt) => implDropCovered_c v0 n0 _ l0  W hR0 (Nat.le_refl _) hn0
  have XL := dropCov_len l0
  generalize hXX : dropCov l0 = X at cS cI XL
  have cS := hid cS
  have cI := hid cI
  clear hXX
  go_enter Try.func6, Try.ntmps6
  go_wp2_with fail
  refine (szRuleS_c _ _ _ _ _ _ Sa0.out HB.out.size M0.out (by omega) (by omega)).mono ?_
  rintro e w1 ⟨r0, rfl, hb, hr⟩
  replace Sa0 := hid (Sa0.out.below hb HB.out.size)
  replace HB := hid (HB.out.trans (hb.mono HB.out.size))
  clear hb
  rcases hr with hr | ⟨hr0, hr1, hn0, hfit0⟩
  · go_wp2_with fail
    go_ret
    exact ⟨rfl, HB.out⟩
  have F0 := hid hfit0
  clear hfit0
  have hnt0 : n0 ≤ 1048576 := hn0
  go_wp2_with fail
  refine (toRuleS_c _ _ _ _ _ Sa0.out HB.out.size hnt0).mono ?_
  rintro e w2 ⟨v', rfl, ho, hb⟩
  have Ls0 := hid HB.out.size
  have hsz := hb.size
  replace Sa0 := hid (Sa0.out.below hb HB.out.size)
  replace HB := hid (HB.out.trans (hb.mono HB.out.size))
  clear hb
  obtain ⟨As0, ks0, rfl, _, _⟩ := (Sl.of_own ho).form
  have Ts0 := hid hsz
  have Hs0 := hid ho
  clear ho hsz
  go_wp2_with fail
  refine (cS.out _ _ ⟨Sl.of_own Hs0.out, F0.out⟩ hn0).mono ?_
  rintro e w3 ⟨v', rfl, ho, hb⟩
  have Ns0W := hid (own_ne Hs0.out ho)
  have NWs0 := hid (own_ne' Hs0.out ho)
  have LW := hid HB.out.size
  have hsz := hb.size
  replace Hs0 := hid (own_below Hs0.out hb)
  replace Ts0 := hid (Nat.le_trans Ts0.out hb.size)
  replace Sa0 := hid (Sa0.out.below hb HB.out.size)
  replace HB := hid (HB.out.trans (hb.mono HB.out.size))
  clear hb
  obtain ⟨AW, kW, rfl, _, _⟩ := (Sl.of_own ho).form
  have TW := hid hsz
  have HW := hid ho
  clear ho hsz
  clear Hs0 Ts0 Ls0 NWs0 Ns0W
  go_wp2_with fail
  refine (toRuleS_c _ _ _ _ _ Sa0.out HB.out.size hnt0).mono ?_
  rintro e w4 ⟨v', rfl, ho, hb⟩
  have NWx0 := hid (own_ne HW.out ho)
  have Nx0W := hid (own_ne' HW.out ho)
  have Lx0 := hid HB.out.size
  have hsz := hb.size
  replace HW := hid (own_below HW.out hb)
  replace TW := hid (Nat.le_trans TW.out hb.size)
  replace Sa0 := hid (Sa0.out.below hb HB.out.size)
  replace HB := hid (HB.out.trans (hb.mono HB.out.size))
  clear hb
  obtain ⟨Ax0, kx0, rfl, _, _⟩ := (Sl.of_own ho).form
  have Tx0 := hid hsz
  have Hx0 := hid ho
  clear ho hsz
  go_wp2_with fail
  refine (cI.out _ _ ⟨Sl.of_own Hx0.out, F0.out⟩ hn0).mono ?_
  rintro e w5 ⟨v', rfl, ho, hb⟩
  have NWG := hid (own_ne HW.out ho)
  have NGW := hid (own_ne' HW.out ho)
  have Nx0G := hid (own_ne Hx0.out ho)
  have NGx0 := hid (own_ne' Hx0.out ho)
  have LG := hid HB.out.size
  have hsz := hb.size
  replace HW := hid (own_below HW.out hb)
  replace TW := hid (Nat.le_trans TW.out hb.size)
  replace Hx0 := hid (own_below Hx0.out hb)
  replace Tx0 := hid (Nat.le_trans Tx0.out hb.size)
  replace Sa0 := hid (Sa0.out.below hb HB.out.size)
  replace HB := hid (HB.out.trans (hb.mono HB.out.size))
  clear hb
  obtain ⟨AG, kG, rfl, _, _⟩ := (Sl.of_own ho).form
  have TG := hid hsz
  have HG := hid ho
  clear ho hsz
  go_wp2_with fail
  refine (eqRuleS_c _ _ _ _ X _ (Sl.of_own HG.out) (Sl.of_own HW.out) (Nat.le_refl _)).mono ?_
  rintro e w6 ⟨rfl, hb⟩
  replace HW := hid (own_below HW.out hb)
  replace TW := hid (Nat.le_trans TW.out hb.size)
  replace Hx0 := hid (own_below Hx0.out hb)
  replace Tx0 := hid (Nat.le_trans Tx0.out hb.size)
  replace HG := hid (own_below HG.out hb)
  replace TG := hid (Nat.le_trans TG.out hb.size)
  replace Sa0 := hid (Sa0.out.below hb HB.out.size)
  replace HB := hid (HB.out.trans (hb.mono HB.out.size))
  clear hb
  go_wp2_with fail
  refine (toRuleS_c _ _ _ _ _ Sa0.out HB.out.size hnt0).mono ?_
  rintro e w7 ⟨v', rfl, ho, hb⟩
  have NWy0 := hid (own_ne HW.out ho)
  have Ny0W := hid (own_ne' HW.out ho)
  have Nx0y0 := hid (own_ne Hx0.out ho)
  have Ny0x0 := hid (own_ne' Hx0.out ho)
  have NGy0 := hid (own_ne HG.out ho)
  have Ny0G := hid (own_ne' HG.out ho)
  have Ly0 := hid HB.out.size
  have hsz := hb.size
  replace HW := hid (own_below HW.out hb)
  replace TW := hid (Nat.le_trans TW.out hb.size)
  replace Hx0 := hid (own_below Hx0.out hb)
  replace Tx0 := hid (Nat.le_trans Tx0.out hb.size)
  replace HG := hid (own_below HG.out hb)
  replace TG := hid (Nat.le_trans TG.out hb.size)
  replace Sa0 := hid (Sa0.out.below hb HB.out.size)
  replace HB := hid (HB.out.trans (hb.mono HB.out.size))
  clear hb
  obtain ⟨Ay0, ky0, rfl, _, _⟩ := (Sl.of_own ho).form
  have Ty0 := hid hsz
  have Hy0 := hid ho
  clear ho hsz
  go_wp2_with fail
  refine (eqRuleS_c _ _ _ _ l0 _ (Sl.of_own Hx0.out) (Sl.of_own Hy0.out) (Nat.le_refl _)).mono ?_
  rintro e w8 ⟨rfl, hb⟩
  replace HW := hid (own_below HW.out hb)
  replace TW := hid (Nat.le_trans TW.out hb.size)
  replace Hx0 := hid (own_below Hx0.out hb)
  replace Tx0 := hid (Nat.le_trans Tx0.out hb.size)
  replace HG := hid (own_below HG.out hb)
  replace TG := hid (Nat.le_trans TG.out hb.size)
  replace Hy0 := hid (own_below Hy0.out hb)
  replace Ty0 := hid (Nat.le_trans Ty0.out hb.size)
  replace Sa0 := hid (Sa0.out.below hb HB.out.size)
  replace HB := hid (HB.out.trans (hb.mono HB.out.size))
  clear hb
  clear Hy0 Ty0 Ly0 NWy0 Ny0W Nx0y0 Ny0x0 NGy0 Ny0G
  go_wp2_with fail
  refine (markRuleS_c _ _ _ 1 _ _ Hx0.out (by have := C0.out; omega)).mono ?_
  rintro e w9 ⟨rfl, ⟨ysx0, ho, hM⟩, hg⟩
  have hb := below_of_grown hg Tx0.out (own_lt Hx0.out)
  replace HW := hid (HW.out.kept hg NWx0.out)
  replace TW := hid (Nat.le_trans TW.out hg.size)
  replace HG := hid (HG.out.kept hg NGx0.out)
  replace TG := hid (Nat.le_trans TG.out hg.size)
  replace Sa0 := hid (Sa0.out.below hb Lx0.out)
  replace HB := hid (HB.out.trans (hb.mono Lx0.out))
  replace Tx0 := hid (Nat.le_trans Tx0.out hg.size)
  have Hx0 := hid ho
  have Mx0 := hid hM
  clear ho hM hg hb
  clear Hx0 Tx0 Lx0 NWx0 Nx0W NGx0 Nx0G
  go_wp2_with fail
  refine (eqRuleS_c _ _ _ _ X _ (Sl.of_own HG.out) (Sl.of_own HW.out) (Nat.le_refl _)).mono ?_
  rintro e w10 ⟨rfl, hb⟩
  replace HW := hid (own_below HW.out hb)
  replace TW := hid (Nat.le_trans TW.out hb.size)
  replace HG := hid (own_below HG.out hb)
  replace TG := hid (Nat.le_trans TG.out hb.size)
  replace Sa0 := hid (Sa0.out.below hb HB.out.size)
  replace HB := hid (HB.out.trans (hb.mono HB.out.size))
  clear hb
  go_wp2_with fail
  refine (markRuleS_c _ _ _ 1 _ _ HG.out (by have := C0.out; omega)).mono ?_
  rintro e w11 ⟨rfl, ⟨ysG, ho, hM⟩, hg⟩
  have hb := below_of_grown hg TG.out (own_lt HG.out)
  replace HW := hid (HW.out.kept hg NWG.out)
  replace TW := hid (Nat.le_trans TW.out hg.size)
  replace Sa0 := hid (Sa0.out.below hb LG.out)
  replace HB := hid (HB.out.trans (hb.mono LG.out))
  replace TG := hid (Nat.le_trans TG.out hg.size)
  have HG := hid ho
  have MG := hid hM
  clear ho hM hg hb
  go_wp2_with fail
  refine (heldRuleS_c _ _ _ 1 ysG _ (Sl.of_own HG.out) (Nat.le_refl _) MG.out (by have := C0.out; omega)).mono ?_
  rintro e w12 ⟨rfl, hb⟩
  replace HW := hid (own_below HW.out hb)
  replace TW := hid (Nat.le_trans TW.out hb.size)
  replace HG := hid (own_below HG.out hb)
  replace TG := hid (Nat.le_trans TG.out hb.size)
  replace Sa0 := hid (Sa0.out.below hb HB.out.size)
  replace HB := hid (HB.out.trans (hb.mono HB.out.size))
  clear hb
  go_wp2_with fail
  refine (toRuleS_c _ _ _ _ _ Sa0.out HB.out.size hnt0).mono ?_
  rintro e w13 ⟨v', rfl, ho, hb⟩
  have NWz0 := hid (own_ne HW.out ho)
  have Nz0W := hid (own_ne' HW.out ho)
  have NGz0 := hid (own_ne HG.out ho)
  have Nz0G := hid (own_ne' HG.out ho)
  have Lz0 := hid HB.out.size
  have hsz := hb.size
  replace HW := hid (own_below HW.out hb)
  replace TW := hid (Nat.le_trans TW.out hb.size)
  replace HG := hid (own_below HG.out hb)
  replace TG := hid (Nat.le_trans TG.out hb.size)
  replace Sa0 := hid (Sa0.out.below hb HB.out.size)
  replace HB := hid (HB.out.trans (hb.mono HB.out.size))
  clear hb
  obtain ⟨Az0, kz0, rfl, _, _⟩ := (Sl.of_own ho).form
  have Tz0 := hid hsz
  have Hz0 := hid ho
  clear ho hsz
  go_wp2_with fail
  refine (cI.out _ _ ⟨Sl.of_own Hz0.out, F0.out⟩ hn0).mono ?_
  rintro e w14 ⟨v', rfl, ho, hb⟩
  have NWh := hid (own_ne HW.out ho)
  have NhW := hid (own_ne' HW.out ho)
  have NGh := hid (own_ne HG.out ho)
  have NhG := hid (own_ne' HG.out ho)
  have Nz0h := hid (own_ne Hz0.out ho)
  have Nhz0 := hid (own_ne' Hz0.out ho)
  have Lh := hid HB.out.size
  have hsz := hb.size
  replace HW := hid (own_below HW.out hb)
  replace TW := hid (Nat.le_trans TW.out hb.size)
  replace HG := hid (own_below HG.out hb)
  replace TG := hid (Nat.le_trans TG.out hb.size)
  replace Hz0 := hid (own_below Hz0.out hb)
  replace Tz0 := hid (Nat.le_trans Tz0.out hb.size)
  replace Sa0 := hid (Sa0.out.below hb HB.out.size)
  replace HB := hid (HB.out.trans (hb.mono HB.out.size))
  clear hb
  obtain ⟨Ah, kh, rfl, _, _⟩ := (Sl.of_own ho).form
  have Th := hid hsz
  have Hh := hid ho
  clear ho hsz
  clear Hz0 Tz0 Lz0 NWz0 Nz0W NGz0 Nz0G Nhz0 Nz0h
  go_wp2_with fail
  refine (eqRuleS_c _ _ _ _ X _ (Sl.of_own Hh.out) (Sl.of_own HW.out) (Nat.le_refl _)).mono ?_
  rintro e w15 ⟨rfl, hb⟩
  replace HW := hid (own_below HW.out hb)
  replace TW := hid (Nat.le_trans TW.out hb.size)
  replace HG := hid (own_below HG.out hb)
  replace TG := hid (Nat.le_trans TG.out hb.size)
  replace Hh := hid (own_below Hh.out hb)
  replace Th := hid (Nat.le_trans Th.out hb.size)
  replace Sa0 := hid (Sa0.out.below hb HB.out.size)
  replace HB := hid (HB.out.trans (hb.mono HB.out.size))
  clear hb
  clear Hh Th Lh NWh NhW NGh NhG
  go_wp2_with fail
  refine (heldRuleS_c _ _ _ 1 ysG _ (Sl.of_own HG.out) (Nat.le_refl _) MG.out (by have := C0.out; omega)).mono ?_
  rintro e w16 ⟨rfl, hb⟩
  replace HW := hid (own_below HW.out hb)
  replace TW := hid (Nat.le_trans TW.out hb.size)
  replace HG := hid (own_below HG.out hb)
  replace TG := hid (Nat.le_trans TG.out hb.size)
  replace Sa0 := hid (Sa0.out.below hb HB.out.size)
  replace HB := hid (HB.out.trans (hb.mono HB.out.size))
  clear hb
  go_wp2_with fail
  go_ret
  exact ⟨rfl, HB.out⟩
end Go.Proofs.Ytecfdooibejemaa
