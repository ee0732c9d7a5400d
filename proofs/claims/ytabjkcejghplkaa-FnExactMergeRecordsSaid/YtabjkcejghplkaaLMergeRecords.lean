/-
  WALK: the law FnExactMergeRecords. By gen_law.py.
-/
import Derived.Test.YtabjkcejghplkaaR9
import Derived.Test.YtabjkcejghplkaaL0
namespace Go.Proofs.Ytabjkcejghplkaa
open Go.RowKit Nm
set_option linter.unusedSimpArgs false
set_option linter.unusedVariables false

set_option maxHeartbeats 8000000 in
set_option maxRecDepth 100000 in
theorem walk_FnExactMergeRecords (v0 : Value) (n0 : Nat) (l0 : List Rec) (v1 : Value) (n1 : Nat) (l1 : List Rec) (w : World) (h0 : Sl w w.heap.size 4 n0 v0 (l0.flatMap rcells)) (m0 : ∀ x ∈ l0, x.nm.length ≤ maxLen ∧ x.tx.length ≤ maxLen) (h1 : Sl w w.heap.size 4 n1 v1 (l1.flatMap rcells)) (m1 : ∀ x ∈ l1, x.nm.length ≤ maxLen ∧ x.tx.length ≤ maxLen) :
    Calls Try.prog 8 #[v0, v1] w (BoolPost w true) := by
  obtain ⟨A0, c0, rfl, _, _⟩ := h0.form
  have Sa0 := hid h0
  have M0 := hid m0
  have C0 := hid (Sl.count rcells_len h0 (by omega))
  clear h0 m0
  obtain ⟨A1, c1, rfl, _, _⟩ := h1.form
  have Sa1 := hid h1
  have M1 := hid m1
  have C1 := hid (Sl.count rcells_len h1 (by omega))
  clear h1 m1
  have HB := hid (Below.refl w.heap.size w)
  have cS := fun (v0 : Value) (v1 : Value) (W : World) (hR0 : Rs W W.heap.size n0 v0 l0) (hR1 : Rs W W.heap.size n1 v1 l1) (hn0 : n0 ≤ maxTxt) (hn1 : n1 ≤ maxTxt) => specMergeX_c v0 v1 n0 n1 _ l0 l1  W hR0 hR1 (Nat.le_refl _) hn0 hn1
  have cI := fun (v0 : Value) (v1 : Value) (W : World) (hR0 : Rs W W.heap.size n0 v0 l0) (hR1 : Rs W W.heap.size n1 v1 l1) (hn0 : n0 ≤ maxTxt) (hn1 : n1 ≤ maxTxt) => implMergeX_c v0 v1 n0 n1 _ l0 l1  W hR0 hR1 (Nat.le_refl _) hn0 hn1
  have XL := mergeX_len l0 l1
  generalize hXX : mergeX l0 l1 = X at cS cI XL
  generalize mergeOk l0 l1 = bb at cS cI
  have cS := hid cS
  have cI := hid cI
  clear hXX
  go_enter Try.func8, Try.ntmps8
  go_wp2_with fail
  refine (szRecordS_c _ _ _ _ _ _ Sa0.out HB.out.size M0.out (by omega) (by omega)).mono ?_
  rintro e w1 ⟨r0, rfl, hb, hr⟩
  replace Sa0 := hid (Sa0.out.below hb HB.out.size)
  replace Sa1 := hid (Sa1.out.below hb HB.out.size)
  replace HB := hid (HB.out.trans (hb.mono HB.out.size))
  clear hb
  rcases hr with hr | ⟨hr0, hr1, hn0, hfit0⟩
  · go_wp2_with fail
    go_ret
    exact ⟨rfl, HB.out⟩
  have F0 := hid hfit0
  clear hfit0
  have hnt0 : n0 ≤ 1048576 := hn0
  go_wp2_with fail
  refine (szRecordS_c _ _ _ _ _ _ Sa1.out HB.out.size M1.out (by omega) (by omega)).mono ?_
  rintro e w2 ⟨r1, rfl, hb, hr⟩
  replace Sa0 := hid (Sa0.out.below hb HB.out.size)
  replace Sa1 := hid (Sa1.out.below hb HB.out.size)
  replace HB := hid (HB.out.trans (hb.mono HB.out.size))
  clear hb
  rcases hr with hr | ⟨hr0, hr1, hn1, hfit1⟩
  · go_wp2_with fail
    go_ret
    exact ⟨rfl, HB.out⟩
  have F1 := hid hfit1
  clear hfit1
  have hnt1 : n1 ≤ 1048576 := hn1
  go_wp2_with fail
  refine (toRecordS_c _ _ _ _ _ Sa0.out HB.out.size hnt0).mono ?_
  rintro e w3 ⟨v', rfl, ho, hb⟩
  have Ls0 := hid HB.out.size
  have hsz := hb.size
  replace Sa0 := hid (Sa0.out.below hb HB.out.size)
  replace Sa1 := hid (Sa1.out.below hb HB.out.size)
  replace HB := hid (HB.out.trans (hb.mono HB.out.size))
  clear hb
  obtain ⟨As0, ks0, rfl, _, _⟩ := (Sl.of_own ho).form
  have Ts0 := hid hsz
  have Hs0 := hid ho
  clear ho hsz
  go_wp2_with fail
  refine (toRecordS_c _ _ _ _ _ Sa1.out HB.out.size hnt1).mono ?_
  rintro e w4 ⟨v', rfl, ho, hb⟩
  have Ns0s1 := hid (own_ne Hs0.out ho)
  have Ns1s0 := hid (own_ne' Hs0.out ho)
  have Ls1 := hid HB.out.size
  have hsz := hb.size
  replace Hs0 := hid (own_below Hs0.out hb)
  replace Ts0 := hid (Nat.le_trans Ts0.out hb.size)
  replace Sa0 := hid (Sa0.out.below hb HB.out.size)
  replace Sa1 := hid (Sa1.out.below hb HB.out.size)
  replace HB := hid (HB.out.trans (hb.mono HB.out.size))
  clear hb
  obtain ⟨As1, ks1, rfl, _, _⟩ := (Sl.of_own ho).form
  have Ts1 := hid hsz
  have Hs1 := hid ho
  clear ho hsz
  go_wp2_with fail
  refine (cS.out _ _ _ ⟨Sl.of_own Hs0.out, F0.out⟩ ⟨Sl.of_own Hs1.out, F1.out⟩ hn0 hn1).mono ?_
  rintro e w5 ⟨v', rfl, ho, hb⟩
  have Ns0W := hid (own_ne Hs0.out ho)
  have NWs0 := hid (own_ne' Hs0.out ho)
  have Ns1W := hid (own_ne Hs1.out ho)
  have NWs1 := hid (own_ne' Hs1.out ho)
  have LW := hid HB.out.size
  have hsz := hb.size
  replace Hs0 := hid (own_below Hs0.out hb)
  replace Ts0 := hid (Nat.le_trans Ts0.out hb.size)
  replace Hs1 := hid (own_below Hs1.out hb)
  replace Ts1 := hid (Nat.le_trans Ts1.out hb.size)
  replace Sa0 := hid (Sa0.out.below hb HB.out.size)
  replace Sa1 := hid (Sa1.out.below hb HB.out.size)
  replace HB := hid (HB.out.trans (hb.mono HB.out.size))
  clear hb
  obtain ⟨AW, kW, rfl, _, _⟩ := (Sl.of_own ho).form
  have TW := hid hsz
  have HW := hid ho
  clear ho hsz
  clear Hs0 Ts0 Ls0 Ns1s0 Ns0s1 NWs0 Ns0W
  clear Hs1 Ts1 Ls1 NWs1 Ns1W
  go_wp2_with fail
  refine (toRecordS_c _ _ _ _ _ Sa0.out HB.out.size hnt0).mono ?_
  rintro e w6 ⟨v', rfl, ho, hb⟩
  have NWx0 := hid (own_ne HW.out ho)
  have Nx0W := hid (own_ne' HW.out ho)
  have Lx0 := hid HB.out.size
  have hsz := hb.size
  replace HW := hid (own_below HW.out hb)
  replace TW := hid (Nat.le_trans TW.out hb.size)
  replace Sa0 := hid (Sa0.out.below hb HB.out.size)
  replace Sa1 := hid (Sa1.out.below hb HB.out.size)
  replace HB := hid (HB.out.trans (hb.mono HB.out.size))
  clear hb
  obtain ⟨Ax0, kx0, rfl, _, _⟩ := (Sl.of_own ho).form
  have Tx0 := hid hsz
  have Hx0 := hid ho
  clear ho hsz
  go_wp2_with fail
  refine (toRecordS_c _ _ _ _ _ Sa1.out HB.out.size hnt1).mono ?_
  rintro e w7 ⟨v', rfl, ho, hb⟩
  have NWx1 := hid (own_ne HW.out ho)
  have Nx1W := hid (own_ne' HW.out ho)
  have Nx0x1 := hid (own_ne Hx0.out ho)
  have Nx1x0 := hid (own_ne' Hx0.out ho)
  have Lx1 := hid HB.out.size
  have hsz := hb.size
  replace HW := hid (own_below HW.out hb)
  replace TW := hid (Nat.le_trans TW.out hb.size)
  replace Hx0 := hid (own_below Hx0.out hb)
  replace Tx0 := hid (Nat.le_trans Tx0.out hb.size)
  replace Sa0 := hid (Sa0.out.below hb HB.out.size)
  replace Sa1 := hid (Sa1.out.below hb HB.out.size)
  replace HB := hid (HB.out.trans (hb.mono HB.out.size))
  clear hb
  obtain ⟨Ax1, kx1, rfl, _, _⟩ := (Sl.of_own ho).form
  have Tx1 := hid hsz
  have Hx1 := hid ho
  clear ho hsz
  go_wp2_with fail
  refine (cI.out _ _ _ ⟨Sl.of_own Hx0.out, F0.out⟩ ⟨Sl.of_own Hx1.out, F1.out⟩ hn0 hn1).mono ?_
  rintro e w8 ⟨v', rfl, ho, hb⟩
  have NWG := hid (own_ne HW.out ho)
  have NGW := hid (own_ne' HW.out ho)
  have Nx0G := hid (own_ne Hx0.out ho)
  have NGx0 := hid (own_ne' Hx0.out ho)
  have Nx1G := hid (own_ne Hx1.out ho)
  have NGx1 := hid (own_ne' Hx1.out ho)
  have LG := hid HB.out.size
  have hsz := hb.size
  replace HW := hid (own_below HW.out hb)
  replace TW := hid (Nat.le_trans TW.out hb.size)
  replace Hx0 := hid (own_below Hx0.out hb)
  replace Tx0 := hid (Nat.le_trans Tx0.out hb.size)
  replace Hx1 := hid (own_below Hx1.out hb)
  replace Tx1 := hid (Nat.le_trans Tx1.out hb.size)
  replace Sa0 := hid (Sa0.out.below hb HB.out.size)
  replace Sa1 := hid (Sa1.out.below hb HB.out.size)
  replace HB := hid (HB.out.trans (hb.mono HB.out.size))
  clear hb
  obtain ⟨AG, kG, rfl, _, _⟩ := (Sl.of_own ho).form
  have TG := hid hsz
  have HG := hid ho
  clear ho hsz
  go_wp2_with fail
  refine (eqRecordS_c _ _ _ _ X _ (Sl.of_own HG.out) (Sl.of_own HW.out) (Nat.le_refl _)).mono ?_
  rintro e w9 ⟨rfl, hb⟩
  replace HW := hid (own_below HW.out hb)
  replace TW := hid (Nat.le_trans TW.out hb.size)
  replace Hx0 := hid (own_below Hx0.out hb)
  replace Tx0 := hid (Nat.le_trans Tx0.out hb.size)
  replace Hx1 := hid (own_below Hx1.out hb)
  replace Tx1 := hid (Nat.le_trans Tx1.out hb.size)
  replace HG := hid (own_below HG.out hb)
  replace TG := hid (Nat.le_trans TG.out hb.size)
  replace Sa0 := hid (Sa0.out.below hb HB.out.size)
  replace Sa1 := hid (Sa1.out.below hb HB.out.size)
  replace HB := hid (HB.out.trans (hb.mono HB.out.size))
  clear hb
  go_wp2_with fail
  refine (toRecordS_c _ _ _ _ _ Sa0.out HB.out.size hnt0).mono ?_
  rintro e w10 ⟨v', rfl, ho, hb⟩
  have NWy0 := hid (own_ne HW.out ho)
  have Ny0W := hid (own_ne' HW.out ho)
  have Nx0y0 := hid (own_ne Hx0.out ho)
  have Ny0x0 := hid (own_ne' Hx0.out ho)
  have Nx1y0 := hid (own_ne Hx1.out ho)
  have Ny0x1 := hid (own_ne' Hx1.out ho)
  have NGy0 := hid (own_ne HG.out ho)
  have Ny0G := hid (own_ne' HG.out ho)
  have Ly0 := hid HB.out.size
  have hsz := hb.size
  replace HW := hid (own_below HW.out hb)
  replace TW := hid (Nat.le_trans TW.out hb.size)
  replace Hx0 := hid (own_below Hx0.out hb)
  replace Tx0 := hid (Nat.le_trans Tx0.out hb.size)
  replace Hx1 := hid (own_below Hx1.out hb)
  replace Tx1 := hid (Nat.le_trans Tx1.out hb.size)
  replace HG := hid (own_below HG.out hb)
  replace TG := hid (Nat.le_trans TG.out hb.size)
  replace Sa0 := hid (Sa0.out.below hb HB.out.size)
  replace Sa1 := hid (Sa1.out.below hb HB.out.size)
  replace HB := hid (HB.out.trans (hb.mono HB.out.size))
  clear hb
  obtain ⟨Ay0, ky0, rfl, _, _⟩ := (Sl.of_own ho).form
  have Ty0 := hid hsz
  have Hy0 := hid ho
  clear ho hsz
  go_wp2_with fail
  refine (eqRecordS_c _ _ _ _ l0 _ (Sl.of_own Hx0.out) (Sl.of_own Hy0.out) (Nat.le_refl _)).mono ?_
  rintro e w11 ⟨rfl, hb⟩
  replace HW := hid (own_below HW.out hb)
  replace TW := hid (Nat.le_trans TW.out hb.size)
  replace Hx0 := hid (own_below Hx0.out hb)
  replace Tx0 := hid (Nat.le_trans Tx0.out hb.size)
  replace Hx1 := hid (own_below Hx1.out hb)
  replace Tx1 := hid (Nat.le_trans Tx1.out hb.size)
  replace HG := hid (own_below HG.out hb)
  replace TG := hid (Nat.le_trans TG.out hb.size)
  replace Hy0 := hid (own_below Hy0.out hb)
  replace Ty0 := hid (Nat.le_trans Ty0.out hb.size)
  replace Sa0 := hid (Sa0.out.below hb HB.out.size)
  replace Sa1 := hid (Sa1.out.below hb HB.out.size)
  replace HB := hid (HB.out.trans (hb.mono HB.out.size))
  clear hb
  clear Hy0 Ty0 Ly0 NWy0 Ny0W Nx0y0 Ny0x0 Nx1y0 Ny0x1 NGy0 Ny0G
  go_wp2_with fail
  refine (toRecordS_c _ _ _ _ _ Sa1.out HB.out.size hnt1).mono ?_
  rintro e w12 ⟨v', rfl, ho, hb⟩
  have NWy1 := hid (own_ne HW.out ho)
  have Ny1W := hid (own_ne' HW.out ho)
  have Nx0y1 := hid (own_ne Hx0.out ho)
  have Ny1x0 := hid (own_ne' Hx0.out ho)
  have Nx1y1 := hid (own_ne Hx1.out ho)
  have Ny1x1 := hid (own_ne' Hx1.out ho)
  have NGy1 := hid (own_ne HG.out ho)
  have Ny1G := hid (own_ne' HG.out ho)
  have Ly1 := hid HB.out.size
  have hsz := hb.size
  replace HW := hid (own_below HW.out hb)
  replace TW := hid (Nat.le_trans TW.out hb.size)
  replace Hx0 := hid (own_below Hx0.out hb)
  replace Tx0 := hid (Nat.le_trans Tx0.out hb.size)
  replace Hx1 := hid (own_below Hx1.out hb)
  replace Tx1 := hid (Nat.le_trans Tx1.out hb.size)
  replace HG := hid (own_below HG.out hb)
  replace TG := hid (Nat.le_trans TG.out hb.size)
  replace Sa0 := hid (Sa0.out.below hb HB.out.size)
  replace Sa1 := hid (Sa1.out.below hb HB.out.size)
  replace HB := hid (HB.out.trans (hb.mono HB.out.size))
  clear hb
  obtain ⟨Ay1, ky1, rfl, _, _⟩ := (Sl.of_own ho).form
  have Ty1 := hid hsz
  have Hy1 := hid ho
  clear ho hsz
  go_wp2_with fail
  refine (eqRecordS_c _ _ _ _ l1 _ (Sl.of_own Hx1.out) (Sl.of_own Hy1.out) (Nat.le_refl _)).mono ?_
  rintro e w13 ⟨rfl, hb⟩
  replace HW := hid (own_below HW.out hb)
  replace TW := hid (Nat.le_trans TW.out hb.size)
  replace Hx0 := hid (own_below Hx0.out hb)
  replace Tx0 := hid (Nat.le_trans Tx0.out hb.size)
  replace Hx1 := hid (own_below Hx1.out hb)
  replace Tx1 := hid (Nat.le_trans Tx1.out hb.size)
  replace HG := hid (own_below HG.out hb)
  replace TG := hid (Nat.le_trans TG.out hb.size)
  replace Hy1 := hid (own_below Hy1.out hb)
  replace Ty1 := hid (Nat.le_trans Ty1.out hb.size)
  replace Sa0 := hid (Sa0.out.below hb HB.out.size)
  replace Sa1 := hid (Sa1.out.below hb HB.out.size)
  replace HB := hid (HB.out.trans (hb.mono HB.out.size))
  clear hb
  clear Hy1 Ty1 Ly1 NWy1 Ny1W Nx0y1 Ny1x0 Nx1y1 Ny1x1 NGy1 Ny1G
  go_wp2_with fail
  refine (markRecordS_c _ _ _ 1 _ _ Hx0.out (by have := C0.out; have := C1.out; omega)).mono ?_
  rintro e w14 ⟨rfl, ⟨ysx0, ho, hM⟩, hg⟩
  have hb := below_of_grown hg Tx0.out (own_lt Hx0.out)
  replace HW := hid (HW.out.kept hg NWx0.out)
  replace TW := hid (Nat.le_trans TW.out hg.size)
  replace Hx1 := hid (Hx1.out.kept hg Nx1x0.out)
  replace Tx1 := hid (Nat.le_trans Tx1.out hg.size)
  replace HG := hid (HG.out.kept hg NGx0.out)
  replace TG := hid (Nat.le_trans TG.out hg.size)
  replace Sa0 := hid (Sa0.out.below hb Lx0.out)
  replace Sa1 := hid (Sa1.out.below hb Lx0.out)
  replace HB := hid (HB.out.trans (hb.mono Lx0.out))
  replace Tx0 := hid (Nat.le_trans Tx0.out hg.size)
  have Hx0 := hid ho
  have Mx0 := hid hM
  clear ho hM hg hb
  go_wp2_with fail
  refine (markRecordS_c _ _ _ (1 + n0 * 4) _ _ Hx1.out (by have := C0.out; have := C1.out; omega)).mono ?_
  rintro e w15 ⟨rfl, ⟨ysx1, ho, hM⟩, hg⟩
  have hb := below_of_grown hg Tx1.out (own_lt Hx1.out)
  replace HW := hid (HW.out.kept hg NWx1.out)
  replace TW := hid (Nat.le_trans TW.out hg.size)
  replace Hx0 := hid (Hx0.out.kept hg Nx0x1.out)
  replace Tx0 := hid (Nat.le_trans Tx0.out hg.size)
  replace HG := hid (HG.out.kept hg NGx1.out)
  replace TG := hid (Nat.le_trans TG.out hg.size)
  replace Sa0 := hid (Sa0.out.below hb Lx1.out)
  replace Sa1 := hid (Sa1.out.below hb Lx1.out)
  replace HB := hid (HB.out.trans (hb.mono Lx1.out))
  replace Tx1 := hid (Nat.le_trans Tx1.out hg.size)
  have Hx1 := hid ho
  have Mx1 := hid hM
  clear ho hM hg hb
  clear Hx0 Tx0 Lx0 NWx0 Nx0W Nx1x0 Nx0x1 NGx0 Nx0G
  clear Hx1 Tx1 Lx1 NWx1 Nx1W NGx1 Nx1G
  go_wp2_with fail
  refine (eqRecordS_c _ _ _ _ X _ (Sl.of_own HG.out) (Sl.of_own HW.out) (Nat.le_refl _)).mono ?_
  rintro e w16 ⟨rfl, hb⟩
  replace HW := hid (own_below HW.out hb)
  replace TW := hid (Nat.le_trans TW.out hb.size)
  replace HG := hid (own_below HG.out hb)
  replace TG := hid (Nat.le_trans TG.out hb.size)
  replace Sa0 := hid (Sa0.out.below hb HB.out.size)
  replace Sa1 := hid (Sa1.out.below hb HB.out.size)
  replace HB := hid (HB.out.trans (hb.mono HB.out.size))
  clear hb
  go_wp2_with fail
  refine (markRecordS_c _ _ _ 1 _ _ HG.out (by have := C0.out; have := C1.out; omega)).mono ?_
  rintro e w17 ⟨rfl, ⟨ysG, ho, hM⟩, hg⟩
  have hb := below_of_grown hg TG.out (own_lt HG.out)
  replace HW := hid (HW.out.kept hg NWG.out)
  replace TW := hid (Nat.le_trans TW.out hg.size)
  replace Sa0 := hid (Sa0.out.below hb LG.out)
  replace Sa1 := hid (Sa1.out.below hb LG.out)
  replace HB := hid (HB.out.trans (hb.mono LG.out))
  replace TG := hid (Nat.le_trans TG.out hg.size)
  have HG := hid ho
  have MG := hid hM
  clear ho hM hg hb
  go_wp2_with fail
  refine (heldRecordS_c _ _ _ 1 ysG _ (Sl.of_own HG.out) (Nat.le_refl _) MG.out (by have := C0.out; have := C1.out; omega)).mono ?_
  rintro e w18 ⟨rfl, hb⟩
  replace HW := hid (own_below HW.out hb)
  replace TW := hid (Nat.le_trans TW.out hb.size)
  replace HG := hid (own_below HG.out hb)
  replace TG := hid (Nat.le_trans TG.out hb.size)
  replace Sa0 := hid (Sa0.out.below hb HB.out.size)
  replace Sa1 := hid (Sa1.out.below hb HB.out.size)
  replace HB := hid (HB.out.trans (hb.mono HB.out.size))
  clear hb
  go_wp2_with fail
  refine (toRecordS_c _ _ _ _ _ Sa0.out HB.out.size hnt0).mono ?_
  rintro e w19 ⟨v', rfl, ho, hb⟩
  have NWz0 := hid (own_ne HW.out ho)
  have Nz0W := hid (own_ne' HW.out ho)
  have NGz0 := hid (own_ne HG.out ho)
  have Nz0G := hid (own_ne' HG.out ho)
  have Lz0 := hid HB.out.size
  have hsz := hb.size
  replace HW := hid (own_below HW.out hb)
  replace TW := hid (Nat.le_trans TW.out hb.size)
  replace HG := hid (own_below HG.out hb)
  replace TG := hid (Nat.le_trans TG.out hb.size)
  replace Sa0 := hid (Sa0.out.below hb HB.out.size)
  replace Sa1 := hid (Sa1.out.below hb HB.out.size)
  replace HB := hid (HB.out.trans (hb.mono HB.out.size))
  clear hb
  obtain ⟨Az0, kz0, rfl, _, _⟩ := (Sl.of_own ho).form
  have Tz0 := hid hsz
  have Hz0 := hid ho
  clear ho hsz
  go_wp2_with fail
  refine (toRecordS_c _ _ _ _ _ Sa1.out HB.out.size hnt1).mono ?_
  rintro e w20 ⟨v', rfl, ho, hb⟩
  have NWz1 := hid (own_ne HW.out ho)
  have Nz1W := hid (own_ne' HW.out ho)
  have NGz1 := hid (own_ne HG.out ho)
  have Nz1G := hid (own_ne' HG.out ho)
  have Nz0z1 := hid (own_ne Hz0.out ho)
  have Nz1z0 := hid (own_ne' Hz0.out ho)
  have Lz1 := hid HB.out.size
  have hsz := hb.size
  replace HW := hid (own_below HW.out hb)
  replace TW := hid (Nat.le_trans TW.out hb.size)
  replace HG := hid (own_below HG.out hb)
  replace TG := hid (Nat.le_trans TG.out hb.size)
  replace Hz0 := hid (own_below Hz0.out hb)
  replace Tz0 := hid (Nat.le_trans Tz0.out hb.size)
  replace Sa0 := hid (Sa0.out.below hb HB.out.size)
  replace Sa1 := hid (Sa1.out.below hb HB.out.size)
  replace HB := hid (HB.out.trans (hb.mono HB.out.size))
  clear hb
  obtain ⟨Az1, kz1, rfl, _, _⟩ := (Sl.of_own ho).form
  have Tz1 := hid hsz
  have Hz1 := hid ho
  clear ho hsz
  go_wp2_with fail
  refine (cI.out _ _ _ ⟨Sl.of_own Hz0.out, F0.out⟩ ⟨Sl.of_own Hz1.out, F1.out⟩ hn0 hn1).mono ?_
  rintro e w21 ⟨v', rfl, ho, hb⟩
  have NWh := hid (own_ne HW.out ho)
  have NhW := hid (own_ne' HW.out ho)
  have NGh := hid (own_ne HG.out ho)
  have NhG := hid (own_ne' HG.out ho)
  have Nz0h := hid (own_ne Hz0.out ho)
  have Nhz0 := hid (own_ne' Hz0.out ho)
  have Nz1h := hid (own_ne Hz1.out ho)
  have Nhz1 := hid (own_ne' Hz1.out ho)
  have Lh := hid HB.out.size
  have hsz := hb.size
  replace HW := hid (own_below HW.out hb)
  replace TW := hid (Nat.le_trans TW.out hb.size)
  replace HG := hid (own_below HG.out hb)
  replace TG := hid (Nat.le_trans TG.out hb.size)
  replace Hz0 := hid (own_below Hz0.out hb)
  replace Tz0 := hid (Nat.le_trans Tz0.out hb.size)
  replace Hz1 := hid (own_below Hz1.out hb)
  replace Tz1 := hid (Nat.le_trans Tz1.out hb.size)
  replace Sa0 := hid (Sa0.out.below hb HB.out.size)
  replace Sa1 := hid (Sa1.out.below hb HB.out.size)
  replace HB := hid (HB.out.trans (hb.mono HB.out.size))
  clear hb
  obtain ⟨Ah, kh, rfl, _, _⟩ := (Sl.of_own ho).form
  have Th := hid hsz
  have Hh := hid ho
  clear ho hsz
  clear Hz0 Tz0 Lz0 NWz0 Nz0W NGz0 Nz0G Nz1z0 Nz0z1 Nhz0 Nz0h
  clear Hz1 Tz1 Lz1 NWz1 Nz1W NGz1 Nz1G Nhz1 Nz1h
  go_wp2_with fail
  refine (eqRecordS_c _ _ _ _ X _ (Sl.of_own Hh.out) (Sl.of_own HW.out) (Nat.le_refl _)).mono ?_
  rintro e w22 ⟨rfl, hb⟩
  replace HW := hid (own_below HW.out hb)
  replace TW := hid (Nat.le_trans TW.out hb.size)
  replace HG := hid (own_below HG.out hb)
  replace TG := hid (Nat.le_trans TG.out hb.size)
  replace Hh := hid (own_below Hh.out hb)
  replace Th := hid (Nat.le_trans Th.out hb.size)
  replace Sa0 := hid (Sa0.out.below hb HB.out.size)
  replace Sa1 := hid (Sa1.out.below hb HB.out.size)
  replace HB := hid (HB.out.trans (hb.mono HB.out.size))
  clear hb
  clear Hh Th Lh NWh NhW NGh NhG
  go_wp2_with fail
  refine (heldRecordS_c _ _ _ 1 ysG _ (Sl.of_own HG.out) (Nat.le_refl _) MG.out (by have := C0.out; have := C1.out; omega)).mono ?_
  rintro e w23 ⟨rfl, hb⟩
  replace HW := hid (own_below HW.out hb)
  replace TW := hid (Nat.le_trans TW.out hb.size)
  replace HG := hid (own_below HG.out hb)
  replace TG := hid (Nat.le_trans TG.out hb.size)
  replace Sa0 := hid (Sa0.out.below hb HB.out.size)
  replace Sa1 := hid (Sa1.out.below hb HB.out.size)
  replace HB := hid (HB.out.trans (hb.mono HB.out.size))
  clear hb
  go_wp2_with fail
  go_ret
  exact ⟨rfl, HB.out⟩
end Go.Proofs.Ytabjkcejghplkaa
