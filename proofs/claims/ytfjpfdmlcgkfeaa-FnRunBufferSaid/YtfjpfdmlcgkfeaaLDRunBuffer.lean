/-
  WALK: the law FnRunBuffer. By gen_draw.py.
-/
import Derived.Test.YtfjpfdmlcgkfeaaRB3
import Derived.Deep.CutRange
import Derived.Deep.RegionHeld3
namespace Go.Proofs.Ytfjpfdmlcgkfeaa
open Go.RowKit Nm
set_option linter.unusedSimpArgs false
set_option linter.unusedVariables false

set_option maxHeartbeats 8000000 in
set_option maxRecDepth 100000 in
theorem walk_FnRunBuffer (a0 : Option Addr) (len0 cap0 : Nat) (z0 : List Int) (w : World) (w0 : IsRow .u8 w a0 len0 cap0 z0) :
    Calls Try.prog 4 #[.slice a0 len0 cap0] w (BoolPost w true) := by
  have hb0 := w0.le
  have HB := hid (Below.refl w.heap.size w)
  by_cases h1 : (1048576 : Int) < (len0 : Int)
  · go_enter Try.func4, Try.ntmps4
    go_wp2_with fail
    go_ret
    exact ⟨rfl, HB.out⟩
  have DR := hid (drawRunBuffer_c a0 len0 cap0 z0 w w0)
  clear w0
  go_enter Try.func4, Try.ntmps4
  go_wp2_with fail
  refine DR.out.mono ?_
  rintro e w1 ⟨v, rsL, d, u, rsM, l, rfl, hs0, hs1, hr, hb, hf, hfl, hl30, hl25⟩
  obtain ⟨fL0, fL1, fL2, rfl⟩ := hs0.form hr.left
  have SL := hid hs0
  obtain ⟨fM0, fM1, fM2, rfl⟩ := hs1.form hr.right
  have SM := hid hs1
  clear hs0 hs1
  have HR := hid (hr.base HB.out.size)
  replace HR := hid (by simpa only [List.append_assoc] using HR.out)
  replace HB := hid (HB.out.trans (hb.mono HB.out.size))
  clear hb hr
  clear DR
  have FL := hid hf
  have FM := hid hfl
  clear hf hfl
  have C1 := hid (fun (W : World) (u u2 : Value) (h : BufIn W W.heap.size u d) (h2 : RecsIn W W.heap.size u2 l) => implRunBuffer_c h h2 (Nat.le_refl _))
  have C2 := hid (fun (W : World) (u u2 : Value) (h : BufIn W W.heap.size u d) (h2 : RecsIn W W.heap.size u2 l) => specRunBuffer_c h h2 (Nat.le_refl _))
  have FE := hid (rbB_fit FL.out FM.out)
  have FY := hid (rbO_fit FL.out FM.out)
  have K1 := hid (fun (hz : rbOk d l = true) (W : World) (u : Value) (h : BufIn W W.heap.size u (rbB d l)) => (show Calls Try.prog 23 #[u] W (BoolPost W true) by have h9 := iValidBuffer h; rwa [(rb_facts hz).1] at h9))
  have K2 := hid (fun (hz : rbOk d l = true) => (rb_facts hz).2.1)
  have K3 := hid (fun (hz : rbOk d l = true) => (rb_facts hz).2.2)
  generalize rbB d l = E at *
  generalize rbO d l = Y at *
  generalize rbOk d l = q at *
  have hb : Below w1.heap.size w1 (w1.alloc (.cells #[.int .i64 d.rm, .int .i64 d.lv, .slice fL0 fL1 fL2] 29)) := (Below.refl _ _).alloc (Nat.le_refl _) _
  have hr := Rows.box w1 #[.int .i64 d.rm, .int .i64 d.lv, .slice fL0 fL1 fL2] 29 3 rfl
  replace HR := hid (HR.out.newer hb hr HB.out.size)
  replace HB := hid (HB.out.trans (hb.mono HB.out.size))
  clear hb hr
  have dbL0 := (Rows.bc (HR.out.left) 0 rfl).1
  have dbL1 := (Rows.bc (HR.out.left) 1 rfl).1
  have dbL2 := (Rows.bc (HR.out.left) 2 rfl).1
  have tbL := (Rows.bc (HR.out.left) 0 rfl).2
  go_wp2_with fail
  refine (C1.out _ _ _ (SL.out.at_ (HR.out.right.left) FL.out) (SM.out.at_ (HR.out.right.right) FM.out)).mono ?_
  rintro e w2 ⟨u0, rsE, u1, rsY, rfl, hs0, hs1, hr, hb⟩
  obtain ⟨fE0, fE1, fE2, rfl⟩ := hs0.form hr.left
  have SE := hid hs0
  obtain ⟨fY0, fY1, fY2, rfl⟩ := hs1.form hr.right
  have SY := hid hs1
  clear hs0 hs1
  replace HR := hid (HR.out.newer hb hr HB.out.size)
  replace HR := hid (by simpa only [List.append_assoc] using HR.out)
  replace HB := hid (HB.out.trans (hb.mono HB.out.size))
  clear hb hr
  clear dbL0 dbL1 dbL2 tbL
  have dbL0 := (Rows.bc (HR.out.right.right.left) 0 rfl).1
  have dbL1 := (Rows.bc (HR.out.right.right.left) 1 rfl).1
  have dbL2 := (Rows.bc (HR.out.right.right.left) 2 rfl).1
  have tbL := (Rows.bc (HR.out.right.right.left) 0 rfl).2
  have hb : Below w2.heap.size w2 (w2.alloc (.cells #[.int .i64 E.rm, .int .i64 E.lv, .slice fE0 fE1 fE2] 29)) := (Below.refl _ _).alloc (Nat.le_refl _) _
  have hr := Rows.box w2 #[.int .i64 E.rm, .int .i64 E.lv, .slice fE0 fE1 fE2] 29 3 rfl
  replace HR := hid (HR.out.newer hb hr HB.out.size)
  replace HB := hid (HB.out.trans (hb.mono HB.out.size))
  clear hb hr
  clear dbL0 dbL1 dbL2 tbL
  have dbE0 := (Rows.bc (HR.out.left) 0 rfl).1
  have dbE1 := (Rows.bc (HR.out.left) 1 rfl).1
  have dbE2 := (Rows.bc (HR.out.left) 2 rfl).1
  have tbE := (Rows.bc (HR.out.left) 0 rfl).2
  have dbL0 := (Rows.bc (HR.out.right.right.right.left) 0 rfl).1
  have dbL1 := (Rows.bc (HR.out.right.right.right.left) 1 rfl).1
  have dbL2 := (Rows.bc (HR.out.right.right.right.left) 2 rfl).1
  have tbL := (Rows.bc (HR.out.right.right.right.left) 0 rfl).2
  have FW := FE
  have FV := FY
  go_wp2_with fail
  refine (C2.out _ _ _ (SL.out.at_ (HR.out.right.right.right.right.left) FL.out) (SM.out.at_ (HR.out.right.right.right.right.right) FM.out)).mono ?_
  rintro e w3 ⟨u0, rsW, u1, rsV, rfl, hs0, hs1, hr, hb⟩
  obtain ⟨fW0, fW1, fW2, rfl⟩ := hs0.form hr.left
  have SW := hid hs0
  obtain ⟨fV0, fV1, fV2, rfl⟩ := hs1.form hr.right
  have SV := hid hs1
  clear hs0 hs1
  replace HR := hid (HR.out.newer hb hr HB.out.size)
  replace HR := hid (by simpa only [List.append_assoc] using HR.out)
  replace HB := hid (HB.out.trans (hb.mono HB.out.size))
  clear hb hr
  clear dbE0 dbE1 dbE2 tbE dbL0 dbL1 dbL2 tbL
  have dbE0 := (Rows.bc (HR.out.right.right.left) 0 rfl).1
  have dbE1 := (Rows.bc (HR.out.right.right.left) 1 rfl).1
  have dbE2 := (Rows.bc (HR.out.right.right.left) 2 rfl).1
  have tbE := (Rows.bc (HR.out.right.right.left) 0 rfl).2
  have dbL0 := (Rows.bc (HR.out.right.right.right.right.right.left) 0 rfl).1
  have dbL1 := (Rows.bc (HR.out.right.right.right.right.right.left) 1 rfl).1
  have dbL2 := (Rows.bc (HR.out.right.right.right.right.right.left) 2 rfl).1
  have tbL := (Rows.bc (HR.out.right.right.right.right.right.left) 0 rfl).2
  have hb : Below w3.heap.size w3 (w3.alloc (.cells #[.int .i64 E.rm, .int .i64 E.lv, .slice fW0 fW1 fW2] 29)) := (Below.refl _ _).alloc (Nat.le_refl _) _
  have hr := Rows.box w3 #[.int .i64 E.rm, .int .i64 E.lv, .slice fW0 fW1 fW2] 29 3 rfl
  replace HR := hid (HR.out.newer hb hr HB.out.size)
  replace HB := hid (HB.out.trans (hb.mono HB.out.size))
  clear hb hr
  clear dbE0 dbE1 dbE2 tbE dbL0 dbL1 dbL2 tbL
  have dbW0 := (Rows.bc (HR.out.left) 0 rfl).1
  have dbW1 := (Rows.bc (HR.out.left) 1 rfl).1
  have dbW2 := (Rows.bc (HR.out.left) 2 rfl).1
  have tbW := (Rows.bc (HR.out.left) 0 rfl).2
  have dbE0 := (Rows.bc (HR.out.right.right.right.left) 0 rfl).1
  have dbE1 := (Rows.bc (HR.out.right.right.right.left) 1 rfl).1
  have dbE2 := (Rows.bc (HR.out.right.right.right.left) 2 rfl).1
  have tbE := (Rows.bc (HR.out.right.right.right.left) 0 rfl).2
  have dbL0 := (Rows.bc (HR.out.right.right.right.right.right.right.left) 0 rfl).1
  have dbL1 := (Rows.bc (HR.out.right.right.right.right.right.right.left) 1 rfl).1
  have dbL2 := (Rows.bc (HR.out.right.right.right.right.right.right.left) 2 rfl).1
  have tbL := (Rows.bc (HR.out.right.right.right.right.right.right.left) 0 rfl).2
  go_wp2_with fail
  refine (equalBufX_c SE.out (HR.out.right.right.right.right.left) SW.out (HR.out.right.left)).mono ?_
  rintro e w4 ⟨rfl, hb⟩
  replace HR := hid (HR.out.below hb)
  replace HB := hid (HB.out.trans (hb.mono HB.out.size))
  clear hb
  clear dbW0 dbW1 dbW2 tbW dbE0 dbE1 dbE2 tbE dbL0 dbL1 dbL2 tbL
  have dbW0 := (Rows.bc (HR.out.left) 0 rfl).1
  have dbW1 := (Rows.bc (HR.out.left) 1 rfl).1
  have dbW2 := (Rows.bc (HR.out.left) 2 rfl).1
  have tbW := (Rows.bc (HR.out.left) 0 rfl).2
  have dbE0 := (Rows.bc (HR.out.right.right.right.left) 0 rfl).1
  have dbE1 := (Rows.bc (HR.out.right.right.right.left) 1 rfl).1
  have dbE2 := (Rows.bc (HR.out.right.right.right.left) 2 rfl).1
  have tbE := (Rows.bc (HR.out.right.right.right.left) 0 rfl).2
  have dbL0 := (Rows.bc (HR.out.right.right.right.right.right.right.left) 0 rfl).1
  have dbL1 := (Rows.bc (HR.out.right.right.right.right.right.right.left) 1 rfl).1
  have dbL2 := (Rows.bc (HR.out.right.right.right.right.right.right.left) 2 rfl).1
  have tbL := (Rows.bc (HR.out.right.right.right.right.right.right.left) 0 rfl).2
  go_wp2_with fail
  refine (equalBatchesX_c SY.out (HR.out.right.right.right.right.right.left) SV.out (HR.out.right.right.left)).mono ?_
  rintro e w5 ⟨rfl, hb⟩
  replace HR := hid (HR.out.below hb)
  replace HB := hid (HB.out.trans (hb.mono HB.out.size))
  clear hb
  clear dbW0 dbW1 dbW2 tbW dbE0 dbE1 dbE2 tbE dbL0 dbL1 dbL2 tbL
  have dbW0 := (Rows.bc (HR.out.left) 0 rfl).1
  have dbW1 := (Rows.bc (HR.out.left) 1 rfl).1
  have dbW2 := (Rows.bc (HR.out.left) 2 rfl).1
  have tbW := (Rows.bc (HR.out.left) 0 rfl).2
  have dbE0 := (Rows.bc (HR.out.right.right.right.left) 0 rfl).1
  have dbE1 := (Rows.bc (HR.out.right.right.right.left) 1 rfl).1
  have dbE2 := (Rows.bc (HR.out.right.right.right.left) 2 rfl).1
  have tbE := (Rows.bc (HR.out.right.right.right.left) 0 rfl).2
  have dbL0 := (Rows.bc (HR.out.right.right.right.right.right.right.left) 0 rfl).1
  have dbL1 := (Rows.bc (HR.out.right.right.right.right.right.right.left) 1 rfl).1
  have dbL2 := (Rows.bc (HR.out.right.right.right.right.right.right.left) 2 rfl).1
  have tbL := (Rows.bc (HR.out.right.right.right.right.right.right.left) 0 rfl).2
  have b0 : (q != q) = false := by simp
  have b1 : (q == q) = true := by simp
  cases q
  · go_wp2_with fail
    refine (equalBufX_c SE.out (HR.out.right.right.right.right.left) SW.out (HR.out.right.left)).mono ?_
    rintro e w6 ⟨rfl, hb⟩
    replace HR := hid (HR.out.below hb)
    replace HB := hid (HB.out.trans (hb.mono HB.out.size))
    clear hb
    clear dbW0 dbW1 dbW2 tbW dbE0 dbE1 dbE2 tbE dbL0 dbL1 dbL2 tbL
    have dbW0 := (Rows.bc (HR.out.left) 0 rfl).1
    have dbW1 := (Rows.bc (HR.out.left) 1 rfl).1
    have dbW2 := (Rows.bc (HR.out.left) 2 rfl).1
    have tbW := (Rows.bc (HR.out.left) 0 rfl).2
    have dbE0 := (Rows.bc (HR.out.right.right.right.left) 0 rfl).1
    have dbE1 := (Rows.bc (HR.out.right.right.right.left) 1 rfl).1
    have dbE2 := (Rows.bc (HR.out.right.right.right.left) 2 rfl).1
    have tbE := (Rows.bc (HR.out.right.right.right.left) 0 rfl).2
    have dbL0 := (Rows.bc (HR.out.right.right.right.right.right.right.left) 0 rfl).1
    have dbL1 := (Rows.bc (HR.out.right.right.right.right.right.right.left) 1 rfl).1
    have dbL2 := (Rows.bc (HR.out.right.right.right.right.right.right.left) 2 rfl).1
    have tbL := (Rows.bc (HR.out.right.right.right.right.right.right.left) 0 rfl).2
    go_wp2_with fail
    refine (equalBatchesX_c SY.out (HR.out.right.right.right.right.right.left) SV.out (HR.out.right.right.left)).mono ?_
    rintro e w7 ⟨rfl, hb⟩
    replace HR := hid (HR.out.below hb)
    replace HB := hid (HB.out.trans (hb.mono HB.out.size))
    clear hb
    clear dbW0 dbW1 dbW2 tbW dbE0 dbE1 dbE2 tbE dbL0 dbL1 dbL2 tbL
    have dbW0 := (Rows.bc (HR.out.left) 0 rfl).1
    have dbW1 := (Rows.bc (HR.out.left) 1 rfl).1
    have dbW2 := (Rows.bc (HR.out.left) 2 rfl).1
    have tbW := (Rows.bc (HR.out.left) 0 rfl).2
    have dbE0 := (Rows.bc (HR.out.right.right.right.left) 0 rfl).1
    have dbE1 := (Rows.bc (HR.out.right.right.right.left) 1 rfl).1
    have dbE2 := (Rows.bc (HR.out.right.right.right.left) 2 rfl).1
    have tbE := (Rows.bc (HR.out.right.right.right.left) 0 rfl).2
    have dbL0 := (Rows.bc (HR.out.right.right.right.right.right.right.left) 0 rfl).1
    have dbL1 := (Rows.bc (HR.out.right.right.right.right.right.right.left) 1 rfl).1
    have dbL2 := (Rows.bc (HR.out.right.right.right.right.right.right.left) 2 rfl).1
    have tbL := (Rows.bc (HR.out.right.right.right.right.right.right.left) 0 rfl).2
    go_wp2_with fail
    go_ret
    exact ⟨rfl, HB.out⟩
  · replace K1 := hid (K1.out rfl)
    replace K2 := hid (K2.out rfl)
    replace K3 := hid (K3.out rfl)
    replace HR := hid (HR.out.sub ((List.Sublist.refl _).append (List.sublist_append_right _ _)))
    clear SW
    replace HR := hid (HR.out.sub ((List.Sublist.refl _).append (List.sublist_append_right _ _)))
    clear SV
    replace HR := hid (HR.out.sub (List.sublist_append_right _ _))
    clear dbW0 dbW1 dbW2 tbW dbE0 dbE1 dbE2 tbE dbL0 dbL1 dbL2 tbL
    have dbE0 := (Rows.bc (HR.out.left) 0 rfl).1
    have dbE1 := (Rows.bc (HR.out.left) 1 rfl).1
    have dbE2 := (Rows.bc (HR.out.left) 2 rfl).1
    have tbE := (Rows.bc (HR.out.left) 0 rfl).2
    have dbL0 := (Rows.bc (HR.out.right.right.right.left) 0 rfl).1
    have dbL1 := (Rows.bc (HR.out.right.right.right.left) 1 rfl).1
    have dbL2 := (Rows.bc (HR.out.right.right.right.left) 2 rfl).1
    have tbL := (Rows.bc (HR.out.right.right.right.left) 0 rfl).2
    have hcnt := RecsR.count SL.out.recs (HR.out.right.right.right.right.left)
    have hcm := RecsR.count SM.out (HR.out.right.right.right.right.right)
    have hce := RecsR.count SE.out.recs (HR.out.right.left)
    have hcy : fY1 = Y.length := ((SY.out.at_ (HR.out.right.right.left) FY.out).1.count).symm
    have hall : Y.flatten.length + E.rc.length = d.rc.length + l.length := by rw [← List.length_append, K2.out, List.length_append]
    generalize hZZ : d.rc ++ l = Z at K2
    replace hZZ := hid hZZ
    have hy20 := FY.out.1
    unfold maxTxt at hy20
    have HC := hid (And.intro hcnt (And.intro hcm (And.intro hce (And.intro hcy hall))))
    have HSL := hid (fun (W : World) (hb : Below w5.heap.size w5 W) => (RecsR.at_ SL.out.recs (Rows.below (HR.out.right.right.right.right.left) hb) FL.out).1.1)
    have HSM := hid (fun (W : World) (hb : Below w5.heap.size w5 W) => (RecsR.at_ SM.out (Rows.below (HR.out.right.right.right.right.right) hb) FM.out).1.1)
    have HSE := hid (fun (W : World) (hb : Below w5.heap.size w5 W) => (RecsR.at_ SE.out.recs (Rows.below (HR.out.right.left) hb) FE.out).1.1)
    have HSY := hid (fun (W : World) (hb : Below w5.heap.size w5 W) => SY.out.at_ (Rows.below (HR.out.right.right.left) hb) FY.out)
    have HV := hid (fun (W : World) (hb : Below w5.heap.size w5 W) => K1.out W _ (SE.out.at_ (Rows.below (HR.out.right.left) hb) FE.out))
    have HLC := hid (fun (W : World) (hb : Below w5.heap.size w5 W) => And.intro ((hb.cell (p := ⟨w1.heap.size, 0, none⟩) tbL).trans dbL0) (And.intro ((hb.cell (p := ⟨w1.heap.size, 1, none⟩) tbL).trans dbL1) ((hb.cell (p := ⟨w1.heap.size, 2, none⟩) tbL).trans dbL2)))
    have HEC := hid (fun (W : World) (hb : Below w5.heap.size w5 W) => And.intro ((hb.cell (p := ⟨w2.heap.size, 0, none⟩) tbE).trans dbE0) (And.intro ((hb.cell (p := ⟨w2.heap.size, 1, none⟩) tbE).trans dbE1) ((hb.cell (p := ⟨w2.heap.size, 2, none⟩) tbE).trans dbE2)))
    have HL := hid (World.ownsRow_lit w5 #[] 0 (Nat.le_refl _) (by unfold maxLen; omega) (by simp) : (w5.alloc (.cells #[] 46)).ownsRow w5.heap.size 46 4 (.slice (some ⟨w5.heap.size, 0, none⟩) 0 0) 0 [])
    have HB0 := hid ((Below.refl w5.heap.size w5).alloc (Nat.le_refl _) (.cells #[] 46))
    subst hcy
    clear hcnt hcm hce hall
    go_wp2_with fail
    go_loopw [11, 12, 13] (fun av iv nv wr => ∃ (k m : Nat) (A : Option Addr) (c : Nat), iv = .int .i64 k ∧ av = .slice A m c ∧ k ≤ Y.length ∧ Hid (m = ((Y.take k).flatten).length ∧ wr.ownsRow w5.heap.size 46 4 (.slice A m c) m (((Y.take k).flatten).flatMap rcells)) ∧ Hid (Below w5.heap.size w5 wr)) (fun _ iv _ _ => Y.length - (intOf iv).toNat)
    case atStart => exact ⟨0, 0, _, _, rfl, rfl, Nat.zero_le _, ⟨rfl, HL.out⟩, HB0.out⟩
    case round =>
      clear dbE0 dbE1 dbE2 tbE dbL0 dbL1 dbL2 tbL
      obtain ⟨k, m, A, c, rfl, rfl, hk, HO, HBr⟩ := hrel
      by_cases hlt : k < Y.length
      · obtain ⟨b, o, u, bt, rfl, hbB, hx, c0, hin⟩ := (HSY.out _ HBr.out).1.elem hlt
        obtain ⟨k1, k2, k3⟩ := K3.out bt (List.mem_of_getElem? hx)
        obtain ⟨A', c', rfl, hnc', hcm'⟩ := hin.1.1.form
        unfold maxLen at hcm'
        have HT := hid (flat_take_succ hx)
        have htl : ((Y.take k).flatten).length + bt.length ≤ 55 := by
          have h1 := flat_take_le (L := Y) (k := k + 1); rw [HT.out, List.length_append] at h1; have := HC.out.2.2.2.2; omega
        obtain ⟨bb, oo, nm, lv, tx, sq, rfl, hbB', hx', e0, e1, e2, e3⟩ := rcells_at hin.1.1 (show bt.length - 1 < bt.length by omega)
        have k4 : (bt.length : Int) < d.rm → d.lv ≤ lv := fun h => by obtain ⟨x, h1, h2⟩ := k3 h; rw [hx'] at h1; cases h1; exact h2
        have HI := hid hin
        have HX := hid hx
        clear hx k3 hx' hin e0 e2 e3
        generalize hbt : bt.length = nb at *
        replace hbt := hid hbt
        have q0 : ((nb : Int) == 0) = false := by simp; omega
        have q6 : nb - 1 < nb := by omega
        have q1 : ¬ (d.rm < (nb : Int)) := by omega
        have q1c : decide (d.rm < (nb : Int)) = false := decide_eq_false q1
        have q3 : IntKind.i64.wrap ((nb : Int) - 1) = ((nb - 1 : Nat) : Int) := by rw [IntKind.wrap_i64] <;> omega
        obtain ⟨l0, l1, l2⟩ := HLC.out _ HBr.out
        have HLC0 := hid (And.intro l0 l1)
        clear l2
        go_wp2_with fail
        have hway : (((nb : Int) < d.rm) ∧ d.lv ≤ lv) ∨ ¬ ((nb : Int) < d.rm) := by
          by_cases h : (nb : Int) < d.rm
          · exact .inl ⟨h, k4 h⟩
          · exact .inr h
        clear k4
        rcases hway with ⟨q2, q4⟩ | q2
        · have q5 : ¬ (lv < d.lv) := by omega
          have q5c : decide (lv < d.lv) = false := decide_eq_false q5
          have q2c : decide ((nb : Int) < d.rm) = true := decide_eq_true q2
          refine wp_region_held_drew (S := fun w' : World => w'.cell? ⟨b, o + k, none⟩ = some (.slice (some ⟨bb, oo, none⟩) nb c') ∧ w'.cell? ⟨bb, oo + (nb - 1) * 4 + 1, none⟩ = some (.int .i64 lv) ∧ w'.cell? ⟨w1.heap.size, 0, none⟩ = some (.int .i64 d.rm) ∧ w'.cell? ⟨w1.heap.size, 1, none⟩ = some (.int .i64 d.lv)) (by kernel_rfl) ⟨c0, e1, l0, l1⟩ (fun hS => ?_)
          refine wpAnyH_take (i := 0) (oi := ?oi101) (v := ?v101) ?hi101 (by kernel_rfl) ?hf101 ?hr101 ?hQ101 (Or.inl ⟨?hw101, ?hy101⟩) (by assumption) ?rest101
          case hi101 => simp only [List.getElem?_toArray, List.getElem?_cons_succ, List.getElem?_cons_zero]; rfl
          case hf101 => kernel_rfl
          case hr101 => kernel_rfl
          case hw101 => rfl
          case hy101 => (intro w hSw; (try dsimp only at hSw); go_simp; all_goals (first | done | with_reducible rfl))
          case hQ101 => exact fun _ _ _ h => h
          simp only [Act.put, List.setIfInBounds_toArray, List.set_cons_zero, List.set_cons_succ]
          refine wpAnyH_take (i := 1) (oi := ?oi102) (v := ?v102) ?hi102 (by kernel_rfl) ?hf102 ?hr102 ?hQ102 (Or.inl ⟨?hw102, ?hy102⟩) (by assumption) ?rest102
          case hi102 => simp only [List.getElem?_toArray, List.getElem?_cons_succ, List.getElem?_cons_zero]; rfl
          case hf102 => kernel_rfl
          case hr102 => kernel_rfl
          case hw102 => rfl
          case hy102 => (intro w hSw; (try dsimp only at hSw); go_simp; all_goals (first | done | with_reducible rfl))
          case hQ102 => exact fun _ _ _ h => h
          simp only [Act.put, List.setIfInBounds_toArray, List.set_cons_zero, List.set_cons_succ]
          refine wpAnyH_take (i := 2) (oi := ?oi103) (v := ?v103) ?hi103 (by kernel_rfl) ?hf103 ?hr103 ?hQ103 (Or.inl ⟨?hw103, ?hy103⟩) (by assumption) ?rest103
          case hi103 => simp only [List.getElem?_toArray, List.getElem?_cons_succ, List.getElem?_cons_zero]; rfl
          case hf103 => kernel_rfl
          case hr103 => kernel_rfl
          case hw103 => rfl
          case hy103 => (intro w hSw; (try dsimp only at hSw); go_simp; all_goals (first | done | with_reducible rfl))
          case hQ103 => exact fun _ _ _ h => h
          simp only [Act.put, List.setIfInBounds_toArray, List.set_cons_zero, List.set_cons_succ]
          refine wpAnyH_take (i := 3) (oi := ?oi104) (v := ?v104) ?hi104 (by kernel_rfl) ?hf104 ?hr104 ?hQ104 (Or.inl ⟨?hw104, ?hy104⟩) (by assumption) ?rest104
          case hi104 => simp only [List.getElem?_toArray, List.getElem?_cons_succ, List.getElem?_cons_zero]; rfl
          case hf104 => kernel_rfl
          case hr104 => kernel_rfl
          case hw104 => rfl
          case hy104 => (intro w hSw; (try dsimp only at hSw); go_simp; all_goals (first | done | with_reducible rfl))
          case hQ104 => exact fun _ _ _ h => h
          simp only [Act.put, List.setIfInBounds_toArray, List.set_cons_zero, List.set_cons_succ]
          refine wpAnyH_take (i := 4) (oi := ?oi105) (v := ?v105) ?hi105 (by kernel_rfl) ?hf105 ?hr105 ?hQ105 (Or.inl ⟨?hw105, ?hy105⟩) (by assumption) ?rest105
          case hi105 => simp only [List.getElem?_toArray, List.getElem?_cons_succ, List.getElem?_cons_zero]; rfl
          case hf105 => kernel_rfl
          case hr105 => kernel_rfl
          case hw105 => rfl
          case hy105 => (intro w hSw; (try dsimp only at hSw); go_simp; all_goals (first | done | with_reducible rfl))
          case hQ105 => exact fun _ _ _ h => h
          simp only [Act.put, List.setIfInBounds_toArray, List.set_cons_zero, List.set_cons_succ]
          refine wpAnyH_take (i := 5) (oi := ?oi106) (v := ?v106) ?hi106 (by kernel_rfl) ?hf106 ?hr106 ?hQ106 (Or.inl ⟨?hw106, ?hy106⟩) (by assumption) ?rest106
          case hi106 => simp only [List.getElem?_toArray, List.getElem?_cons_succ, List.getElem?_cons_zero]; rfl
          case hf106 => kernel_rfl
          case hr106 => kernel_rfl
          case hw106 => rfl
          case hy106 => (intro w hSw; (try dsimp only at hSw); go_simp; all_goals (first | done | with_reducible rfl))
          case hQ106 => exact fun _ _ _ h => h
          simp only [Act.put, List.setIfInBounds_toArray, List.set_cons_zero, List.set_cons_succ]
          refine wpAnyH_take (i := 6) (oi := ?oi107) (v := ?v107) ?hi107 (by kernel_rfl) ?hf107 ?hr107 ?hQ107 (Or.inl ⟨?hw107, ?hy107⟩) (by assumption) ?rest107
          case hi107 => simp only [List.getElem?_toArray, List.getElem?_cons_succ, List.getElem?_cons_zero]; rfl
          case hf107 => kernel_rfl
          case hr107 => kernel_rfl
          case hw107 => rfl
          case hy107 => (intro w hSw; (try dsimp only at hSw); go_simp; all_goals (first | done | with_reducible rfl))
          case hQ107 => exact fun _ _ _ h => h
          simp only [Act.put, List.setIfInBounds_toArray, List.set_cons_zero, List.set_cons_succ]
          refine wpAnyH_take (i := 7) (oi := ?oi108) (v := ?v108) ?hi108 (by kernel_rfl) ?hf108 ?hr108 ?hQ108 (Or.inl ⟨?hw108, ?hy108⟩) (by assumption) ?rest108
          case hi108 => simp only [List.getElem?_toArray, List.getElem?_cons_succ, List.getElem?_cons_zero]; rfl
          case hf108 => kernel_rfl
          case hr108 => kernel_rfl
          case hw108 => rfl
          case hy108 => (intro w hSw; (try dsimp only at hSw); go_simp; all_goals (first | done | with_reducible rfl))
          case hQ108 => exact fun _ _ _ h => h
          simp only [Act.put, List.setIfInBounds_toArray, List.set_cons_zero, List.set_cons_succ]
          refine wpAnyH_take (i := 8) (oi := ?oi109) (v := ?v109) ?hi109 (by kernel_rfl) ?hf109 ?hr109 ?hQ109 (Or.inl ⟨?hw109, ?hy109⟩) (by assumption) ?rest109
          case hi109 => simp only [List.getElem?_toArray, List.getElem?_cons_succ, List.getElem?_cons_zero]; rfl
          case hf109 => kernel_rfl
          case hr109 => kernel_rfl
          case hw109 => rfl
          case hy109 => (intro w hSw; (try dsimp only at hSw); go_simp; all_goals (first | done | with_reducible rfl))
          case hQ109 => exact fun _ _ _ h => h
          simp only [Act.put, List.setIfInBounds_toArray, List.set_cons_zero, List.set_cons_succ]
          refine wpAnyH_take (i := 9) (oi := ?oi110) (v := ?v110) ?hi110 (by kernel_rfl) ?hf110 ?hr110 ?hQ110 (Or.inl ⟨?hw110, ?hy110⟩) (by assumption) ?rest110
          case hi110 => simp only [List.getElem?_toArray, List.getElem?_cons_succ, List.getElem?_cons_zero]; rfl
          case hf110 => kernel_rfl
          case hr110 => kernel_rfl
          case hw110 => rfl
          case hy110 => (intro w hSw; (try dsimp only at hSw); go_simp; all_goals (first | done | with_reducible rfl))
          case hQ110 => exact fun _ _ _ h => h
          simp only [Act.put, List.setIfInBounds_toArray, List.set_cons_zero, List.set_cons_succ]
          refine wpAnyH_take (i := 10) (oi := ?oi111) (v := ?v111) ?hi111 (by kernel_rfl) ?hf111 ?hr111 ?hQ111 (Or.inl ⟨?hw111, ?hy111⟩) (by assumption) ?rest111
          case hi111 => simp only [List.getElem?_toArray, List.getElem?_cons_succ, List.getElem?_cons_zero]; rfl
          case hf111 => kernel_rfl
          case hr111 => kernel_rfl
          case hw111 => rfl
          case hy111 => (intro w hSw; (try dsimp only at hSw); go_simp; all_goals (first | done | with_reducible rfl))
          case hQ111 => exact fun _ _ _ h => h
          simp only [Act.put, List.setIfInBounds_toArray, List.set_cons_zero, List.set_cons_succ]
          refine wpAnyH_take (i := 11) (oi := ?oi112) (v := ?v112) ?hi112 (by kernel_rfl) ?hf112 ?hr112 ?hQ112 (Or.inl ⟨?hw112, ?hy112⟩) (by assumption) ?rest112
          case hi112 => simp only [List.getElem?_toArray, List.getElem?_cons_succ, List.getElem?_cons_zero]; rfl
          case hf112 => kernel_rfl
          case hr112 => kernel_rfl
          case hw112 => rfl
          case hy112 => (intro w hSw; (try dsimp only at hSw); go_simp; all_goals (first | done | with_reducible rfl))
          case hQ112 => exact fun _ _ _ h => h
          simp only [Act.put, List.setIfInBounds_toArray, List.set_cons_zero, List.set_cons_succ]
          refine wpAnyH_take (i := 12) (oi := ?oi113) (v := ?v113) ?hi113 (by kernel_rfl) ?hf113 ?hr113 ?hQ113 (Or.inl ⟨?hw113, ?hy113⟩) (by assumption) ?rest113
          case hi113 => simp only [List.getElem?_toArray, List.getElem?_cons_succ, List.getElem?_cons_zero]; rfl
          case hf113 => kernel_rfl
          case hr113 => kernel_rfl
          case hw113 => rfl
          case hy113 => (intro w hSw; (try dsimp only at hSw); go_simp; all_goals (first | done | with_reducible rfl))
          case hQ113 => exact fun _ _ _ h => h
          simp only [Act.put, List.setIfInBounds_toArray, List.set_cons_zero, List.set_cons_succ]
          refine wpAnyH_take (i := 13) (oi := ?oi114) (v := ?v114) ?hi114 (by kernel_rfl) ?hf114 ?hr114 ?hQ114 (Or.inl ⟨?hw114, ?hy114⟩) (by assumption) ?rest114
          case hi114 => simp only [List.getElem?_toArray, List.getElem?_cons_succ, List.getElem?_cons_zero]; rfl
          case hf114 => kernel_rfl
          case hr114 => kernel_rfl
          case hw114 => rfl
          case hy114 => (intro w hSw; (try dsimp only at hSw); go_simp; all_goals (first | done | with_reducible rfl))
          case hQ114 => exact fun _ _ _ h => h
          simp only [Act.put, List.setIfInBounds_toArray, List.set_cons_zero, List.set_cons_succ]
          refine wpAnyH_take (i := 14) (oi := ?oi115) (v := ?v115) ?hi115 (by kernel_rfl) ?hf115 ?hr115 ?hQ115 (Or.inl ⟨?hw115, ?hy115⟩) (by assumption) ?rest115
          case hi115 => simp only [List.getElem?_toArray, List.getElem?_cons_succ, List.getElem?_cons_zero]; rfl
          case hf115 => kernel_rfl
          case hr115 => kernel_rfl
          case hw115 => rfl
          case hy115 => (intro w hSw; (try dsimp only at hSw); go_simp; all_goals (first | done | with_reducible rfl))
          case hQ115 => exact fun _ _ _ h => h
          simp only [Act.put, List.setIfInBounds_toArray, List.set_cons_zero, List.set_cons_succ]
          refine wpAnyH_take (i := 15) (oi := ?oi116) (v := ?v116) ?hi116 (by kernel_rfl) ?hf116 ?hr116 ?hQ116 (Or.inl ⟨?hw116, ?hy116⟩) (by assumption) ?rest116
          case hi116 => simp only [List.getElem?_toArray, List.getElem?_cons_succ, List.getElem?_cons_zero]; rfl
          case hf116 => kernel_rfl
          case hr116 => kernel_rfl
          case hw116 => rfl
          case hy116 => (intro w hSw; (try dsimp only at hSw); go_simp; all_goals (first | done | with_reducible rfl))
          case hQ116 => exact fun _ _ _ h => h
          simp only [Act.put, List.setIfInBounds_toArray, List.set_cons_zero, List.set_cons_succ]
          refine wpAnyH_take (i := 16) (oi := ?oi117) (v := ?v117) ?hi117 (by kernel_rfl) ?hf117 ?hr117 ?hQ117 (Or.inl ⟨?hw117, ?hy117⟩) (by assumption) ?rest117
          case hi117 => simp only [List.getElem?_toArray, List.getElem?_cons_succ, List.getElem?_cons_zero]; rfl
          case hf117 => kernel_rfl
          case hr117 => kernel_rfl
          case hw117 => rfl
          case hy117 => (intro w hSw; (try dsimp only at hSw); go_simp; all_goals (first | done | with_reducible rfl))
          case hQ117 => exact fun _ _ _ h => h
          simp only [Act.put, List.setIfInBounds_toArray, List.set_cons_zero, List.set_cons_succ]
          refine wpAnyH_take (i := 17) (oi := ?oi118) (v := ?v118) ?hi118 (by kernel_rfl) ?hf118 ?hr118 ?hQ118 (Or.inl ⟨?hw118, ?hy118⟩) (by assumption) ?rest118
          case hi118 => simp only [List.getElem?_toArray, List.getElem?_cons_succ, List.getElem?_cons_zero]; rfl
          case hf118 => kernel_rfl
          case hr118 => kernel_rfl
          case hw118 => rfl
          case hy118 => (intro w hSw; (try dsimp only at hSw); go_simp; all_goals (first | done | with_reducible rfl))
          case hQ118 => exact fun _ _ _ h => h
          simp only [Act.put, List.setIfInBounds_toArray, List.set_cons_zero, List.set_cons_succ]
          refine wpAnyH_take (i := 18) (oi := ?oi119) (v := ?v119) ?hi119 (by kernel_rfl) ?hf119 ?hr119 ?hQ119 (Or.inl ⟨?hw119, ?hy119⟩) (by assumption) ?rest119
          case hi119 => simp only [List.getElem?_toArray, List.getElem?_cons_succ, List.getElem?_cons_zero]; rfl
          case hf119 => kernel_rfl
          case hr119 => kernel_rfl
          case hw119 => rfl
          case hy119 => (intro w hSw; (try dsimp only at hSw); go_simp; all_goals (first | done | with_reducible rfl))
          case hQ119 => exact fun _ _ _ h => h
          simp only [Act.put, List.setIfInBounds_toArray, List.set_cons_zero, List.set_cons_succ]
          refine wpAnyH_take (i := 19) (oi := ?oi120) (v := ?v120) ?hi120 (by kernel_rfl) ?hf120 ?hr120 ?hQ120 (Or.inl ⟨?hw120, ?hy120⟩) (by assumption) ?rest120
          case hi120 => simp only [List.getElem?_toArray, List.getElem?_cons_succ, List.getElem?_cons_zero]; rfl
          case hf120 => kernel_rfl
          case hr120 => kernel_rfl
          case hw120 => rfl
          case hy120 => (intro w hSw; (try dsimp only at hSw); go_simp; all_goals (first | done | with_reducible rfl))
          case hQ120 => exact fun _ _ _ h => h
          simp only [Act.put, List.setIfInBounds_toArray, List.set_cons_zero, List.set_cons_succ]
          refine wpAnyH_take (i := 20) (oi := ?oi121) (v := ?v121) ?hi121 (by kernel_rfl) ?hf121 ?hr121 ?hQ121 (Or.inl ⟨?hw121, ?hy121⟩) (by assumption) ?rest121
          case hi121 => simp only [List.getElem?_toArray, List.getElem?_cons_succ, List.getElem?_cons_zero]; rfl
          case hf121 => kernel_rfl
          case hr121 => kernel_rfl
          case hw121 => rfl
          case hy121 => (intro w hSw; (try dsimp only at hSw); go_simp; all_goals (first | done | with_reducible rfl))
          case hQ121 => exact fun _ _ _ h => h
          simp only [Act.put, List.setIfInBounds_toArray, List.set_cons_zero, List.set_cons_succ]
          refine wpAnyH_take (i := 21) (oi := ?oi122) (v := ?v122) ?hi122 (by kernel_rfl) ?hf122 ?hr122 ?hQ122 (Or.inl ⟨?hw122, ?hy122⟩) (by assumption) ?rest122
          case hi122 => simp only [List.getElem?_toArray, List.getElem?_cons_succ, List.getElem?_cons_zero]; rfl
          case hf122 => kernel_rfl
          case hr122 => kernel_rfl
          case hw122 => rfl
          case hy122 => (intro w hSw; (try dsimp only at hSw); go_simp; all_goals (first | done | with_reducible rfl))
          case hQ122 => exact fun _ _ _ h => h
          simp only [Act.put, List.setIfInBounds_toArray, List.set_cons_zero, List.set_cons_succ]
          refine wpAnyH_take (i := 22) (oi := ?oi123) (v := ?v123) ?hi123 (by kernel_rfl) ?hf123 ?hr123 ?hQ123 (Or.inl ⟨?hw123, ?hy123⟩) (by assumption) ?rest123
          case hi123 => simp only [List.getElem?_toArray, List.getElem?_cons_succ, List.getElem?_cons_zero]; rfl
          case hf123 => kernel_rfl
          case hr123 => kernel_rfl
          case hw123 => rfl
          case hy123 => (intro w hSw; (try dsimp only at hSw); go_simp; all_goals (first | done | with_reducible rfl))
          case hQ123 => exact fun _ _ _ h => h
          simp only [Act.put, List.setIfInBounds_toArray, List.set_cons_zero, List.set_cons_succ]
          refine wpAnyH_take (i := 23) (oi := ?oi124) (v := ?v124) ?hi124 (by kernel_rfl) ?hf124 ?hr124 ?hQ124 (Or.inl ⟨?hw124, ?hy124⟩) (by assumption) ?rest124
          case hi124 => simp only [List.getElem?_toArray, List.getElem?_cons_succ, List.getElem?_cons_zero]; rfl
          case hf124 => kernel_rfl
          case hr124 => kernel_rfl
          case hw124 => rfl
          case hy124 => (intro w hSw; (try dsimp only at hSw); go_simp; all_goals (first | done | with_reducible rfl))
          case hQ124 => exact fun _ _ _ h => h
          simp only [Act.put, List.setIfInBounds_toArray, List.set_cons_zero, List.set_cons_succ]
          refine wpAnyH_take (i := 24) (oi := ?oi125) (v := ?v125) ?hi125 (by kernel_rfl) ?hf125 ?hr125 ?hQ125 (Or.inl ⟨?hw125, ?hy125⟩) (by assumption) ?rest125
          case hi125 => simp only [List.getElem?_toArray, List.getElem?_cons_succ, List.getElem?_cons_zero]; rfl
          case hf125 => kernel_rfl
          case hr125 => kernel_rfl
          case hw125 => rfl
          case hy125 => (intro w hSw; (try dsimp only at hSw); go_simp; all_goals (first | done | with_reducible rfl))
          case hQ125 => exact fun _ _ _ h => h
          simp only [Act.put, List.setIfInBounds_toArray, List.set_cons_zero, List.set_cons_succ]
          refine wpAnyH_take (i := 25) (oi := ?oi126) (v := ?v126) ?hi126 (by kernel_rfl) ?hf126 ?hr126 ?hQ126 (Or.inl ⟨?hw126, ?hy126⟩) (by assumption) ?rest126
          case hi126 => simp only [List.getElem?_toArray, List.getElem?_cons_succ, List.getElem?_cons_zero]; rfl
          case hf126 => kernel_rfl
          case hr126 => kernel_rfl
          case hw126 => rfl
          case hy126 => (intro w hSw; (try dsimp only at hSw); go_simp; all_goals (first | done | with_reducible rfl))
          case hQ126 => exact fun _ _ _ h => h
          simp only [Act.put, List.setIfInBounds_toArray, List.set_cons_zero, List.set_cons_succ]
          refine wpAnyH_take (i := 26) (oi := ?oi127) (v := ?v127) ?hi127 (by kernel_rfl) ?hf127 ?hr127 ?hQ127 (Or.inl ⟨?hw127, ?hy127⟩) (by assumption) ?rest127
          case hi127 => simp only [List.getElem?_toArray, List.getElem?_cons_succ, List.getElem?_cons_zero]; rfl
          case hf127 => kernel_rfl
          case hr127 => kernel_rfl
          case hw127 => rfl
          case hy127 => (intro w hSw; (try dsimp only at hSw); go_simp; all_goals (first | done | with_reducible rfl))
          case hQ127 => exact fun _ _ _ h => h
          simp only [Act.put, List.setIfInBounds_toArray, List.set_cons_zero, List.set_cons_succ]
          refine wpAnyH_take (i := 27) (oi := ?oi128) (v := ?v128) ?hi128 (by kernel_rfl) ?hf128 ?hr128 ?hQ128 (Or.inl ⟨?hw128, ?hy128⟩) (by assumption) ?rest128
          case hi128 => simp only [List.getElem?_toArray, List.getElem?_cons_succ, List.getElem?_cons_zero]; rfl
          case hf128 => kernel_rfl
          case hr128 => kernel_rfl
          case hw128 => rfl
          case hy128 => (intro w hSw; (try dsimp only at hSw); go_simp; all_goals (first | done | with_reducible rfl))
          case hQ128 => exact fun _ _ _ h => h
          simp only [Act.put, List.setIfInBounds_toArray, List.set_cons_zero, List.set_cons_succ]
          refine wpAnyH_done (by kernel_rfl) ?_ _
          have HBq := hid ((Below.refl wr.heap.size wr).drew)
          generalize hw5 : wr.drew = wq at *
          clear hw5 e1 l0 l1 hS
          have HB5 := hid (HBr.out.trans (HBq.out.mono HBr.out.size))
          have hs5 := HB5.out.size
          have c0' : wq.cell? ⟨b, o + k, none⟩ = some (.slice (some ⟨bb, oo, none⟩) nb c') := (HBq.out.cell (p := ⟨b, o + k, none⟩) hbB).trans c0
          have HO5 := hid (show wq.ownsRow w5.heap.size 46 4 (.slice A m c) ((Y.take k).flatten).length (((Y.take k).flatten).flatMap rcells) by have h9 := own_below HO.out.2 HBq.out; rw [← HO.out.1]; exact h9)
          have HS5 := hid (show Sl wq wr.heap.size 4 bt.length (.slice (some ⟨bb, oo, none⟩) nb c') (bt.flatMap rcells) by have h9 := (HI.out.1.1.below HBq.out (Nat.le_refl _)); exact h9)
          have hle5 : ((Y.take k).flatten).length + bt.length ≤ 4194304 := by have := hbt.out; omega
          clear c0
          generalize hXX : (Y.take k).flatten = X at *
          replace hXX := hid hXX
          go_wp2_with (at_builtin; refine appRecordS _ rfl _ _ rfl w5.heap.size _ X bt (by rfl) HO5.out wr.heap.size _ (by rfl) HS5.out hle5 hs5 ?_)
          intro v6 wv ho6 hb6
          replace ho6 := (show wv.ownsRow w5.heap.size 46 4 v6 (X ++ bt).length ((X ++ bt).flatMap rcells) by simpa using ho6)
          rw [← HT.out] at ho6
          obtain ⟨A6, c6, rfl, -, -⟩ := (Sl.of_own ho6).form
          have HO6 := hid ho6
          have HB6 := hid (HB5.out.trans hb6)
          clear ho6 hb6 HO5 HS5 c0'
          go_wp2_with fail
          go_roundw
          case rel => exact ⟨k + 1, _, A6, c6, by go_num, rfl, by omega, ⟨rfl, HO6.out⟩, HB6.out⟩
          case measure => simp [intOf]; omega
        · have q2c : decide ((nb : Int) < d.rm) = false := decide_eq_false q2
          refine wp_region_held_drew (S := fun w' : World => w'.cell? ⟨b, o + k, none⟩ = some (.slice (some ⟨bb, oo, none⟩) nb c') ∧ w'.cell? ⟨bb, oo + (nb - 1) * 4 + 1, none⟩ = some (.int .i64 lv) ∧ w'.cell? ⟨w1.heap.size, 0, none⟩ = some (.int .i64 d.rm) ∧ w'.cell? ⟨w1.heap.size, 1, none⟩ = some (.int .i64 d.lv)) (by kernel_rfl) ⟨c0, e1, l0, l1⟩ (fun hS => ?_)
          refine wpAnyH_take (i := 0) (oi := ?oi129) (v := ?v129) ?hi129 (by kernel_rfl) ?hf129 ?hr129 ?hQ129 (Or.inl ⟨?hw129, ?hy129⟩) (by assumption) ?rest129
          case hi129 => simp only [List.getElem?_toArray, List.getElem?_cons_succ, List.getElem?_cons_zero]; rfl
          case hf129 => kernel_rfl
          case hr129 => kernel_rfl
          case hw129 => rfl
          case hy129 => (intro w hSw; (try dsimp only at hSw); go_simp; all_goals (first | done | with_reducible rfl))
          case hQ129 => exact fun _ _ _ h => h
          simp only [Act.put, List.setIfInBounds_toArray, List.set_cons_zero, List.set_cons_succ]
          refine wpAnyH_take (i := 1) (oi := ?oi130) (v := ?v130) ?hi130 (by kernel_rfl) ?hf130 ?hr130 ?hQ130 (Or.inl ⟨?hw130, ?hy130⟩) (by assumption) ?rest130
          case hi130 => simp only [List.getElem?_toArray, List.getElem?_cons_succ, List.getElem?_cons_zero]; rfl
          case hf130 => kernel_rfl
          case hr130 => kernel_rfl
          case hw130 => rfl
          case hy130 => (intro w hSw; (try dsimp only at hSw); go_simp; all_goals (first | done | with_reducible rfl))
          case hQ130 => exact fun _ _ _ h => h
          simp only [Act.put, List.setIfInBounds_toArray, List.set_cons_zero, List.set_cons_succ]
          refine wpAnyH_take (i := 2) (oi := ?oi131) (v := ?v131) ?hi131 (by kernel_rfl) ?hf131 ?hr131 ?hQ131 (Or.inl ⟨?hw131, ?hy131⟩) (by assumption) ?rest131
          case hi131 => simp only [List.getElem?_toArray, List.getElem?_cons_succ, List.getElem?_cons_zero]; rfl
          case hf131 => kernel_rfl
          case hr131 => kernel_rfl
          case hw131 => rfl
          case hy131 => (intro w hSw; (try dsimp only at hSw); go_simp; all_goals (first | done | with_reducible rfl))
          case hQ131 => exact fun _ _ _ h => h
          simp only [Act.put, List.setIfInBounds_toArray, List.set_cons_zero, List.set_cons_succ]
          refine wpAnyH_take (i := 3) (oi := ?oi132) (v := ?v132) ?hi132 (by kernel_rfl) ?hf132 ?hr132 ?hQ132 (Or.inl ⟨?hw132, ?hy132⟩) (by assumption) ?rest132
          case hi132 => simp only [List.getElem?_toArray, List.getElem?_cons_succ, List.getElem?_cons_zero]; rfl
          case hf132 => kernel_rfl
          case hr132 => kernel_rfl
          case hw132 => rfl
          case hy132 => (intro w hSw; (try dsimp only at hSw); go_simp; all_goals (first | done | with_reducible rfl))
          case hQ132 => exact fun _ _ _ h => h
          simp only [Act.put, List.setIfInBounds_toArray, List.set_cons_zero, List.set_cons_succ]
          refine wpAnyH_take (i := 4) (oi := ?oi133) (v := ?v133) ?hi133 (by kernel_rfl) ?hf133 ?hr133 ?hQ133 (Or.inl ⟨?hw133, ?hy133⟩) (by assumption) ?rest133
          case hi133 => simp only [List.getElem?_toArray, List.getElem?_cons_succ, List.getElem?_cons_zero]; rfl
          case hf133 => kernel_rfl
          case hr133 => kernel_rfl
          case hw133 => rfl
          case hy133 => (intro w hSw; (try dsimp only at hSw); go_simp; all_goals (first | done | with_reducible rfl))
          case hQ133 => exact fun _ _ _ h => h
          simp only [Act.put, List.setIfInBounds_toArray, List.set_cons_zero, List.set_cons_succ]
          refine wpAnyH_take (i := 5) (oi := ?oi134) (v := ?v134) ?hi134 (by kernel_rfl) ?hf134 ?hr134 ?hQ134 (Or.inl ⟨?hw134, ?hy134⟩) (by assumption) ?rest134
          case hi134 => simp only [List.getElem?_toArray, List.getElem?_cons_succ, List.getElem?_cons_zero]; rfl
          case hf134 => kernel_rfl
          case hr134 => kernel_rfl
          case hw134 => rfl
          case hy134 => (intro w hSw; (try dsimp only at hSw); go_simp; all_goals (first | done | with_reducible rfl))
          case hQ134 => exact fun _ _ _ h => h
          simp only [Act.put, List.setIfInBounds_toArray, List.set_cons_zero, List.set_cons_succ]
          refine wpAnyH_take (i := 6) (oi := ?oi135) (v := ?v135) ?hi135 (by kernel_rfl) ?hf135 ?hr135 ?hQ135 (Or.inl ⟨?hw135, ?hy135⟩) (by assumption) ?rest135
          case hi135 => simp only [List.getElem?_toArray, List.getElem?_cons_succ, List.getElem?_cons_zero]; rfl
          case hf135 => kernel_rfl
          case hr135 => kernel_rfl
          case hw135 => rfl
          case hy135 => (intro w hSw; (try dsimp only at hSw); go_simp; all_goals (first | done | with_reducible rfl))
          case hQ135 => exact fun _ _ _ h => h
          simp only [Act.put, List.setIfInBounds_toArray, List.set_cons_zero, List.set_cons_succ]
          refine wpAnyH_take (i := 7) (oi := ?oi136) (v := ?v136) ?hi136 (by kernel_rfl) ?hf136 ?hr136 ?hQ136 (Or.inl ⟨?hw136, ?hy136⟩) (by assumption) ?rest136
          case hi136 => simp only [List.getElem?_toArray, List.getElem?_cons_succ, List.getElem?_cons_zero]; rfl
          case hf136 => kernel_rfl
          case hr136 => kernel_rfl
          case hw136 => rfl
          case hy136 => (intro w hSw; (try dsimp only at hSw); go_simp; all_goals (first | done | with_reducible rfl))
          case hQ136 => exact fun _ _ _ h => h
          simp only [Act.put, List.setIfInBounds_toArray, List.set_cons_zero, List.set_cons_succ]
          refine wpAnyH_take (i := 8) (oi := ?oi137) (v := ?v137) ?hi137 (by kernel_rfl) ?hf137 ?hr137 ?hQ137 (Or.inl ⟨?hw137, ?hy137⟩) (by assumption) ?rest137
          case hi137 => simp only [List.getElem?_toArray, List.getElem?_cons_succ, List.getElem?_cons_zero]; rfl
          case hf137 => kernel_rfl
          case hr137 => kernel_rfl
          case hw137 => rfl
          case hy137 => (intro w hSw; (try dsimp only at hSw); go_simp; all_goals (first | done | with_reducible rfl))
          case hQ137 => exact fun _ _ _ h => h
          simp only [Act.put, List.setIfInBounds_toArray, List.set_cons_zero, List.set_cons_succ]
          refine wpAnyH_take (i := 9) (oi := ?oi138) (v := ?v138) ?hi138 (by kernel_rfl) ?hf138 ?hr138 ?hQ138 (Or.inl ⟨?hw138, ?hy138⟩) (by assumption) ?rest138
          case hi138 => simp only [List.getElem?_toArray, List.getElem?_cons_succ, List.getElem?_cons_zero]; rfl
          case hf138 => kernel_rfl
          case hr138 => kernel_rfl
          case hw138 => rfl
          case hy138 => (intro w hSw; (try dsimp only at hSw); go_simp; all_goals (first | done | with_reducible rfl))
          case hQ138 => exact fun _ _ _ h => h
          simp only [Act.put, List.setIfInBounds_toArray, List.set_cons_zero, List.set_cons_succ]
          refine wpAnyH_take (i := 10) (oi := ?oi139) (v := ?v139) ?hi139 (by kernel_rfl) ?hf139 ?hr139 ?hQ139 (Or.inl ⟨?hw139, ?hy139⟩) (by assumption) ?rest139
          case hi139 => simp only [List.getElem?_toArray, List.getElem?_cons_succ, List.getElem?_cons_zero]; rfl
          case hf139 => kernel_rfl
          case hr139 => kernel_rfl
          case hw139 => rfl
          case hy139 => (intro w hSw; (try dsimp only at hSw); go_simp; all_goals (first | done | with_reducible rfl))
          case hQ139 => exact fun _ _ _ h => h
          simp only [Act.put, List.setIfInBounds_toArray, List.set_cons_zero, List.set_cons_succ]
          refine wpAnyH_take (i := 11) (oi := ?oi140) (v := ?v140) ?hi140 (by kernel_rfl) ?hf140 ?hr140 ?hQ140 (Or.inl ⟨?hw140, ?hy140⟩) (by assumption) ?rest140
          case hi140 => simp only [List.getElem?_toArray, List.getElem?_cons_succ, List.getElem?_cons_zero]; rfl
          case hf140 => kernel_rfl
          case hr140 => kernel_rfl
          case hw140 => rfl
          case hy140 => (intro w hSw; (try dsimp only at hSw); go_simp; all_goals (first | done | with_reducible rfl))
          case hQ140 => exact fun _ _ _ h => h
          simp only [Act.put, List.setIfInBounds_toArray, List.set_cons_zero, List.set_cons_succ]
          refine wpAnyH_take (i := 12) (oi := ?oi141) (v := ?v141) ?hi141 (by kernel_rfl) ?hf141 ?hr141 ?hQ141 (Or.inl ⟨?hw141, ?hy141⟩) (by assumption) ?rest141
          case hi141 => simp only [List.getElem?_toArray, List.getElem?_cons_succ, List.getElem?_cons_zero]; rfl
          case hf141 => kernel_rfl
          case hr141 => kernel_rfl
          case hw141 => rfl
          case hy141 => (intro w hSw; (try dsimp only at hSw); go_simp; all_goals (first | done | with_reducible rfl))
          case hQ141 => exact fun _ _ _ h => h
          simp only [Act.put, List.setIfInBounds_toArray, List.set_cons_zero, List.set_cons_succ]
          refine wpAnyH_take (i := 13) (oi := ?oi142) (v := ?v142) ?hi142 (by kernel_rfl) ?hf142 ?hr142 ?hQ142 (Or.inl ⟨?hw142, ?hy142⟩) (by assumption) ?rest142
          case hi142 => simp only [List.getElem?_toArray, List.getElem?_cons_succ, List.getElem?_cons_zero]; rfl
          case hf142 => kernel_rfl
          case hr142 => kernel_rfl
          case hw142 => rfl
          case hy142 => (intro w hSw; (try dsimp only at hSw); go_simp; all_goals (first | done | with_reducible rfl))
          case hQ142 => exact fun _ _ _ h => h
          simp only [Act.put, List.setIfInBounds_toArray, List.set_cons_zero, List.set_cons_succ]
          refine wpAnyH_take (i := 14) (oi := ?oi143) (v := undef) ?hi143 (by kernel_rfl) ?hf143 ?hr143 ?hQ143 (Or.inr ⟨?hw143, rfl⟩) (by assumption) ?rest143
          case hi143 => simp only [List.getElem?_toArray, List.getElem?_cons_succ, List.getElem?_cons_zero]; rfl
          case hf143 => kernel_rfl
          case hr143 => kernel_rfl
          case hw143 => rfl
          case hQ143 => exact fun _ _ _ h => h
          simp only [Act.put, List.setIfInBounds_toArray, List.set_cons_zero, List.set_cons_succ]
          refine wpAnyH_take (i := 15) (oi := ?oi144) (v := undef) ?hi144 (by kernel_rfl) ?hf144 ?hr144 ?hQ144 (Or.inr ⟨?hw144, rfl⟩) (by assumption) ?rest144
          case hi144 => simp only [List.getElem?_toArray, List.getElem?_cons_succ, List.getElem?_cons_zero]; rfl
          case hf144 => kernel_rfl
          case hr144 => kernel_rfl
          case hw144 => rfl
          case hQ144 => exact fun _ _ _ h => h
          simp only [Act.put, List.setIfInBounds_toArray, List.set_cons_zero, List.set_cons_succ]
          refine wpAnyH_take (i := 16) (oi := ?oi145) (v := undef) ?hi145 (by kernel_rfl) ?hf145 ?hr145 ?hQ145 (Or.inr ⟨?hw145, rfl⟩) (by assumption) ?rest145
          case hi145 => simp only [List.getElem?_toArray, List.getElem?_cons_succ, List.getElem?_cons_zero]; rfl
          case hf145 => kernel_rfl
          case hr145 => kernel_rfl
          case hw145 => rfl
          case hQ145 => exact fun _ _ _ h => h
          simp only [Act.put, List.setIfInBounds_toArray, List.set_cons_zero, List.set_cons_succ]
          refine wpAnyH_take (i := 17) (oi := ?oi146) (v := undef) ?hi146 (by kernel_rfl) ?hf146 ?hr146 ?hQ146 (Or.inr ⟨?hw146, rfl⟩) (by assumption) ?rest146
          case hi146 => simp only [List.getElem?_toArray, List.getElem?_cons_succ, List.getElem?_cons_zero]; rfl
          case hf146 => kernel_rfl
          case hr146 => kernel_rfl
          case hw146 => rfl
          case hQ146 => exact fun _ _ _ h => h
          simp only [Act.put, List.setIfInBounds_toArray, List.set_cons_zero, List.set_cons_succ]
          refine wpAnyH_take (i := 18) (oi := ?oi147) (v := undef) ?hi147 (by kernel_rfl) ?hf147 ?hr147 ?hQ147 (Or.inr ⟨?hw147, rfl⟩) (by assumption) ?rest147
          case hi147 => simp only [List.getElem?_toArray, List.getElem?_cons_succ, List.getElem?_cons_zero]; rfl
          case hf147 => kernel_rfl
          case hr147 => kernel_rfl
          case hw147 => rfl
          case hQ147 => exact fun _ _ _ h => h
          simp only [Act.put, List.setIfInBounds_toArray, List.set_cons_zero, List.set_cons_succ]
          refine wpAnyH_take (i := 19) (oi := ?oi148) (v := undef) ?hi148 (by kernel_rfl) ?hf148 ?hr148 ?hQ148 (Or.inr ⟨?hw148, rfl⟩) (by assumption) ?rest148
          case hi148 => simp only [List.getElem?_toArray, List.getElem?_cons_succ, List.getElem?_cons_zero]; rfl
          case hf148 => kernel_rfl
          case hr148 => kernel_rfl
          case hw148 => rfl
          case hQ148 => exact fun _ _ _ h => h
          simp only [Act.put, List.setIfInBounds_toArray, List.set_cons_zero, List.set_cons_succ]
          refine wpAnyH_take (i := 20) (oi := ?oi149) (v := undef) ?hi149 (by kernel_rfl) ?hf149 ?hr149 ?hQ149 (Or.inr ⟨?hw149, rfl⟩) (by assumption) ?rest149
          case hi149 => simp only [List.getElem?_toArray, List.getElem?_cons_succ, List.getElem?_cons_zero]; rfl
          case hf149 => kernel_rfl
          case hr149 => kernel_rfl
          case hw149 => rfl
          case hQ149 => exact fun _ _ _ h => h
          simp only [Act.put, List.setIfInBounds_toArray, List.set_cons_zero, List.set_cons_succ]
          refine wpAnyH_take (i := 21) (oi := ?oi150) (v := undef) ?hi150 (by kernel_rfl) ?hf150 ?hr150 ?hQ150 (Or.inr ⟨?hw150, rfl⟩) (by assumption) ?rest150
          case hi150 => simp only [List.getElem?_toArray, List.getElem?_cons_succ, List.getElem?_cons_zero]; rfl
          case hf150 => kernel_rfl
          case hr150 => kernel_rfl
          case hw150 => rfl
          case hQ150 => exact fun _ _ _ h => h
          simp only [Act.put, List.setIfInBounds_toArray, List.set_cons_zero, List.set_cons_succ]
          refine wpAnyH_take (i := 22) (oi := ?oi151) (v := undef) ?hi151 (by kernel_rfl) ?hf151 ?hr151 ?hQ151 (Or.inr ⟨?hw151, rfl⟩) (by assumption) ?rest151
          case hi151 => simp only [List.getElem?_toArray, List.getElem?_cons_succ, List.getElem?_cons_zero]; rfl
          case hf151 => kernel_rfl
          case hr151 => kernel_rfl
          case hw151 => rfl
          case hQ151 => exact fun _ _ _ h => h
          simp only [Act.put, List.setIfInBounds_toArray, List.set_cons_zero, List.set_cons_succ]
          refine wpAnyH_take (i := 23) (oi := ?oi152) (v := undef) ?hi152 (by kernel_rfl) ?hf152 ?hr152 ?hQ152 (Or.inr ⟨?hw152, rfl⟩) (by assumption) ?rest152
          case hi152 => simp only [List.getElem?_toArray, List.getElem?_cons_succ, List.getElem?_cons_zero]; rfl
          case hf152 => kernel_rfl
          case hr152 => kernel_rfl
          case hw152 => rfl
          case hQ152 => exact fun _ _ _ h => h
          simp only [Act.put, List.setIfInBounds_toArray, List.set_cons_zero, List.set_cons_succ]
          refine wpAnyH_take (i := 24) (oi := ?oi153) (v := undef) ?hi153 (by kernel_rfl) ?hf153 ?hr153 ?hQ153 (Or.inr ⟨?hw153, rfl⟩) (by assumption) ?rest153
          case hi153 => simp only [List.getElem?_toArray, List.getElem?_cons_succ, List.getElem?_cons_zero]; rfl
          case hf153 => kernel_rfl
          case hr153 => kernel_rfl
          case hw153 => rfl
          case hQ153 => exact fun _ _ _ h => h
          simp only [Act.put, List.setIfInBounds_toArray, List.set_cons_zero, List.set_cons_succ]
          refine wpAnyH_take (i := 25) (oi := ?oi154) (v := undef) ?hi154 (by kernel_rfl) ?hf154 ?hr154 ?hQ154 (Or.inr ⟨?hw154, rfl⟩) (by assumption) ?rest154
          case hi154 => simp only [List.getElem?_toArray, List.getElem?_cons_succ, List.getElem?_cons_zero]; rfl
          case hf154 => kernel_rfl
          case hr154 => kernel_rfl
          case hw154 => rfl
          case hQ154 => exact fun _ _ _ h => h
          simp only [Act.put, List.setIfInBounds_toArray, List.set_cons_zero, List.set_cons_succ]
          refine wpAnyH_take (i := 26) (oi := ?oi155) (v := ?v155) ?hi155 (by kernel_rfl) ?hf155 ?hr155 ?hQ155 (Or.inl ⟨?hw155, ?hy155⟩) (by assumption) ?rest155
          case hi155 => simp only [List.getElem?_toArray, List.getElem?_cons_succ, List.getElem?_cons_zero]; rfl
          case hf155 => kernel_rfl
          case hr155 => kernel_rfl
          case hw155 => rfl
          case hy155 => (intro w hSw; (try dsimp only at hSw); go_simp; all_goals (first | done | with_reducible rfl))
          case hQ155 => exact fun _ _ _ h => h
          simp only [Act.put, List.setIfInBounds_toArray, List.set_cons_zero, List.set_cons_succ]
          refine wpAnyH_take (i := 27) (oi := ?oi156) (v := ?v156) ?hi156 (by kernel_rfl) ?hf156 ?hr156 ?hQ156 (Or.inl ⟨?hw156, ?hy156⟩) (by assumption) ?rest156
          case hi156 => simp only [List.getElem?_toArray, List.getElem?_cons_succ, List.getElem?_cons_zero]; rfl
          case hf156 => kernel_rfl
          case hr156 => kernel_rfl
          case hw156 => rfl
          case hy156 => (intro w hSw; (try dsimp only at hSw); go_simp; all_goals (first | done | with_reducible rfl))
          case hQ156 => exact fun _ _ _ h => h
          simp only [Act.put, List.setIfInBounds_toArray, List.set_cons_zero, List.set_cons_succ]
          refine wpAnyH_done (by kernel_rfl) ?_ _
          have HBq := hid ((Below.refl wr.heap.size wr).drew)
          generalize hw5 : wr.drew = wq at *
          clear hw5 e1 l0 l1 hS
          have HB5 := hid (HBr.out.trans (HBq.out.mono HBr.out.size))
          have hs5 := HB5.out.size
          have c0' : wq.cell? ⟨b, o + k, none⟩ = some (.slice (some ⟨bb, oo, none⟩) nb c') := (HBq.out.cell (p := ⟨b, o + k, none⟩) hbB).trans c0
          have HO5 := hid (show wq.ownsRow w5.heap.size 46 4 (.slice A m c) ((Y.take k).flatten).length (((Y.take k).flatten).flatMap rcells) by have h9 := own_below HO.out.2 HBq.out; rw [← HO.out.1]; exact h9)
          have HS5 := hid (show Sl wq wr.heap.size 4 bt.length (.slice (some ⟨bb, oo, none⟩) nb c') (bt.flatMap rcells) by have h9 := (HI.out.1.1.below HBq.out (Nat.le_refl _)); exact h9)
          have hle5 : ((Y.take k).flatten).length + bt.length ≤ 4194304 := by have := hbt.out; omega
          clear c0
          generalize hXX : (Y.take k).flatten = X at *
          replace hXX := hid hXX
          go_wp2_with (at_builtin; refine appRecordS _ rfl _ _ rfl w5.heap.size _ X bt (by rfl) HO5.out wr.heap.size _ (by rfl) HS5.out hle5 hs5 ?_)
          intro v6 wv ho6 hb6
          replace ho6 := (show wv.ownsRow w5.heap.size 46 4 v6 (X ++ bt).length ((X ++ bt).flatMap rcells) by simpa using ho6)
          rw [← HT.out] at ho6
          obtain ⟨A6, c6, rfl, -, -⟩ := (Sl.of_own ho6).form
          have HO6 := hid ho6
          have HB6 := hid (HB5.out.trans hb6)
          clear ho6 hb6 HO5 HS5 c0'
          go_wp2_with fail
          go_roundw
          case rel => exact ⟨k + 1, _, A6, c6, by go_num, rfl, by omega, ⟨rfl, HO6.out⟩, HB6.out⟩
          case measure => simp [intOf]; omega
      · obtain rfl : k = Y.length := by omega
        have ht : Y.take Y.length = Y := List.take_length
        rw [ht] at HO
        obtain ⟨e0, e1, e2⟩ := HEC.out _ HBr.out
        have HE2 := hid (by have h9 := HSE.out _ HBr.out; exact h9)
        have hm := HO.out.1
        have hle : Y.flatten.length + E.rc.length ≤ 55 := by have := HC.out.2.2.2.2; omega
        have hce := HC.out.2.2.1
        have HO1 := hid (show wr.ownsRow w5.heap.size 46 4 (.slice A m c) Y.flatten.length (Y.flatten.flatMap rcells) by have h9 := HO.out.2; rw [hm] at h9; rw [hm]; exact h9)
        replace hm := hid hm
        replace hce := hid hce
        clear ht e0 e1
        generalize hXX : Y.flatten = X at *
        replace hXX := hid hXX
        go_wp2_with (at_builtin; refine appRecordS _ rfl _ _ rfl w5.heap.size _ X E.rc (by rfl) HO1.out wr.heap.size _ (by rfl) HE2.out (by omega) HBr.out.size ?_)
        intro v9 w9 ho9 hb9
        replace ho9 := (show w9.ownsRow w5.heap.size 46 4 v9 (X ++ E.rc).length ((X ++ E.rc).flatMap rcells) by simpa using ho9)
        rw [K2.out] at ho9
        obtain ⟨A9, c9, rfl, -, -⟩ := (Sl.of_own ho9).form
        have HO9 := hid (Rows.one (r := ⟨46, 4, Z.length, .slice A9 Z.length c9, Z.flatMap rcells⟩) ho9)
        have HB9 := hid (HBr.out.trans hb9)
        clear ho9 hb9 HO HO1 HE2 e2
        have HL2 := hid (World.ownsRow_lit w9 #[] 0 (Nat.le_refl _) (by unfold maxLen; omega) (by simp) : (w9.alloc (.cells #[] 46)).ownsRow w9.heap.size 46 4 (.slice (some ⟨w9.heap.size, 0, none⟩) 0 0) 0 [])
        have HBa := hid ((Below.refl w9.heap.size w9).alloc (Nat.le_refl _) (.cells #[] 46))
        have HBb := hid (HB9.out.alloc HB9.out.size (.cells #[] 46))
        have HS1 := hid (HSL.out _ HBb.out)
        obtain ⟨_, _, l2⟩ := HLC.out _ HBb.out
        have hsz : w9.heap.size ≤ (w9.alloc (.cells #[] 46)).heap.size := by simp
        have hd30 : ([] : List Rec).length + d.rc.length ≤ 4194304 := by simp; omega
        go_wp2_with (at_builtin; refine appRecordS _ rfl _ _ rfl w9.heap.size _ [] d.rc (by rfl) HL2.out _ _ (by rfl) HS1.out hd30 hsz ?_)
        intro v10 w10 ho10 hb10
        replace ho10 := (show w10.ownsRow w9.heap.size 46 4 v10 d.rc.length (d.rc.flatMap rcells) by simpa using ho10)
        obtain ⟨A10, c10, rfl, -, -⟩ := (Sl.of_own ho10).form
        have HO10 := hid ho10
        have HB10 := hid (HBa.out.trans hb10)
        have HBw := hid (HB9.out.trans (HB10.out.mono HB9.out.size))
        have HS2 := hid (HSM.out _ HBw.out)
        have hdl : d.rc.length + l.length ≤ 4194304 := by omega
        have hs10 := HB10.out.size
        clear ho10 hb10 HL2 HBa HBb HS1 l2
        go_wp2_with (at_builtin; refine appRecordS _ rfl _ _ rfl w9.heap.size _ d.rc l (by rfl) HO10.out _ _ (by rfl) HS2.out hdl hs10 ?_)
        intro v11 w11 ho11 hb11
        replace ho11 := (show w11.ownsRow w9.heap.size 46 4 v11 Z.length (Z.flatMap rcells) by rw [← hZZ.out]; simpa using ho11)
        obtain ⟨A11, c11, rfl, -, -⟩ := (Sl.of_own ho11).form
        have HO11 := hid (Rows.one (r := ⟨46, 4, Z.length, .slice A11 Z.length c11, Z.flatMap rcells⟩) ho11)
        have HB11 := hid (HB10.out.trans hb11)
        have HBx := hid (HB9.out.trans (HB11.out.mono HB9.out.size))
        have HO9' := hid (HO9.out.below HB11.out)
        clear ho11 hb11 HO10 HB10 HBw HS2
        go_wp2_with fail
        refine (equalRecsX_c rfl HO9'.out rfl HO11.out).mono ?_
        rintro e w12 ⟨rfl, hb12⟩
        have HB12 := hid (HBx.out.trans (hb12.mono HBx.out.size))
        clear hb12
        obtain ⟨e0, e1, e2⟩ := HEC.out _ HB12.out
        go_wp2_with fail
        refine (HV.out _ HB12.out).mono ?_
        rintro e w13 ⟨rfl, hb13⟩
        have HB13 := hid (HB12.out.trans (hb13.mono HB12.out.size))
        clear hb13 e0 e1 e2
        go_wp2_with fail
        go_ret
        exact ⟨rfl, HB.out.trans (HB13.out.mono HB.out.size)⟩
end Go.Proofs.Ytfjpfdmlcgkfeaa
