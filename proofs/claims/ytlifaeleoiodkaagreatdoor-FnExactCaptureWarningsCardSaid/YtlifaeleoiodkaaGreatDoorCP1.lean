/-
  WARNINGS CAPTURED: CaptureWarnings of the program.
-/
import Derived.Test.YtlifaeleoiodkaaGreatDoorCP0
namespace Go.Proofs.YtlifaeleoiodkaaGreatDoor
open Go.RowKit Go.Proofs.YtlifaeleoiodkaaGreatDoor.Nm
set_option linter.unusedSimpArgs false
set_option linter.unusedVariables false

theorem TreeIn.moreB {w : World} {B B' : Nat} {v : Value} {L : List Lgr} {H : List Hnd} {q : Int} (h : TreeIn w B v L H q) (hB : B ≤ B') : TreeIn w B' v L H q := by
  obtain ⟨ls, hs, h1, h2, h3⟩ := h; exact ⟨ls, hs, h1.more hB, h2, h3⟩
set_option maxHeartbeats 8000000 in
set_option maxRecDepth 100000 in
theorem implCapture_c {w : World} {v v2 v3 : Value} {L : List Lgr} {H : List Hnd} {q : Int} {rs : List Rul} {l : List Wrn} (h : TreeIn w w.heap.size v L H q) (h2 : RulesIn w w.heap.size v2 rs) (h3 : WrnsIn w w.heap.size v3 l) :
    Calls Tryz.prog 12 #[v, v2, v3] w (SentsPost w (capX L H q rs l)) := by
  have C := hid (fun (W : World) (hW : Below w.heap.size w W) => implShow_c (h2.below hW (Nat.le_refl _)) (h3.below hW (Nat.le_refl _)) hW.size)
  have CR := hid (fun (W : World) (hW : Below w.heap.size w W) (u : Value) (x : List Rec) (hu : RecsIn W W.heap.size u x) => implRunX_c ((h.below hW (Nat.le_refl _)).moreB hW.size) hu)
  have HW := hid h3
  have HFIT := hid (show WrnsFit l from ⟨h3.2, h3.1.2⟩)
  obtain ⟨A1, n1, k1, A2, n2, k2, rfl⟩ := h.form
  obtain ⟨Ar, cr, rfl, hrc, hrm⟩ := h2.1.1.form
  obtain ⟨Al, cl, rfl, hlc, hlm⟩ := h3.1.1.form
  unfold maxLen at hrm hlm
  have HXB := hid (shX_bnd rs l)
  have hxl := shX_len rs l
  obtain ⟨Y, hY⟩ : ∃ Y, capX L H q rs l = Y := ⟨_, rfl⟩
  have HY := hid (show runX L H q (capR (shX rs l).1 l) = Y from hY)
  rw [hY]
  generalize hX : shX rs l = X at *
  obtain ⟨xs, xb⟩ := X
  replace HXB := hid (show ∀ x ∈ xs, 0 ≤ x ∧ x < (l.length : Int) from HXB.out)
  replace hxl : xs.length ≤ 12 := hxl
  replace HY := hid (show runX L H q (capR xs l) = Y from HY.out)
  have HB0 := hid (show Below w.heap.size w (w.alloc (.cells #[.slice A1 n1 k1, .slice A2 n2 k2, .int .i64 q] 36)) by go_grown)
  have HT0 := hid (Blk.new w #[.slice A1 n1 k1, .slice A2 n2 k2, .int .i64 q] 36)
  generalize hnl : l.length = nl at *
  replace hnl := hid hnl
  generalize rs.length = nr at *
  clear h h2 h3 hX hY
  go_enter Tryz.func12, Tryz.ntmps12
  go_wp2_with fail
  refine (C.out _ HB0.out).mono ?_
  rintro e w1 ⟨u0, rs0, rfl, hi0, hr0, hb⟩
  have HB1 := hid (HB0.out.trans (hb.mono HB0.out.size))
  have HT1 := hid (HT0.out.to hb)
  subst hi0
  have HSI := hid (Sl.of_own (show w1.ownsRow _ _ 1 u0 xs.length (xs.map vint) from hr0.head))
  obtain ⟨A0, c0', rfl, h0c, h0m⟩ := HSI.out.form
  unfold maxLen at h0m
  clear hb hr0 C HB0 HT0
  generalize hn : xs.length = n at *
  replace hn := hid hn
  go_wp2_with fail
  go_loopw [9, 21] (fun ov iv wr => ∃ (k : Nat) (x : List Rec), iv = .int .i64 k ∧ k ≤ n ∧ Hid (x = capR (xs.take k) l) ∧ x.length ≤ k ∧ Hid (wr.ownsRow w1.heap.size 61 4 ov x.length (x.flatMap rcells)) ∧ Hid (Below w1.heap.size w1 wr)) (fun _ iv _ => n - (intOf iv).toNat)
  case atStart => exact ⟨0, [], rfl, Nat.zero_le _, rfl, Nat.le_refl _, World.ownsRow_nil _ _ _ _, Below.refl _ _⟩
  case round =>
    obtain ⟨k, x, rfl, hk, HX, hxk, HOW, HB⟩ := hrel
    obtain ⟨Ax, cx, rfl, hxc, hxm⟩ := (Sl.of_own HOW.out).form
    by_cases hlt : k < n
    · have HBw := hid (HB1.out.trans (HB.out.mono HB1.out.size))
      obtain ⟨b, o, i, rfl, hbB, hi, ci⟩ := Sl.int_at (HSI.out.below HB.out (Nat.le_refl _)) hlt
      have hbd := HXB.out i (List.mem_of_getElem? hi)
      obtain ⟨j, rfl⟩ : ∃ j : Nat, i = (j : Int) := ⟨i.toNat, by omega⟩
      have hj : j < nl := by omega
      obtain ⟨b2, o2, tx, md, ln, rfl, hbB2, hx, c0, c1, c2⟩ := wncells_at (show Sl wr w.heap.size 3 nl (.slice Al nl cl) (l.flatMap wncells) from by have h9 := (HW.out.below HBw.out (Nat.le_refl _)).1.1; rwa [hnl.out] at h9) hj
      have HXX := hid (capR_snoc hi (w := ⟨tx.data.toList, md.data.toList, ln⟩) (by simpa using hx))
      have s0 : (0 : Int) ≤ (j : Int) := by omega
      have s1 : (j : Int) < (nl : Int) := by omega
      have s2 : ((j : Int)).toNat = j := by simp
      have HBa := hid (HB.out.alloc HB.out.size (.cells #[.string tx, .string md, .int .i64 ln] 59))
      have HOa := hid (HOW.out.alloc (.cells #[.string tx, .string md, .int .i64 ln] 59))
      clear hi hx hbd HOW
      go_wp2_with (at_builtin; refine appRecord _ rfl (.tmp 29) (.tmp 37) rfl w1.heap.size _ x (by rfl) HOa.out md 30 tx ln _ _ _ (by rfl) (by simp) (by omega) HBa.out.size ?_)
      intro v9 w9 ho9 hb9
      have HO9 := hid ho9
      have HB9 := hid (HBa.out.trans hb9)
      clear ho9 hb9 HOa HBa
      go_wp2_with fail
      go_roundw
      case rel => exact ⟨k + 1, x ++ [⟨md.data.toList, 30, tx.data.toList, ln⟩], by go_num, by omega, (by show _ = _; rw [HXX.out, HX.out]; rfl), by rw [List.length_append]; simp; omega, (by simpa [Hid] using HO9.out), HB9.out⟩
      case measure => simp [intOf]; omega
    · have HBw := hid (HB1.out.trans (HB.out.mono HB1.out.size))
      have HE := hid (show x = capR xs l by rw [HX.out, List.take_of_length_le (by have := hn.out; omega)])
      have HTw := hid (HT1.out.to HB.out)
      have t0 := (HTw.out.2 0 _ rfl).1
      have t1 := (HTw.out.2 1 _ rfl).1
      have t2 := (HTw.out.2 2 _ rfl).1
      have hfit : RecsFit x := by rw [HE.out]; exact capR_fit (ids := xs) (by have := hn.out; omega) HFIT.out
      have CR9 := CR.out wr HBw.out (.slice Ax x.length cx) x (RecsR.at_ (show RecsR _ (.slice Ax x.length cx) x from rfl) (Rows.one HOW.out) hfit)
      rw [show runX L H q x = Y by rw [HE.out]; exact HY.out] at CR9
      replace CR9 := hid CR9
      clear CR
      go_wp2_with fail
      refine CR9.out.mono ?_
      rintro e w9 ⟨v9, rs9, rfl, hr9, hR9, hb⟩
      have HR9 := hid (hR9.base HBw.out.size)
      have HB9 := hid (HBw.out.trans (hb.mono HBw.out.size))
      clear hb hR9
      go_wp2_with fail
      go_ret
      exact ⟨_, _, rfl, hr9, HR9.out, HB9.out⟩
end Go.Proofs.YtlifaeleoiodkaaGreatDoor
