/-
  RECORDS SENT: the model's ExplainRecord, and both as the exact law takes them.
-/
import Derived.Test.YtioegkcekbkblaaGreatZxSN11
import Derived.Test.YtioegkcekbkblaaGreatZxKRsns
namespace Go.Proofs.YtioegkcekbkblaaGreat
open Go.RowKit Go.Proofs.YtioegkcekbkblaaGreat.Nm
set_option linter.unusedSimpArgs false
set_option linter.unusedVariables false

theorem whyX_notree {L : List Lgr} {H : List Hnd} {q : Int} {r : Rec} (h : treeOk L H q = false) : whyX L H q r = [] := by unfold whyX ocX; rw [h]; rfl
theorem whyX_norec {L : List Lgr} {H : List Hnd} {q : Int} {r : Rec} (h : recOk r = false) : whyX L H q r = [] := by unfold whyX ocX; rw [h, Bool.and_false]; rfl
set_option maxHeartbeats 4000000 in
set_option maxRecDepth 100000 in
theorem specExplainRecord_c {w : World} {B : Nat} {v : Value} {L : List Lgr} {H : List Hnd} {q : Int} (nm tx : ByteArray) (lv sq : Int) (h : TreeIn w B v L H q) (hB : B ≤ w.heap.size) (hnm : nm.size ≤ 1048576) (htx : tx.size ≤ 1048576) :
    Calls Tryz.prog 23 #[v, .agg #[.string nm, .int .i64 lv, .string tx, .int .i64 sq]] w (RowPost w 54 3 (whyX L H q ⟨nm.data.toList, lv, tx.data.toList, sq⟩).length ((whyX L H q ⟨nm.data.toList, lv, tx.data.toList, sq⟩).flatMap rscells)) := by
  have C := fun (W : World) (hW : Below w.heap.size w W) => specTreeX_c (h.below hW hB) (Nat.le_trans hB hW.size)
  have CR := fun (W : World) => specValidRecord_c nm tx lv sq W (by unfold maxTxt; exact hnm) (by unfold maxTxt; exact htx)
  have CS := hid (fun (h1 : treeOk L H q = true) (h2 : recOk ⟨nm.data.toList, lv, tx.data.toList, sq⟩ = true) (W : World) (hW : Below w.heap.size w W) => specExplain_c nm tx lv sq (h.below hW hB) (Nat.le_trans hB hW.size) h1 h2 hnm htx)
  have HN := hid (fun (h1 : treeOk L H q = false) => whyX_notree (r := ⟨nm.data.toList, lv, tx.data.toList, sq⟩) h1)
  have HM := hid (fun (h1 : recOk ⟨nm.data.toList, lv, tx.data.toList, sq⟩ = false) => whyX_norec (L := L) (H := H) (q := q) h1)
  generalize whyX L H q ⟨nm.data.toList, lv, tx.data.toList, sq⟩ = Y at HN HM CS ⊢
  obtain ⟨A1, n1, k1, A2, n2, k2, rfl⟩ := h.form
  have HB0 := hid (show Below w.heap.size w ((w.alloc (.cells #[.slice A1 n1 k1, .slice A2 n2 k2, .int .i64 q] 26)).alloc (.cells #[.string nm, .int .i64 lv, .string tx, .int .i64 sq] 28)) by go_grown)
  have HT0 := hid ((Blk.new w #[.slice A1 n1 k1, .slice A2 n2 k2, .int .i64 q] 26).alloc (.cells #[.string nm, .int .i64 lv, .string tx, .int .i64 sq] 28))
  have HK0 := hid (Blk.new (w.alloc (.cells #[.slice A1 n1 k1, .slice A2 n2 k2, .int .i64 q] 26)) #[.string nm, .int .i64 lv, .string tx, .int .i64 sq] 28)
  simp only [World.size_alloc] at HK0
  cases hz : treeOk L H q with
  | false =>
    rw [hz] at C
    replace C := hid C
    have HE := hid (HN.out hz)
    clear h hz CR CS HN HM
    go_enter Tryz.func23, Tryz.ntmps23
    go_wp2_with fail
    refine (C.out _ HB0.out).mono ?_
    rintro e w1 ⟨rfl, hb⟩
    have HB1 := hid (HB0.out.trans (hb.mono HB0.out.size))
    clear hb
    go_wp2_with fail
    go_ret
    exact ⟨_, rfl, by rw [HE.out]; exact World.ownsRow_nil _ _ _ _, HB1.out⟩
  | true =>
    rw [hz] at C
    replace C := hid C
    cases hr : recOk ⟨nm.data.toList, lv, tx.data.toList, sq⟩ with
    | false =>
      rw [hr] at CR
      replace CR := hid CR
      have HE := hid (HM.out hr)
      clear h hz hr CS HN HM
      go_enter Tryz.func23, Tryz.ntmps23
      go_wp2_with fail
      refine (C.out _ HB0.out).mono ?_
      rintro e w1 ⟨rfl, hb⟩
      have HB1 := hid (HB0.out.trans (hb.mono HB0.out.size))
      have HK1 := hid (HK0.out.to hb)
      have hw1 : w.heap.size + 1 < w1.heap.size := HK1.out.1
      clear hb
      have d0 := (HK1.out.2 0 _ rfl).1
      have d1 := (HK1.out.2 1 _ rfl).1
      have d2 := (HK1.out.2 2 _ rfl).1
      have d3 := (HK1.out.2 3 _ rfl).1
      go_wp2_with fail
      refine (CR.out _).mono ?_
      rintro e w2 ⟨rfl, hb⟩
      have HB2 := hid (HB1.out.trans (hb.mono HB1.out.size))
      clear hb d0 d1 d2 d3
      go_wp2_with fail
      go_ret
      exact ⟨_, rfl, by rw [HE.out]; exact World.ownsRow_nil _ _ _ _, HB2.out⟩
    | true =>
      rw [hr] at CR
      replace CR := hid CR
      replace CS := hid (CS.out hz hr)
      clear h hz hr HN HM
      go_enter Tryz.func23, Tryz.ntmps23
      go_wp2_with fail
      refine (C.out _ HB0.out).mono ?_
      rintro e w1 ⟨rfl, hb⟩
      have HB1 := hid (HB0.out.trans (hb.mono HB0.out.size))
      have HK1 := hid (HK0.out.to hb)
      have HT1 := hid (HT0.out.to hb)
      have hw1 : w.heap.size + 1 < w1.heap.size := HK1.out.1
      clear hb
      have d0 := (HK1.out.2 0 _ rfl).1
      have d1 := (HK1.out.2 1 _ rfl).1
      have d2 := (HK1.out.2 2 _ rfl).1
      have d3 := (HK1.out.2 3 _ rfl).1
      go_wp2_with fail
      refine (CR.out _).mono ?_
      rintro e w2 ⟨rfl, hb⟩
      have HB2 := hid (HB1.out.trans (hb.mono HB1.out.size))
      have HK2 := hid (HK1.out.to hb)
      have HT2 := hid (HT1.out.to hb)
      have hw2 : w.heap.size + 1 < w2.heap.size := HK2.out.1
      clear hb d0 d1 d2 d3
      have d0 := (HK2.out.2 0 _ rfl).1
      have d1 := (HK2.out.2 1 _ rfl).1
      have d2 := (HK2.out.2 2 _ rfl).1
      have d3 := (HK2.out.2 3 _ rfl).1
      have t0 := (HT2.out.2 0 _ rfl).1
      have t1 := (HT2.out.2 1 _ rfl).1
      have t2 := (HT2.out.2 2 _ rfl).1
      go_wp2_with fail
      refine (CS.out _ HB2.out).mono ?_
      rintro e w3 ⟨vS, rfl, ho, hb⟩
      have HB3 := hid (HB2.out.trans (hb.mono HB2.out.size))
      have HO := hid (own_base ho HB2.out.size)
      clear hb ho
      go_wp2_with fail
      go_ret
      exact ⟨_, rfl, HO.out, HB3.out⟩
end Go.Proofs.YtioegkcekbkblaaGreat
