/-
  FILTERS ASKED: FilterRecord of both. By gen_fr.py.
-/
import Derived.Test.YteekkccgdkmjoaaGreatFR1
import Derived.Test.YteekkccgdkmjoaaGreatFR2
import Derived.Test.YteekkccgdkmjoaaGreatLookI
namespace Go.Proofs.YteekkccgdkmjoaaGreat
open Go.RowKit Go.Proofs.YteekkccgdkmjoaaGreat.Nm
set_option linter.unusedSimpArgs false
set_option linter.unusedVariables false

def fX (l : List Flt) (nm tx : ByteArray) (lv sq : Int) : Option Int := if filtersOk l && recOk ⟨nm.data.toList, lv, tx.data.toList, sq⟩ then filtL nm.data.toList tx.data.toList l lv else none
theorem rec_range {nm tx : List UInt8} {lv sq : Int} (h : recOk ⟨nm, lv, tx, sq⟩ = true) : 1 ≤ lv ∧ lv ≤ 60 := by
  unfold recOk at h; simp only [Bool.and_eq_true, decide_eq_true_eq] at h; omega
theorem flts_all {l : List Flt} (h : filtersOk l = true) : l.all fltOk = true := by
  unfold filtersOk at h; rw [Bool.and_eq_true] at h; exact h.1
theorem Tryz.gateOf0 (v : Value) (xT : TypeId) (w : World) : (Instr.typeAssert (.iface 165 v) xT 154 true).run Tryz.prog w = .ok (.tuple #[.iface 165 v, .bool true]) w := run_typeAssert_hasB Tryz.underlying154 (by kernel_rfl) v xT w
theorem Tryz.gateOf1 (v : Value) (xT : TypeId) (w : World) : (Instr.typeAssert (.iface 166 v) xT 154 true).run Tryz.prog w = .ok (.tuple #[.iface 166 v, .bool true]) w := run_typeAssert_hasB Tryz.underlying154 (by kernel_rfl) v xT w
theorem Tryz.gateOf2 (v : Value) (xT : TypeId) (w : World) : (Instr.typeAssert (.iface 168 v) xT 154 true).run Tryz.prog w = .ok (.tuple #[.iface 168 v, .bool true]) w := run_typeAssert_hasB Tryz.underlying154 (by kernel_rfl) v xT w
theorem Tryz.gateOf3 (v : Value) (xT : TypeId) (w : World) : (Instr.typeAssert (.iface 156 v) xT 154 true).run Tryz.prog w = .ok (.tuple #[.nilIface, .bool false]) w := run_typeAssert_lacksB Tryz.underlying154 (by kernel_rfl) (by kernel_rfl) v xT w
theorem Tryz.gateOf4 (v : Value) (xT : TypeId) (w : World) : (Instr.typeAssert (.iface 156 v) xT 156 true).run Tryz.prog w = .ok (.tuple #[v, .bool true]) w := by kernel_rfl
theorem Tryz.lets0 (x y : Value) (w : World) : (invoke (.fn (.method "loop.example/loggertree/impl.lets") #[]) #[.iface 165 x, y]).run Tryz.prog w = .ok (.enter 133 #[x, y]) w := by kernel_rfl
theorem Tryz.lets1 (x y : Value) (w : World) : (invoke (.fn (.method "loop.example/loggertree/impl.lets") #[]) #[.iface 166 x, y]).run Tryz.prog w = .ok (.enter 137 #[x, y]) w := by kernel_rfl
theorem Tryz.lets2 (x y : Value) (w : World) : (invoke (.fn (.method "loop.example/loggertree/impl.lets") #[]) #[.iface 168 x, y]).run Tryz.prog w = .ok (.enter 138 #[x, y]) w := by kernel_rfl

set_option maxHeartbeats 4000000 in
set_option maxRecDepth 100000 in
theorem implFilterRecord_c (v : Value) (n B : Nat) (l : List Flt) (nm tx : ByteArray) (lv sq : Int) (w : World) (hv : Fs w B n v l) (hB : B ≤ w.heap.size) (hnm : nm.size ≤ 1048576) (htx : tx.size ≤ 1048576) :
    Calls Tryz.prog 90 #[v, .agg #[.string nm, .int .i64 lv, .string tx, .int .i64 sq]] w (FiltPost w nm tx sq (fX l nm tx lv sq)) := by
  have hln := hv.len
  obtain ⟨A, c, rfl, hnc, hcm⟩ := hv.1.form
  unfold maxLen at hcm
  have HB0 := hid (show Below w.heap.size w ((w.alloc (.cells #[.string nm, .int .i64 lv, .string tx, .int .i64 sq] 37)).alloc (.cells #[.string ⟨#[]⟩, .int .i64 0, .string ⟨#[]⟩, .int .i64 0] 37)) by go_grown)
  have HK0 := hid ((Blk.new w #[.string nm, .int .i64 lv, .string tx, .int .i64 sq] 37).alloc (.cells #[.string ⟨#[]⟩, .int .i64 0, .string ⟨#[]⟩, .int .i64 0] 37))
  have HZ0 := hid (Blk.new (w.alloc (.cells #[.string nm, .int .i64 lv, .string tx, .int .i64 sq] 37)) #[.string ⟨#[]⟩, .int .i64 0, .string ⟨#[]⟩, .int .i64 0] 37)
  simp only [World.size_alloc] at HZ0
  have HV := hid (And.intro hv hln)
  have CF := hid (fun (W : World) (hW : Below w.heap.size w W) => implValidFilters_c (.slice A n c) n B l W ⟨hv.1.below hW hB, hv.2⟩ (Nat.le_trans hB hW.size))
  have CR := hid (fun (W : World) => implValidRecord_c nm tx lv sq W hnm htx)
  cases hz : filtersOk l with
  | false =>
    rw [hz] at CF
    clear hv hln CR
    have HH := hid hz
    clear hz
    go_enter Tryz.func90, Tryz.ntmps90
    go_wp2_with fail
    refine (CF.out _ HB0.out).mono ?_
    rintro e w1 ⟨rfl, hb⟩
    have HB1 := hid (HB0.out.trans (hb.mono HB0.out.size))
    have HZ1 := hid (HZ0.out.to hb)
    clear hb
    have HE := hid (show fX l nm tx lv sq = none by unfold fX; rw [HH.out]; simp)
    obtain ⟨r0, y0⟩ := HZ1.out.2 0 _ rfl
    obtain ⟨r1, y1⟩ := HZ1.out.2 1 _ rfl
    obtain ⟨r2, y2⟩ := HZ1.out.2 2 _ rfl
    obtain ⟨r3, y3⟩ := HZ1.out.2 3 _ rfl
    go_wp2_with fail
    have RB := (((HZ1.out.set 0 (.string ⟨#[]⟩)).set 1 (.int .i64 0)).set 2 (.string ⟨#[]⟩)).set 3 (.int .i64 0)
    have f0 := (RB.2 0 _ rfl).1
    have f1 := (RB.2 1 _ rfl).1
    have f2 := (RB.2 2 _ rfl).1
    have f3 := (RB.2 3 _ rfl).1
    refine bodyPost_ret (v := .tuple #[.agg #[.string ⟨#[]⟩, .int .i64 0, .string ⟨#[]⟩, .int .i64 0], .bool false]) (by simp [results, Tryz.results90, go_sem, f0, f1, f2, f3]) rfl ?_
    rw [HE.out]
    refine ⟨rfl, ?_⟩
    iterate 4 refine Below.setCell ?_ (by simp) _
    exact HB1.out
  | true =>
    rw [hz] at CF
    have HA := hid (flts_all hz)
    have HH := hid hz
    clear hz
    cases hr : recOk ⟨nm.data.toList, lv, tx.data.toList, sq⟩ with
    | false =>
      rw [hr] at CR
      have HR := hid hr
      clear hr
      clear hv hln
      go_enter Tryz.func90, Tryz.ntmps90
      go_wp2_with fail
      refine (CF.out _ HB0.out).mono ?_
      rintro e w1 ⟨rfl, hb⟩
      have HB1 := hid (HB0.out.trans (hb.mono HB0.out.size))
      have HK1 := hid (HK0.out.to hb)
      have HZ1 := hid (HZ0.out.to hb)
      clear hb
      have d0 := (HK1.out.2 0 _ rfl).1
      have d1 := (HK1.out.2 1 _ rfl).1
      have d2 := (HK1.out.2 2 _ rfl).1
      have d3 := (HK1.out.2 3 _ rfl).1
      go_wp2_with fail
      refine (CR.out _).mono ?_
      rintro e w2 ⟨rfl, hb⟩
      have HB2 := hid (HB1.out.trans (hb.mono HB1.out.size))
      have HK2 := hid (HK1.out.to hb)
      have HZ2 := hid (HZ1.out.to hb)
      clear hb d0 d1 d2 d3
      have HE := hid (show fX l nm tx lv sq = none by unfold fX; rw [HR.out]; simp)
      obtain ⟨r0, y0⟩ := HZ2.out.2 0 _ rfl
      obtain ⟨r1, y1⟩ := HZ2.out.2 1 _ rfl
      obtain ⟨r2, y2⟩ := HZ2.out.2 2 _ rfl
      obtain ⟨r3, y3⟩ := HZ2.out.2 3 _ rfl
      go_wp2_with fail
      have RB := (((HZ2.out.set 0 (.string ⟨#[]⟩)).set 1 (.int .i64 0)).set 2 (.string ⟨#[]⟩)).set 3 (.int .i64 0)
      have f0 := (RB.2 0 _ rfl).1
      have f1 := (RB.2 1 _ rfl).1
      have f2 := (RB.2 2 _ rfl).1
      have f3 := (RB.2 3 _ rfl).1
      refine bodyPost_ret (v := .tuple #[.agg #[.string ⟨#[]⟩, .int .i64 0, .string ⟨#[]⟩, .int .i64 0], .bool false]) (by simp [results, Tryz.results90, go_sem, f0, f1, f2, f3]) rfl ?_
      rw [HE.out]
      refine ⟨rfl, ?_⟩
      iterate 4 refine Below.setCell ?_ (by simp) _
      exact HB2.out
    | true =>
      rw [hr] at CR
      have HR := hid hr
      obtain ⟨h1, h2⟩ := rec_range hr
      clear hr
      have ta0 := Tryz.gateOf0
      have ta1 := Tryz.gateOf1
      have ta2 := Tryz.gateOf2
      have ta3 := Tryz.gateOf3
      have ta4 := Tryz.gateOf4
      have iv0 := Tryz.lets0
      have iv1 := Tryz.lets1
      have iv2 := Tryz.lets2
      have HE0 := hid (show fX l nm tx lv sq = filtL nm.data.toList tx.data.toList l lv by unfold fX; rw [HH.out, HR.out]; rfl)
      rw [HE0.out]
      clear hv hln
      go_enter Tryz.func90, Tryz.ntmps90
      go_wp2_with fail
      refine (CF.out _ HB0.out).mono ?_
      rintro e w1 ⟨rfl, hb⟩
      have HB1 := hid (HB0.out.trans (hb.mono HB0.out.size))
      have HK1 := hid (HK0.out.to hb)
      have HZ1 := hid (HZ0.out.to hb)
      clear hb
      have d0 := (HK1.out.2 0 _ rfl).1
      have d1 := (HK1.out.2 1 _ rfl).1
      have d2 := (HK1.out.2 2 _ rfl).1
      have d3 := (HK1.out.2 3 _ rfl).1
      go_wp2_with fail
      refine (CR.out _).mono ?_
      rintro e w2 ⟨rfl, hb⟩
      have HB2 := hid (HB1.out.trans (hb.mono HB1.out.size))
      have HK2 := hid (HK1.out.to hb)
      have HZ2 := hid (HZ1.out.to hb)
      clear hb d0 d1 d2 d3
      have d0 := (HK2.out.2 0 _ rfl).1
      have d1 := (HK2.out.2 1 _ rfl).1
      have d2 := (HK2.out.2 2 _ rfl).1
      have d3 := (HK2.out.2 3 _ rfl).1
      go_wp2_with fail
      clear d0 d1 d2 d3 HB0 HK0 HZ0 HB1 HK1 HZ1
      have HB0 := HB2
      have HK0 := HK2
      have HZ0 := HZ2
      clear HB2 HK2 HZ2
      go_loopw [8, 21] (fun xv iv wr => ∃ (k : Nat) (q : Int), iv = .int .i64 k ∧ k ≤ n ∧ 1 ≤ q ∧ q ≤ 60 ∧ Hid (filtL nm.data.toList tx.data.toList (l.take k) lv = some q) ∧ Hid (Below w.heap.size w wr) ∧ Hid (Blk wr w.heap.size [.string nm, .int .i64 q, .string tx, .int .i64 sq]) ∧ Hid (Blk wr (w.heap.size + 1) [.string ⟨#[]⟩, .int .i64 0, .string ⟨#[]⟩, .int .i64 0])) (fun xv iv _ => n - (intOf iv).toNat)
      case atStart => exact ⟨0, lv, rfl, by omega, h1, h2, rfl, HB0.out, HK0.out, HZ0.out⟩
      case round =>
        obtain ⟨k, q, rfl, hk, hq1, hq2, HQ, HB, HK, HZ⟩ := hrel
        by_cases hlt : k < n
        · obtain ⟨b, o, f, s, rfl, hbB, hf, hs, hfe, g0, g1, g2⟩ := HV.out.1.at_ hlt
          have c0 : wr.cell? ⟨b, o + k * 3, none⟩ = some (.int .i64 f.k) := (HB.out.cell (p := ⟨b, o + k * 3, none⟩) (by show b < _; omega)).trans g0
          have c1 : wr.cell? ⟨b, o + k * 3 + 1, none⟩ = some (.string s) := (HB.out.cell (p := ⟨b, o + k * 3 + 1, none⟩) (by show b < _; omega)).trans g1
          have c2 : wr.cell? ⟨b, o + k * 3 + 2, none⟩ = some (.int .i64 f.n) := (HB.out.cell (p := ⟨b, o + k * 3 + 2, none⟩) (by show b < _; omega)).trans g2
          have hfk := flt_kinds (List.all_eq_true.1 HA.out f (List.mem_of_getElem? hf))
          have HX := hid (filtL_step hf HQ.out)
          have HD := hid (fun (h : passF nm.data.toList tx.data.toList f q = none) => filtL_dead (HX.out.trans h))
          have hnn : f.nm = s.data.toList := by rw [hfe]
          have hrng := fun (q' : Int) (h : passF nm.data.toList tx.data.toList f q = some q') => passF_range (List.all_eq_true.1 HA.out f (List.mem_of_getElem? hf)) hq1 hq2 h
          have HRG := hid hrng
          have hsz := HK.out.1
          have hsz1 := HZ.out.1
          have hbw : b < w.heap.size := by omega
          obtain ⟨e0, x0⟩ := HK.out.2 0 _ rfl
          obtain ⟨e1, x1⟩ := HK.out.2 1 _ rfl
          obtain ⟨e2, x2⟩ := HK.out.2 2 _ rfl
          obtain ⟨e3, x3⟩ := HK.out.2 3 _ rfl
          have HNN := hid hnn
          generalize hkk : f.k = kk at *
          generalize hfn : f.n = fn at *
          have HKK := hid hkk
          have HFN := hid hfn
          clear hf hfe g0 g1 g2 hnn hkk hfn hrng
          rcases hfk with rfl | hfk
          · skip
            have HB1 := hid (HB.out.alloc (Nat.le_of_lt hsz) (.cells #[.int .i64 0, .string s, .int .i64 fn] 125))
            have HK1 := hid (HK.out.alloc (.cells #[.int .i64 0, .string s, .int .i64 fn] 125))
            have HZ1 := hid (HZ.out.alloc (.cells #[.int .i64 0, .string s, .int .i64 fn] 125))
            go_wp2_with fail
            refine (filterOf0_c s fn _).mono ?_
            rintro e w3 ⟨rfl, hb⟩
            have HB2 := hid (HB1.out.trans (hb.mono HB1.out.size))
            have HK2 := hid (HK1.out.to hb)
            have HZ2 := hid (HZ1.out.to hb)
            clear hb e0 e1 e2 e3 x0 x1 x2 x3 c0 c1 c2 HB1 HK1 HZ1
            obtain ⟨e0, x0⟩ := HK2.out.2 0 _ rfl
            obtain ⟨e1, x1⟩ := HK2.out.2 1 _ rfl
            obtain ⟨e2, x2⟩ := HK2.out.2 2 _ rfl
            obtain ⟨e3, x3⟩ := HK2.out.2 3 _ rfl
            unfold gateB
            have hsz3 := HK2.out.1
            have CL := hid (fun W => branchLets_c s nm tx q sq W hnm hs)
            have HP := hid (pass0 (nm := nm.data.toList) (tx := tx.data.toList) (f := f) (q := q) HKK.out)
            rw [HNN.out] at HP
            cases hz : belowL nm.data.toList s.data.toList with
            | true =>
              rw [hz] at CL HP
              clear hz
              go_wp2_with fail
              refine (CL.out _).mono ?_
              rintro e w4 ⟨rfl, hb⟩
              have HB4 := hid (HB2.out.trans (hb.mono HB2.out.size))
              have HK4 := hid (HK2.out.to hb)
              have HZ4 := hid (HZ2.out.to hb)
              clear hb e0 e1 e2 e3 x0 x1 x2 x3
              go_wp2_with fail
              go_roundw
              case rel => exact ⟨k + 1, q, by go_num, by omega, (HRG.out _ (HP.out)).1, (HRG.out _ (HP.out)).2, HX.out.trans (HP.out), HB4.out, HK4.out, HZ4.out⟩
              case measure => simp [intOf]; omega
            | false =>
              rw [hz] at CL HP
              clear hz
              go_wp2_with fail
              refine (CL.out _).mono ?_
              rintro e w4 ⟨rfl, hb⟩
              have HB4 := hid (HB2.out.trans (hb.mono HB2.out.size))
              have HK4 := hid (HK2.out.to hb)
              have HZ4 := hid (HZ2.out.to hb)
              clear hb e0 e1 e2 e3 x0 x1 x2 x3
              obtain ⟨r0, y0⟩ := HZ4.out.2 0 _ rfl
              obtain ⟨r1, y1⟩ := HZ4.out.2 1 _ rfl
              obtain ⟨r2, y2⟩ := HZ4.out.2 2 _ rfl
              obtain ⟨r3, y3⟩ := HZ4.out.2 3 _ rfl
              go_wp2_with fail
              have RB := ((((HZ4.out.set 0 (.string ⟨#[]⟩)).set 1 (.int .i64 0)).set 2 (.string ⟨#[]⟩)).set 3 (.int .i64 0))
              have f0 := (RB.2 0 _ rfl).1
              have f1 := (RB.2 1 _ rfl).1
              have f2 := (RB.2 2 _ rfl).1
              have f3 := (RB.2 3 _ rfl).1
              refine bodyPost_ret (v := .tuple #[.agg #[.string ⟨#[]⟩, .int .i64 0, .string ⟨#[]⟩, .int .i64 0], .bool false]) (by simp [results, Tryz.results90, go_sem, f0, f1, f2, f3]) rfl ?_
              rw [HD.out (HP.out)]
              refine ⟨rfl, ?_⟩
              iterate 4 refine Below.setCell ?_ (by simp) _
              exact HB4.out
          rcases hfk with rfl | hfk
          · skip
            have HB1 := hid (HB.out.alloc (Nat.le_of_lt hsz) (.cells #[.int .i64 1, .string s, .int .i64 fn] 125))
            have HK1 := hid (HK.out.alloc (.cells #[.int .i64 1, .string s, .int .i64 fn] 125))
            have HZ1 := hid (HZ.out.alloc (.cells #[.int .i64 1, .string s, .int .i64 fn] 125))
            go_wp2_with fail
            refine (filterOf1_c s fn _).mono ?_
            rintro e w3 ⟨rfl, hb⟩
            have HB2 := hid (HB1.out.trans (hb.mono HB1.out.size))
            have HK2 := hid (HK1.out.to hb)
            have HZ2 := hid (HZ1.out.to hb)
            clear hb e0 e1 e2 e3 x0 x1 x2 x3 c0 c1 c2 HB1 HK1 HZ1
            obtain ⟨e0, x0⟩ := HK2.out.2 0 _ rfl
            obtain ⟨e1, x1⟩ := HK2.out.2 1 _ rfl
            obtain ⟨e2, x2⟩ := HK2.out.2 2 _ rfl
            obtain ⟨e3, x3⟩ := HK2.out.2 3 _ rfl
            unfold gateM
            have hsz3 := HK2.out.1
            have CL := hid (fun W => mostLets_c fn nm tx q sq W)
            have HP := hid (pass1 (nm := nm.data.toList) (tx := tx.data.toList) (f := f) (q := q) HKK.out)
            rw [HFN.out] at HP
            cases hz : decide (q ≤ fn) with
            | true =>
              rw [hz] at CL
              rw [if_pos (of_decide_eq_true hz)] at HP
              clear hz
              go_wp2_with fail
              refine (CL.out _).mono ?_
              rintro e w4 ⟨rfl, hb⟩
              have HB4 := hid (HB2.out.trans (hb.mono HB2.out.size))
              have HK4 := hid (HK2.out.to hb)
              have HZ4 := hid (HZ2.out.to hb)
              clear hb e0 e1 e2 e3 x0 x1 x2 x3
              go_wp2_with fail
              go_roundw
              case rel => exact ⟨k + 1, q, by go_num, by omega, (HRG.out _ (HP.out)).1, (HRG.out _ (HP.out)).2, HX.out.trans (HP.out), HB4.out, HK4.out, HZ4.out⟩
              case measure => simp [intOf]; omega
            | false =>
              rw [hz] at CL
              rw [if_neg (of_decide_eq_false hz)] at HP
              clear hz
              go_wp2_with fail
              refine (CL.out _).mono ?_
              rintro e w4 ⟨rfl, hb⟩
              have HB4 := hid (HB2.out.trans (hb.mono HB2.out.size))
              have HK4 := hid (HK2.out.to hb)
              have HZ4 := hid (HZ2.out.to hb)
              clear hb e0 e1 e2 e3 x0 x1 x2 x3
              obtain ⟨r0, y0⟩ := HZ4.out.2 0 _ rfl
              obtain ⟨r1, y1⟩ := HZ4.out.2 1 _ rfl
              obtain ⟨r2, y2⟩ := HZ4.out.2 2 _ rfl
              obtain ⟨r3, y3⟩ := HZ4.out.2 3 _ rfl
              go_wp2_with fail
              have RB := ((((HZ4.out.set 0 (.string ⟨#[]⟩)).set 1 (.int .i64 0)).set 2 (.string ⟨#[]⟩)).set 3 (.int .i64 0))
              have f0 := (RB.2 0 _ rfl).1
              have f1 := (RB.2 1 _ rfl).1
              have f2 := (RB.2 2 _ rfl).1
              have f3 := (RB.2 3 _ rfl).1
              refine bodyPost_ret (v := .tuple #[.agg #[.string ⟨#[]⟩, .int .i64 0, .string ⟨#[]⟩, .int .i64 0], .bool false]) (by simp [results, Tryz.results90, go_sem, f0, f1, f2, f3]) rfl ?_
              rw [HD.out (HP.out)]
              refine ⟨rfl, ?_⟩
              iterate 4 refine Below.setCell ?_ (by simp) _
              exact HB4.out
          rcases hfk with rfl | rfl
          · skip
            have HB1 := hid (HB.out.alloc (Nat.le_of_lt hsz) (.cells #[.int .i64 2, .string s, .int .i64 fn] 125))
            have HK1 := hid (HK.out.alloc (.cells #[.int .i64 2, .string s, .int .i64 fn] 125))
            have HZ1 := hid (HZ.out.alloc (.cells #[.int .i64 2, .string s, .int .i64 fn] 125))
            go_wp2_with fail
            refine (filterOf2_c s fn _).mono ?_
            rintro e w3 ⟨rfl, hb⟩
            have HB2 := hid (HB1.out.trans (hb.mono HB1.out.size))
            have HK2 := hid (HK1.out.to hb)
            have HZ2 := hid (HZ1.out.to hb)
            clear hb e0 e1 e2 e3 x0 x1 x2 x3 c0 c1 c2 HB1 HK1 HZ1
            obtain ⟨e0, x0⟩ := HK2.out.2 0 _ rfl
            obtain ⟨e1, x1⟩ := HK2.out.2 1 _ rfl
            obtain ⟨e2, x2⟩ := HK2.out.2 2 _ rfl
            obtain ⟨e3, x3⟩ := HK2.out.2 3 _ rfl
            unfold gateW
            have hsz3 := HK2.out.1
            have CL := hid (fun W => wordLets_c s nm tx q sq W htx)
            have HP := hid (pass2 (nm := nm.data.toList) (tx := tx.data.toList) (f := f) (q := q) HKK.out)
            rw [HNN.out] at HP
            cases hz : hasW tx.data.toList s.data.toList with
            | true =>
              rw [hz] at CL HP
              clear hz
              go_wp2_with fail
              refine (CL.out _).mono ?_
              rintro e w4 ⟨rfl, hb⟩
              have HB4 := hid (HB2.out.trans (hb.mono HB2.out.size))
              have HK4 := hid (HK2.out.to hb)
              have HZ4 := hid (HZ2.out.to hb)
              clear hb e0 e1 e2 e3 x0 x1 x2 x3
              obtain ⟨r0, y0⟩ := HZ4.out.2 0 _ rfl
              obtain ⟨r1, y1⟩ := HZ4.out.2 1 _ rfl
              obtain ⟨r2, y2⟩ := HZ4.out.2 2 _ rfl
              obtain ⟨r3, y3⟩ := HZ4.out.2 3 _ rfl
              go_wp2_with fail
              have RB := ((((HZ4.out.set 0 (.string ⟨#[]⟩)).set 1 (.int .i64 0)).set 2 (.string ⟨#[]⟩)).set 3 (.int .i64 0))
              have f0 := (RB.2 0 _ rfl).1
              have f1 := (RB.2 1 _ rfl).1
              have f2 := (RB.2 2 _ rfl).1
              have f3 := (RB.2 3 _ rfl).1
              refine bodyPost_ret (v := .tuple #[.agg #[.string ⟨#[]⟩, .int .i64 0, .string ⟨#[]⟩, .int .i64 0], .bool false]) (by simp [results, Tryz.results90, go_sem, f0, f1, f2, f3]) rfl ?_
              rw [HD.out (HP.out)]
              refine ⟨rfl, ?_⟩
              iterate 4 refine Below.setCell ?_ (by simp) _
              exact HB4.out
            | false =>
              rw [hz] at CL HP
              clear hz
              go_wp2_with fail
              refine (CL.out _).mono ?_
              rintro e w4 ⟨rfl, hb⟩
              have HB4 := hid (HB2.out.trans (hb.mono HB2.out.size))
              have HK4 := hid (HK2.out.to hb)
              have HZ4 := hid (HZ2.out.to hb)
              clear hb e0 e1 e2 e3 x0 x1 x2 x3
              go_wp2_with fail
              go_roundw
              case rel => exact ⟨k + 1, q, by go_num, by omega, (HRG.out _ (HP.out)).1, (HRG.out _ (HP.out)).2, HX.out.trans (HP.out), HB4.out, HK4.out, HZ4.out⟩
              case measure => simp [intOf]; omega
          · skip
            have HB1 := hid (HB.out.alloc (Nat.le_of_lt hsz) (.cells #[.int .i64 3, .string s, .int .i64 fn] 125))
            have HK1 := hid (HK.out.alloc (.cells #[.int .i64 3, .string s, .int .i64 fn] 125))
            have HZ1 := hid (HZ.out.alloc (.cells #[.int .i64 3, .string s, .int .i64 fn] 125))
            go_wp2_with fail
            refine (filterOf3_c s fn _).mono ?_
            rintro e w3 ⟨rfl, hb⟩
            have HB2 := hid (HB1.out.trans (hb.mono HB1.out.size))
            have HK2 := hid (HK1.out.to hb)
            have HZ2 := hid (HZ1.out.to hb)
            clear hb e0 e1 e2 e3 x0 x1 x2 x3 c0 c1 c2 HB1 HK1 HZ1
            obtain ⟨e0, x0⟩ := HK2.out.2 0 _ rfl
            obtain ⟨e1, x1⟩ := HK2.out.2 1 _ rfl
            obtain ⟨e2, x2⟩ := HK2.out.2 2 _ rfl
            obtain ⟨e3, x3⟩ := HK2.out.2 3 _ rfl
            unfold gateR
            have hsz3 := HK2.out.1
            have HP := hid (pass3 (nm := nm.data.toList) (tx := tx.data.toList) (f := f) (q := q) HKK.out)
            rw [HFN.out] at HP
            generalize hmx : (if q < fn then fn else q) = mx at HP
            have HMX := hid hmx
            clear hmx
            go_wp2_with fail
            rw [show max q fn = mx by rw [← HMX.out]; split <;> omega]
            have HB5 := hid ((HB2.out.setCell (p := ⟨w.heap.size, 1, none⟩) (Nat.le_refl _) (.int .i64 mx)).alloc (by simpa using Nat.le_of_lt hsz3) (.cells #[.int .i64 fn] 156))
            have HK5 := hid ((HK2.out.set 1 (.int .i64 mx)).alloc (.cells #[.int .i64 fn] 156))
            have HZ5 := hid ((HZ2.out.apart ⟨w.heap.size, 1, none⟩ (.int .i64 mx) (by simp)).alloc (.cells #[.int .i64 fn] 156))
            go_roundw
            case rel => exact ⟨k + 1, mx, by go_num, by omega, (HRG.out _ (HP.out)).1, (HRG.out _ (HP.out)).2, HX.out.trans (HP.out), HB5.out, HK5.out, HZ5.out⟩
            case measure => simp [intOf]; omega
        · have HE := hid (show filtL nm.data.toList tx.data.toList l lv = some q by
            have h9 := HQ.out
            rwa [List.take_of_length_le (by have := HV.out.2; omega)] at h9)
          obtain ⟨e0, x0⟩ := HK.out.2 0 _ rfl
          obtain ⟨e1, x1⟩ := HK.out.2 1 _ rfl
          obtain ⟨e2, x2⟩ := HK.out.2 2 _ rfl
          obtain ⟨e3, x3⟩ := HK.out.2 3 _ rfl
          obtain ⟨r0, y0⟩ := HZ.out.2 0 _ rfl
          obtain ⟨r1, y1⟩ := HZ.out.2 1 _ rfl
          obtain ⟨r2, y2⟩ := HZ.out.2 2 _ rfl
          obtain ⟨r3, y3⟩ := HZ.out.2 3 _ rfl
          go_wp2_with fail
          have RB := (((HZ.out.set 0 (.string nm)).set 1 (.int .i64 q)).set 2 (.string tx)).set 3 (.int .i64 sq)
          have f0 := (RB.2 0 _ rfl).1
          have f1 := (RB.2 1 _ rfl).1
          have f2 := (RB.2 2 _ rfl).1
          have f3 := (RB.2 3 _ rfl).1
          refine bodyPost_ret (v := .tuple #[.agg #[.string nm, .int .i64 q, .string tx, .int .i64 sq], .bool true]) (by simp [results, Tryz.results90, go_sem, f0, f1, f2, f3]) rfl ?_
          rw [HE.out]
          refine ⟨rfl, ?_⟩
          iterate 4 refine Below.setCell ?_ (by simp) _
          exact HB.out
end Go.Proofs.YteekkccgdkmjoaaGreat
