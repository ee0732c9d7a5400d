/-
  FILTERS ASKED: the model's hasWord, filtered, FilterRecord. By gen_fr.py.
-/
import Derived.Test.YteekkccgdkmjoaaGreatFR0
import Derived.Test.YteekkccgdkmjoaaGreatR2
import Derived.Test.YteekkccgdkmjoaaGreatU1
namespace Go.Proofs.YteekkccgdkmjoaaGreat
open Go.RowKit Nm
set_option linter.unusedSimpArgs false
set_option linter.unusedVariables false

def recOut (nm tx : ByteArray) (sq : Int) : Option Int → Value
  | some q => .agg #[.string nm, .int .i64 q, .string tx, .int .i64 sq]
  | none => .agg #[.string ⟨#[]⟩, .int .i64 0, .string ⟨#[]⟩, .int .i64 0]
def FiltPost (w : World) (nm tx : ByteArray) (sq : Int) (o : Option Int) (e : Ending) (w' : World) : Prop := e = .returned (.tuple #[recOut nm tx sq o, .bool o.isSome]) ∧ Below w.heap.size w w'
theorem splitB_le' (c : UInt8) (l : List UInt8) : ∀ t ∈ splitB c l, t.length ≤ l.length := by
  induction l with
  | nil => intro t ht; simp [splitB] at ht; subst ht; simp
  | cons b r ih =>
    intro t ht
    unfold splitB at ht
    split at ht
    · rcases List.mem_cons.1 ht with rfl | ht
      · simp
      · have := ih t ht; simp; omega
    · split at ht
      · simp at ht; subst ht; simp
      · rename_i w ws hw
        rcases List.mem_cons.1 ht with rfl | ht
        · have := ih w (by rw [hw]; simp); simp; omega
        · have := ih t (by rw [hw]; simp [ht]); simp; omega
theorem flt_kinds {f : Flt} (h : fltOk f = true) : f.k = 0 ∨ f.k = 1 ∨ f.k = 2 ∨ f.k = 3 := by
  by_cases h0 : f.k = 0
  · exact .inl h0
  by_cases h2 : f.k = 2
  · exact .inr (.inr (.inl h2))
  by_cases h13 : f.k = 1 ∨ f.k = 3
  · rcases h13 with h | h
    · exact .inr (.inl h)
    · exact .inr (.inr (.inr h))
  · rw [fltx f h0 h2 h13] at h; cases h
theorem pass0 {nm tx : List UInt8} {f : Flt} {q : Int} (h : f.k = 0) : passF nm tx f q = if belowL nm f.nm then some q else none := by simp [passF, h]
theorem pass1 {nm tx : List UInt8} {f : Flt} {q : Int} (h : f.k = 1) : passF nm tx f q = if q ≤ f.n then some q else none := by simp [passF, h]
theorem pass2 {nm tx : List UInt8} {f : Flt} {q : Int} (h : f.k = 2) : passF nm tx f q = if hasW tx f.nm then none else some q := by simp [passF, h]
theorem pass3 {nm tx : List UInt8} {f : Flt} {q : Int} (h : f.k = 3) : passF nm tx f q = some (if q < f.n then f.n else q) := by simp [passF, h]

set_option maxHeartbeats 400000 in
set_option maxRecDepth 100000 in
theorem specHasWord_c (s x : ByteArray) (w : World) (hs : s.size ≤ 1048576) :
    Calls Tryz.prog 79 #[.string s, .string x] w (BoolPost w (hasW s.data.toList x.data.toList)) := by
  have C := hid (splitAt_c s 32 w hs)
  have HL := hid (fun t ht => Nat.le_trans (splitB_le' 32 s.data.toList t ht) (show s.data.toList.length ≤ maxTxt by rw [← Lib.size_eq]; unfold maxTxt; exact hs))
  have HE := hid (show hasW s.data.toList x.data.toList = decide (x.data.toList ∈ splitB 32 s.data.toList) from rfl)
  generalize splitB 32 s.data.toList = ws at C HL HE
  generalize hasW s.data.toList x.data.toList = z at HE ⊢
  clear hs
  go_enter Tryz.func79, Tryz.ntmps79
  go_wp2_with fail
  refine C.out.mono ?_
  rintro e w1 ⟨v, rfl, ho, hb⟩
  obtain ⟨A, c, rfl, _, _⟩ := (Sl.of_own ho).form
  have CT := hid (hasText_c (.slice A ws.length c) ws.length w1.heap.size ws x w1 ⟨Sl.of_own ho, HL.out⟩)
  have HB := hid hb
  clear ho hb
  go_wp2_with fail
  refine CT.out.mono ?_
  rintro e w2 ⟨rfl, h9⟩
  obtain rfl := h9
  go_wp2_with fail
  go_ret
  exact ⟨ret_bool HE.out.symm, HB.out⟩

set_option maxHeartbeats 4000000 in
set_option maxRecDepth 100000 in
theorem specFiltered_c (v : Value) (n B : Nat) (l : List Flt) (nm tx : ByteArray) (lv sq : Int) (w : World) (hv : Fs w B n v l) (hB : B ≤ w.heap.size) (hall : l.all fltOk = true) (hnm : nm.size ≤ 1048576) (htx : tx.size ≤ 1048576) (h1 : 1 ≤ lv) (h2 : lv ≤ 60) :
    Calls Tryz.prog 56 #[v, .agg #[.string nm, .int .i64 lv, .string tx, .int .i64 sq]] w (FiltPost w nm tx sq (filtL nm.data.toList tx.data.toList l lv)) := by
  have hln := hv.len
  obtain ⟨A, c, rfl, hnc, hcm⟩ := hv.1.form
  unfold maxLen at hcm
  have HV := hid (And.intro hv hln)
  have HA := hid hall
  have CB := hid (fun (s : ByteArray) (hs : s.size ≤ 1048576) W => specBelow_c nm s W (by unfold maxLen; omega) (by unfold maxLen; omega))
  have CW := hid (fun (s : ByteArray) W => specHasWord_c tx s W htx)
  have HB0 := hid (show Below w.heap.size w ((w.alloc (.cells #[.string nm, .int .i64 lv, .string tx, .int .i64 sq] 37)).alloc (.cells #[.string ⟨#[]⟩, .int .i64 0, .string ⟨#[]⟩, .int .i64 0] 37)) by go_grown)
  have HK0 := hid ((Blk.new w #[.string nm, .int .i64 lv, .string tx, .int .i64 sq] 37).alloc (.cells #[.string ⟨#[]⟩, .int .i64 0, .string ⟨#[]⟩, .int .i64 0] 37))
  have HZ0 := hid (Blk.new (w.alloc (.cells #[.string nm, .int .i64 lv, .string tx, .int .i64 sq] 37)) #[.string ⟨#[]⟩, .int .i64 0, .string ⟨#[]⟩, .int .i64 0] 37)
  simp only [World.size_alloc] at HZ0
  clear hv hln hall
  go_enter Tryz.func56, Tryz.ntmps56
  go_wp2_with fail
  go_loopw [6, 8] (fun iv pv wr => ∃ (k : Nat) (q : Int), iv = .int .i64 k ∧ k ≤ n ∧ 1 ≤ q ∧ q ≤ 60 ∧ Hid (filtL nm.data.toList tx.data.toList (l.take k) lv = some q) ∧ Hid (Below w.heap.size w wr) ∧ Hid (Blk wr w.heap.size [.string nm, .int .i64 q, .string tx, .int .i64 sq]) ∧ Hid (Blk wr (w.heap.size + 1) [.string ⟨#[]⟩, .int .i64 0, .string ⟨#[]⟩, .int .i64 0])) (fun iv pv _ => n - (intOf iv).toNat)
  case atStart => exact ⟨0, lv, rfl, by omega, h1, h2, rfl, HB0.out, HK0.out, HZ0.out⟩
  case round =>
    obtain ⟨k, q, rfl, hk, hq1, hq2, HQ, HB, HK, HZ⟩ := hrel
    by_cases hlt : k < n
    · obtain ⟨b, o, f, s, rfl, hbB, hf, hs, hfe, g0, g1, g2⟩ := HV.out.1.at_ hlt
      have c0 : wr.cell? ⟨b, o + k * 3, none⟩ = some (.int .i64 f.k) := (HB.out.cell (p := ⟨b, o + k * 3, none⟩) (by show b < _; omega)).trans g0
      have c1 : wr.cell? ⟨b, o + k * 3 + 1, none⟩ = some (.string s) := (HB.out.cell (p := ⟨b, o + k * 3 + 1, none⟩) (by show b < _; omega)).trans g1
      have c2 : wr.cell? ⟨b, o + k * 3 + 2, none⟩ = some (.int .i64 f.n) := (HB.out.cell (p := ⟨b, o + k * 3 + 2, none⟩) (by show b < _; omega)).trans g2
      have hfk := flt_kinds (List.all_eq_true.1 HA.out f (List.mem_of_getElem? hf))
      have HX := hid (filtL_step hf HQ.out)
      have HD := hid (fun (h : passF nm.data.toList tx.data.toList f q = none) => filtL_dead (HX.out.trans h))
      have hnn : f.nm = s.data.toList := by rw [hfe]
      have hrng := fun (q' : Int) (h : passF nm.data.toList tx.data.toList f q = some q') => passF_range (List.all_eq_true.1 HA.out f (List.mem_of_getElem? hf)) hq1 hq2 h
      have HRG := hid hrng
      have hsz := HK.out.1
      have hsz1 := HZ.out.1
      have hbw : b < w.heap.size := by omega
      obtain ⟨e0, x0⟩ := HK.out.2 0 _ rfl
      obtain ⟨e1, x1⟩ := HK.out.2 1 _ rfl
      obtain ⟨e2, x2⟩ := HK.out.2 2 _ rfl
      obtain ⟨e3, x3⟩ := HK.out.2 3 _ rfl
      have HNN := hid hnn
      generalize hkk : f.k = kk at *
      generalize hfn : f.n = fn at *
      have HKK := hid hkk
      have HFN := hid hfn
      clear hf hfe g0 g1 g2 hnn hkk hfn hrng
      rcases hfk with rfl | hfk
      · skip
        have HB1 := hid (HB.out.alloc (Nat.le_of_lt hsz) (.cells #[.int .i64 0, .string s, .int .i64 fn] 125))
        have HK1 := hid (HK.out.alloc (.cells #[.int .i64 0, .string s, .int .i64 fn] 125))
        have HZ1 := hid (HZ.out.alloc (.cells #[.int .i64 0, .string s, .int .i64 fn] 125))
        have CC := hid (CB.out s hs)
        have HP := hid (pass0 (nm := nm.data.toList) (tx := tx.data.toList) (f := f) (q := q) HKK.out)
        rw [HNN.out] at HP
        cases hz : belowL nm.data.toList s.data.toList with
        | true =>
          rw [hz] at CC HP
          clear hz
          go_wp2_with fail
          refine (CC.out _).mono ?_
          rintro e w2 ⟨rfl, h9⟩
          obtain rfl := h9
          go_wp2_with fail
          go_roundw
          case rel => exact ⟨k + 1, q, by go_num, by omega, (HRG.out _ (HP.out)).1, (HRG.out _ (HP.out)).2, HX.out.trans (HP.out), HB1.out, HK1.out, HZ1.out⟩
          case measure => simp [intOf]; omega
        | false =>
          rw [hz] at CC HP
          clear hz
          go_wp2_with fail
          refine (CC.out _).mono ?_
          rintro e w2 ⟨rfl, h9⟩
          obtain rfl := h9
          obtain ⟨r0, y0⟩ := HZ.out.2 0 _ rfl
          obtain ⟨r1, y1⟩ := HZ.out.2 1 _ rfl
          obtain ⟨r2, y2⟩ := HZ.out.2 2 _ rfl
          obtain ⟨r3, y3⟩ := HZ.out.2 3 _ rfl
          go_wp2_with fail
          have RB := (((((HZ.out.set 0 (.string ⟨#[]⟩)).set 1 (.int .i64 0)).set 2 (.string ⟨#[]⟩)).set 3 (.int .i64 0))).alloc (.cells #[.int .i64 0, .string s, .int .i64 fn] 125)
          have f0 := (RB.2 0 _ rfl).1
          have f1 := (RB.2 1 _ rfl).1
          have f2 := (RB.2 2 _ rfl).1
          have f3 := (RB.2 3 _ rfl).1
          refine bodyPost_ret (v := .tuple #[.agg #[.string ⟨#[]⟩, .int .i64 0, .string ⟨#[]⟩, .int .i64 0], .bool false]) (by simp [results, Tryz.results56, go_sem, f0, f1, f2, f3]) rfl ?_
          rw [HD.out (HP.out)]
          refine ⟨rfl, ?_⟩
          refine Below.alloc ?_ (by simpa using Nat.le_of_lt hsz) _
          iterate 4 refine Below.setCell ?_ (by simp) _
          exact HB.out
      rcases hfk with rfl | hfk
      · skip
        have HB1 := hid (HB.out.alloc (Nat.le_of_lt hsz) (.cells #[.int .i64 1, .string s, .int .i64 fn] 125))
        have HK1 := hid (HK.out.alloc (.cells #[.int .i64 1, .string s, .int .i64 fn] 125))
        have HZ1 := hid (HZ.out.alloc (.cells #[.int .i64 1, .string s, .int .i64 fn] 125))
        have HP := hid (pass1 (nm := nm.data.toList) (tx := tx.data.toList) (f := f) (q := q) HKK.out)
        rw [HFN.out] at HP
        by_cases hz : q ≤ fn
        · rw [if_pos hz] at HP
          go_wp2_with fail
          go_roundw
          case rel => exact ⟨k + 1, q, by go_num, by omega, (HRG.out _ (HP.out)).1, (HRG.out _ (HP.out)).2, HX.out.trans (HP.out), HB1.out, HK1.out, HZ1.out⟩
          case measure => simp [intOf]; omega
        · rw [if_neg hz] at HP
          obtain ⟨r0, y0⟩ := HZ.out.2 0 _ rfl
          obtain ⟨r1, y1⟩ := HZ.out.2 1 _ rfl
          obtain ⟨r2, y2⟩ := HZ.out.2 2 _ rfl
          obtain ⟨r3, y3⟩ := HZ.out.2 3 _ rfl
          go_wp2_with fail
          have RB := (((((HZ.out.set 0 (.string ⟨#[]⟩)).set 1 (.int .i64 0)).set 2 (.string ⟨#[]⟩)).set 3 (.int .i64 0))).alloc (.cells #[.int .i64 1, .string s, .int .i64 fn] 125)
          have f0 := (RB.2 0 _ rfl).1
          have f1 := (RB.2 1 _ rfl).1
          have f2 := (RB.2 2 _ rfl).1
          have f3 := (RB.2 3 _ rfl).1
          refine bodyPost_ret (v := .tuple #[.agg #[.string ⟨#[]⟩, .int .i64 0, .string ⟨#[]⟩, .int .i64 0], .bool false]) (by simp [results, Tryz.results56, go_sem, f0, f1, f2, f3]) rfl ?_
          rw [HD.out (HP.out)]
          refine ⟨rfl, ?_⟩
          refine Below.alloc ?_ (by simpa using Nat.le_of_lt hsz) _
          iterate 4 refine Below.setCell ?_ (by simp) _
          exact HB.out
      rcases hfk with rfl | rfl
      · skip
        have HB1 := hid (HB.out.alloc (Nat.le_of_lt hsz) (.cells #[.int .i64 2, .string s, .int .i64 fn] 125))
        have HK1 := hid (HK.out.alloc (.cells #[.int .i64 2, .string s, .int .i64 fn] 125))
        have HZ1 := hid (HZ.out.alloc (.cells #[.int .i64 2, .string s, .int .i64 fn] 125))
        have CC := hid (CW.out s)
        have HP := hid (pass2 (nm := nm.data.toList) (tx := tx.data.toList) (f := f) (q := q) HKK.out)
        rw [HNN.out] at HP
        cases hz : hasW tx.data.toList s.data.toList with
        | false =>
          rw [hz] at CC HP
          clear hz
          go_wp2_with fail
          refine (CC.out _).mono ?_
          rintro e w2 ⟨rfl, hb⟩
          have HB2 := hid (HB1.out.trans (hb.mono HB1.out.size))
          have HK2 := hid (HK1.out.to hb)
          have HZ2 := hid (HZ1.out.to hb)
          clear hb e0 e1 e2 e3 x0 x1 x2 x3 c0 c1 c2
          go_wp2_with fail
          go_roundw
          case rel => exact ⟨k + 1, q, by go_num, by omega, (HRG.out _ (HP.out)).1, (HRG.out _ (HP.out)).2, HX.out.trans (HP.out), HB2.out, HK2.out, HZ2.out⟩
          case measure => simp [intOf]; omega
        | true =>
          rw [hz] at CC HP
          clear hz
          go_wp2_with fail
          refine (CC.out _).mono ?_
          rintro e w2 ⟨rfl, hb⟩
          have HB2 := hid (HB1.out.trans (hb.mono HB1.out.size))
          have HK2 := hid (HK1.out.to hb)
          have HZ2 := hid (HZ1.out.to hb)
          clear hb e0 e1 e2 e3 x0 x1 x2 x3 c0 c1 c2
          obtain ⟨r0, y0⟩ := HZ2.out.2 0 _ rfl
          obtain ⟨r1, y1⟩ := HZ2.out.2 1 _ rfl
          obtain ⟨r2, y2⟩ := HZ2.out.2 2 _ rfl
          obtain ⟨r3, y3⟩ := HZ2.out.2 3 _ rfl
          go_wp2_with fail
          have RB := ((((HZ2.out.set 0 (.string ⟨#[]⟩)).set 1 (.int .i64 0)).set 2 (.string ⟨#[]⟩)).set 3 (.int .i64 0))
          have f0 := (RB.2 0 _ rfl).1
          have f1 := (RB.2 1 _ rfl).1
          have f2 := (RB.2 2 _ rfl).1
          have f3 := (RB.2 3 _ rfl).1
          refine bodyPost_ret (v := .tuple #[.agg #[.string ⟨#[]⟩, .int .i64 0, .string ⟨#[]⟩, .int .i64 0], .bool false]) (by simp [results, Tryz.results56, go_sem, f0, f1, f2, f3]) rfl ?_
          rw [HD.out (HP.out)]
          refine ⟨rfl, ?_⟩
          iterate 4 refine Below.setCell ?_ (by simp) _
          exact HB2.out
      · skip
        have HB1 := hid (HB.out.alloc (Nat.le_of_lt hsz) (.cells #[.int .i64 3, .string s, .int .i64 fn] 125))
        have HK1 := hid (HK.out.alloc (.cells #[.int .i64 3, .string s, .int .i64 fn] 125))
        have HZ1 := hid (HZ.out.alloc (.cells #[.int .i64 3, .string s, .int .i64 fn] 125))
        have HP := hid (pass3 (nm := nm.data.toList) (tx := tx.data.toList) (f := f) (q := q) HKK.out)
        rw [HFN.out] at HP
        generalize hmx : (if q < fn then fn else q) = mx at HP
        have HMX := hid hmx
        clear hmx
        go_wp2_with fail
        rw [HMX.out]
        have HB2 := hid ((HB.out.setCell (p := ⟨w.heap.size, 1, none⟩) (Nat.le_refl _) (.int .i64 mx)).alloc (by simpa using Nat.le_of_lt hsz) (.cells #[.int .i64 3, .string s, .int .i64 fn] 125))
        have HK2 := hid ((HK.out.set 1 (.int .i64 mx)).alloc (.cells #[.int .i64 3, .string s, .int .i64 fn] 125))
        have HZ2 := hid ((HZ.out.apart ⟨w.heap.size, 1, none⟩ (.int .i64 mx) (by simp)).alloc (.cells #[.int .i64 3, .string s, .int .i64 fn] 125))
        go_roundw
        case rel => exact ⟨k + 1, mx, by go_num, by omega, (HRG.out _ (HP.out)).1, (HRG.out _ (HP.out)).2, HX.out.trans (HP.out), HB2.out, HK2.out, HZ2.out⟩
        case measure => simp [intOf]; omega
    · have HE := hid (show filtL nm.data.toList tx.data.toList l lv = some q by
        have h9 := HQ.out
        rwa [List.take_of_length_le (by have := HV.out.2; omega)] at h9)
      obtain ⟨e0, x0⟩ := HK.out.2 0 _ rfl
      obtain ⟨e1, x1⟩ := HK.out.2 1 _ rfl
      obtain ⟨e2, x2⟩ := HK.out.2 2 _ rfl
      obtain ⟨e3, x3⟩ := HK.out.2 3 _ rfl
      obtain ⟨r0, y0⟩ := HZ.out.2 0 _ rfl
      obtain ⟨r1, y1⟩ := HZ.out.2 1 _ rfl
      obtain ⟨r2, y2⟩ := HZ.out.2 2 _ rfl
      obtain ⟨r3, y3⟩ := HZ.out.2 3 _ rfl
      go_wp2_with fail
      have RB := (((HZ.out.set 0 (.string nm)).set 1 (.int .i64 q)).set 2 (.string tx)).set 3 (.int .i64 sq)
      have f0 := (RB.2 0 _ rfl).1
      have f1 := (RB.2 1 _ rfl).1
      have f2 := (RB.2 2 _ rfl).1
      have f3 := (RB.2 3 _ rfl).1
      refine bodyPost_ret (v := .tuple #[.agg #[.string nm, .int .i64 q, .string tx, .int .i64 sq], .bool true]) (by simp [results, Tryz.results56, go_sem, f0, f1, f2, f3]) rfl ?_
      rw [HE.out]
      refine ⟨rfl, ?_⟩
      iterate 4 refine Below.setCell ?_ (by simp) _
      exact HB.out
end Go.Proofs.YteekkccgdkmjoaaGreat
