/-
  FILES: WriteLine of the model. By gen_f12.py.
-/
import Derived.Test.YtoiagfdhanhnkaaF11
namespace Go.Proofs.Ytoiagfdhanhnkaa
open Go.RowKit Nm
set_option linter.unusedSimpArgs false
set_option linter.unusedVariables false

theorem fil_fit1 {L : StrssD} (h1 : L.length ≤ 1000) (h : ∀ l ∈ L, l.length ≤ 1000 ∧ ∀ t ∈ l, t.length ≤ maxTxt) : StrssFit L :=
  ⟨by unfold maxTxt; omega, fun l hl => ⟨by have := (h l hl).1; unfold maxTxt; omega, (h l hl).2⟩⟩
theorem base_ok {d : Fil} {x : List UInt8} (hz : filOk d = true) : filOk (baseF d x) = true := by
  unfold baseF
  split
  · rename_i h
    unfold fullB at h
    simp only [Bool.and_eq_true, decide_eq_true_eq] at h
    exact fil_roll hz (by omega)
  · exact hz
theorem write_fit {d : Fil} {x : List UInt8} (hz : filOk d = true) (hx : x.length ≤ maxTxt) : FilFit (writeF d x) := by
  have h0 := base_ok (x := x) hz
  have h1 := fil_small h0
  have h3 := fil_fit h0
  have hpt := fil_parts h0
  show StrssFit (putL x (baseF d x).li)
  generalize hL : (baseF d x).li = L at *
  have h3' : StrssFit L := by rw [← hL]; exact h3
  cases L with
  | nil => have := hpt.2.2.2.2.2.1; simp at this
  | cons a t =>
    refine fil_fit1 ?_ ?_
    · have := h1.1; simp [putL] at this ⊢; omega
    · intro l hl
      simp only [putL, List.mem_cons, headL, List.headD_cons, List.tail_cons] at hl
      rcases hl with rfl | hl
      · refine ⟨by have := h1.2 a (by simp); rw [List.length_append]; simp; omega, fun t' ht => ?_⟩
        rcases List.mem_append.1 ht with ht | ht
        · exact (h3'.2 a (by simp)).2 t' ht
        · rw [List.mem_singleton.1 ht]; exact hx
      · exact ⟨by have := h1.2 l (by simp [hl]); omega, (h3'.2 l (by simp [hl])).2⟩

set_option maxHeartbeats 8000000 in
set_option maxRecDepth 100000 in
theorem specWriteLine_c {v : Value} {B : Nat} {d : Fil} {w : World} (x : ByteArray) (hx : x.size ≤ 1048576) (h : FilIn w B v d) (hB : B ≤ w.heap.size) :
    Calls Try.prog 19 #[v, .string x] w (FilPostO w (filOr (writeX d x.data.toList)) (writeX d x.data.toList).isSome) := by
  obtain ⟨A, n, c, hv⟩ := h.form
  have C1 := hid (fun (w1 : World) (hb : Below w.heap.size w w1) => specValidFiles0_c (h.below hb hB) (Nat.le_trans hB hb.size))
  have C2 := hid (fun (w1 : World) => validLine_c x w1 (by unfold maxLen; omega))
  have C3 := hid (fun (hz : filOk d = true) (w1 : World) (hb : Below w.heap.size w w1) => specWrite_c x hx (h.below hb hB) (Nat.le_trans hB hb.size) hz)
  have HWF := hid (fun (hz : filOk d = true) => write_fit (x := x.data.toList) hz (by rw [← Lib.size_eq]; exact hx))
  have C4 := hid (fun (w1 : World) (v1 : Value) (h1 : FilIn w1 w1.heap.size v1 (writeF d x.data.toList)) => specValidFiles0_c h1 (Nat.le_refl _))
  have HX := hid (show writeX d x.data.toList = if filOk d && lineOk x.data.toList && filOk (writeF d x.data.toList) then some (writeF d x.data.toList) else none from rfl)
  generalize writeX d x.data.toList = X at *
  generalize hwf : writeF d x.data.toList = F at *
  have hwm : F.mo = d.mo := by rw [← hwf]; rfl
  have hwk : F.ke = d.ke := by rw [← hwf]; rfl
  clear h hwf
  obtain ⟨mo, ke, L⟩ := d
  obtain ⟨fm, fk, fl⟩ := F
  obtain rfl : fm = mo := hwm
  obtain rfl : fk = ke := hwk
  subst hv
  show Calls Try.prog 19 #[.agg #[.int .i64 fm, .int .i64 fk, .slice A n c], .string x] w _
  have HR2 := hid (two_boxes w fm fk A n c)
  have HB2 := hid (two_below w fm fk A n c)
  have hbr : w.heap.size ≤ w.heap.size + 1 := by omega
  cases hz : filOk ⟨fm, fk, L⟩ with
  | false =>
    rw [hz] at C1 HX
    obtain rfl : X = none := HX.out
    clear C2 C3 C4 HX hz HWF
    go_enter Try.func19, Try.ntmps19
    go_wp2_with fail
    refine (C1.out _ HB2.out).mono ?_
    rintro e w1 ⟨rfl, hb⟩
    replace HR2 := hid (HR2.out.below hb)
    replace HB2 := hid (HB2.out.trans (hb.mono HB2.out.size))
    clear hb C1
    obtain ⟨r0, x0, _⟩ := Rows.bcell2 (pre := []) (q := 0) HR2.out rfl
    obtain ⟨r1, x1, _⟩ := Rows.bcell2 (pre := []) (q := 1) HR2.out rfl
    obtain ⟨r2, x2, _⟩ := Rows.bcell2 (pre := []) (q := 2) HR2.out rfl
    go_wp2_with fail
    have Y2 := Rows.boxset (pre := []) (j := 0) (u := .int .i64 0) HR2.out
    have Y3 := Rows.boxset (pre := []) (j := 1) (u := .int .i64 0) Y2
    have Y4 := Rows.boxset (pre := []) (j := 2) (u := .slice none 0 0) Y3
    have f0 := (Rows.bcell2 (pre := []) (q := 0) Y4 rfl).1
    have f1 := (Rows.bcell2 (pre := []) (q := 1) Y4 rfl).1
    have f2 := (Rows.bcell2 (pre := []) (q := 2) Y4 rfl).1
    refine bodyPost_ret (v := .tuple #[.agg #[.int .i64 0, .int .i64 0, .slice none 0 0], .bool false]) (by simp [results, Try.results19, go_sem, f0, f1, f2]) rfl ?_
    obtain ⟨rs, h1, h2⟩ := zero_fil
    exact ⟨_, rs, rfl, h1, h2, ((HB2.out.setCell (p := ⟨w.heap.size + 1, 0, none⟩) hbr (.int .i64 0)).setCell (p := ⟨w.heap.size + 1, 1, none⟩) hbr (.int .i64 0)).setCell (p := ⟨w.heap.size + 1, 2, none⟩) hbr (.slice none 0 0)⟩
  | true =>
    rw [hz] at C1 HX
    replace C3 := hid (C3.out hz)
    replace HWF := hid (HWF.out hz)
    clear hz
    cases hq : lineOk x.data.toList with
    | false =>
      rw [hq] at C2 HX
      obtain rfl : X = none := HX.out
      clear C3 C4 HX hq HWF
      go_enter Try.func19, Try.ntmps19
      go_wp2_with fail
      refine (C1.out _ HB2.out).mono ?_
      rintro e w1 ⟨rfl, hb⟩
      replace HR2 := hid (HR2.out.below hb)
      replace HB2 := hid (HB2.out.trans (hb.mono HB2.out.size))
      clear hb C1
      obtain ⟨r0, x0, _⟩ := Rows.bcell2 (pre := []) (q := 0) HR2.out rfl
      obtain ⟨r1, x1, _⟩ := Rows.bcell2 (pre := []) (q := 1) HR2.out rfl
      obtain ⟨r2, x2, _⟩ := Rows.bcell2 (pre := []) (q := 2) HR2.out rfl
      go_wp2_with (go_at_call 53; refine (C2.out _).mono ?_; rintro e w' ⟨rfl, rfl⟩)
      have Y2 := Rows.boxset (pre := []) (j := 0) (u := .int .i64 0) HR2.out
      have Y3 := Rows.boxset (pre := []) (j := 1) (u := .int .i64 0) Y2
      have Y4 := Rows.boxset (pre := []) (j := 2) (u := .slice none 0 0) Y3
      have f0 := (Rows.bcell2 (pre := []) (q := 0) Y4 rfl).1
      have f1 := (Rows.bcell2 (pre := []) (q := 1) Y4 rfl).1
      have f2 := (Rows.bcell2 (pre := []) (q := 2) Y4 rfl).1
      refine bodyPost_ret (v := .tuple #[.agg #[.int .i64 0, .int .i64 0, .slice none 0 0], .bool false]) (by simp [results, Try.results19, go_sem, f0, f1, f2]) rfl ?_
      obtain ⟨rs, h1, h2⟩ := zero_fil
      exact ⟨_, rs, rfl, h1, h2, ((HB2.out.setCell (p := ⟨w.heap.size + 1, 0, none⟩) hbr (.int .i64 0)).setCell (p := ⟨w.heap.size + 1, 1, none⟩) hbr (.int .i64 0)).setCell (p := ⟨w.heap.size + 1, 2, none⟩) hbr (.slice none 0 0)⟩
    | true =>
      rw [hq] at C2 HX
      clear hq
      go_enter Try.func19, Try.ntmps19
      go_wp2_with fail
      refine (C1.out _ HB2.out).mono ?_
      rintro e w1 ⟨rfl, hb⟩
      replace HR2 := hid (HR2.out.below hb)
      replace HB2 := hid (HB2.out.trans (hb.mono HB2.out.size))
      clear hb C1
      have p0 := (Rows.bc HR2.out.right 0 rfl).1
      have p1 := (Rows.bc HR2.out.right 1 rfl).1
      have p2 := (Rows.bc HR2.out.right 2 rfl).1
      go_wp2_with (go_at_call 53; refine (C2.out _).mono ?_; rintro e w' ⟨rfl, rfl⟩)
      refine (C3.out _ HB2.out).mono ?_
      rintro e w2 ⟨u2, rs2, rfl, hs2, hr2, hb2⟩
      obtain ⟨A2, n2, c2, rfl⟩ := hs2.form hr2
      have HR3 := HR2.out.newer hb2 hr2 HB2.out.size
      have HB3 := HB2.out.trans (hb2.mono HB2.out.size)
      have HR4 := hid (HR3.bx HB3.size #[.int .i64 fm, .int .i64 fk, .slice A2 n2 c2] 26 3 rfl)
      have HB4 := hid (HB3.alloc HB3.size (.cells #[.int .i64 fm, .int .i64 fk, .slice A2 n2 c2] 26))
      have HS2 := hid hs2
      have hsz := HB3.size
      clear hs2 hr2 hb2 HR3 HB3 HR2 HB2 p0 p1 p2
      go_wp2_with fail
      generalize w2.alloc (.cells #[.int .i64 fm, .int .i64 fk, .slice A2 n2 c2] 26) = w3 at *
      generalize w2.heap.size = bo at *
      refine (C4.out _ _ (FilR.at_ HS2.out HR4.out.right.left HWF.out)).mono ?_
      rintro e w4 ⟨rfl, hb⟩
      have HR5 := hid ((HR4.out.below hb).perm (List.Perm.append_left _ (List.perm_append_comm_assoc _ _ _)))
      have HB5 := hid (HB4.out.trans (hb.mono HB4.out.size))
      clear hb HR4 HB4 C2 C3 C4
      cases hf : filOk ⟨fm, fk, fl⟩ with
      | false =>
        rw [hf] at HX
        obtain rfl : X = none := HX.out
        have HZZ := hid HX.out
        clear HX hf
        obtain ⟨r0, x0, _⟩ := Rows.bcell2 (pre := [_]) (q := 0) HR5.out rfl
        obtain ⟨r1, x1, _⟩ := Rows.bcell2 (pre := [_]) (q := 1) HR5.out rfl
        obtain ⟨r2, x2, _⟩ := Rows.bcell2 (pre := [_]) (q := 2) HR5.out rfl
        go_wp2_with fail
        have Y2 := Rows.boxset (pre := [_]) (j := 0) (u := .int .i64 0) HR5.out
        have Y3 := Rows.boxset (pre := [_]) (j := 1) (u := .int .i64 0) Y2
        have Y4 := Rows.boxset (pre := [_]) (j := 2) (u := .slice none 0 0) Y3
        have f0 := (Rows.bcell2 (pre := [_]) (q := 0) Y4 rfl).1
        have f1 := (Rows.bcell2 (pre := [_]) (q := 1) Y4 rfl).1
        have f2 := (Rows.bcell2 (pre := [_]) (q := 2) Y4 rfl).1
        refine bodyPost_ret (v := .tuple #[.agg #[.int .i64 0, .int .i64 0, .slice none 0 0], .bool false]) (by simp [results, Try.results19, go_sem, f0, f1, f2]) rfl ?_
        obtain ⟨rs, h1, h2⟩ := zero_fil
        exact ⟨_, rs, rfl, h1, h2, ((HB5.out.setCell (p := ⟨w.heap.size + 1, 0, none⟩) hbr (.int .i64 0)).setCell (p := ⟨w.heap.size + 1, 1, none⟩) hbr (.int .i64 0)).setCell (p := ⟨w.heap.size + 1, 2, none⟩) hbr (.slice none 0 0)⟩
      | true =>
        rw [hf] at HX
        obtain rfl : X = some ⟨fm, fk, fl⟩ := HX.out
        clear HX hf
        obtain ⟨o0, _, _⟩ := Rows.bcell2 (pre := []) (q := 0) HR5.out rfl
        obtain ⟨o1, _, _⟩ := Rows.bcell2 (pre := []) (q := 1) HR5.out rfl
        obtain ⟨o2, _, _⟩ := Rows.bcell2 (pre := []) (q := 2) HR5.out rfl
        obtain ⟨r0, x0, _⟩ := Rows.bcell2 (pre := [_]) (q := 0) HR5.out rfl
        obtain ⟨r1, x1, _⟩ := Rows.bcell2 (pre := [_]) (q := 1) HR5.out rfl
        obtain ⟨r2, x2, _⟩ := Rows.bcell2 (pre := [_]) (q := 2) HR5.out rfl
        go_wp2_with fail
        have Y2 := Rows.boxset (pre := [_]) (j := 0) (u := .int .i64 fm) HR5.out
        have Y3 := Rows.boxset (pre := [_]) (j := 1) (u := .int .i64 fk) Y2
        have Y4 := Rows.boxset (pre := [_]) (j := 2) (u := .slice A2 n2 c2) Y3
        have f0 := (Rows.bcell2 (pre := [_]) (q := 0) Y4 rfl).1
        have f1 := (Rows.bcell2 (pre := [_]) (q := 1) Y4 rfl).1
        have f2 := (Rows.bcell2 (pre := [_]) (q := 2) Y4 rfl).1
        refine bodyPost_ret (v := .tuple #[.agg #[.int .i64 fm, .int .i64 fk, .slice A2 n2 c2], .bool true]) (by simp [results, Try.results19, go_sem, f0, f1, f2]) rfl ?_
        exact ⟨_, rs2, rfl, HS2.out, (Rows.right Y4).left, ((HB5.out.setCell (p := ⟨w.heap.size + 1, 0, none⟩) hbr (.int .i64 fm)).setCell (p := ⟨w.heap.size + 1, 1, none⟩) hbr (.int .i64 fk)).setCell (p := ⟨w.heap.size + 1, 2, none⟩) hbr (.slice A2 n2 c2)⟩
end Go.Proofs.Ytoiagfdhanhnkaa
