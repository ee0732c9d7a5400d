/-
  WALK: the law FnWriteLine. By gen_fil.py.
-/
import Derived.Test.YtoiagfdhanhnkaaLDRollFiles
import Derived.Test.YtoiagfdhanhnkaaLDFindLine
import Derived.Test.YtoiagfdhanhnkaaF16
namespace Go.Proofs.Ytoiagfdhanhnkaa
open Go.RowKit Nm
set_option linter.unusedSimpArgs false
set_option linter.unusedVariables false
theorem fil_ne {d : Fil} (h : filOk d = true) : ∃ l0 lt, d.li = l0 :: lt := by
  have hl := (fil_parts h).2.2.2.2.2.1
  cases hd : d.li with
  | nil => rw [hd] at hl; simp at hl
  | cons a t => exact ⟨a, t, rfl⟩
theorem base_ends {d : Fil} {x : List UInt8} (h : filOk d = true) : endsL (allL d.li) (allL (baseF d x).li) = true := by
  unfold baseF
  split
  · rename_i hf
    unfold fullB at hf
    simp only [Bool.and_eq_true, decide_eq_true_eq] at hf
    have h9 := roll_ends h
    have e : rollX d = rollF d := by unfold rollX; rw [h, if_pos rfl, if_neg (by omega)]
    rwa [e] at h9
  · exact ends_app [] (allL d.li)
theorem write_facts {d E : Fil} {x : List UInt8} (h : writeX d x = some E) : filOk d = true ∧ filOk E = true ∧ E.mo = d.mo ∧ E.ke = d.ke ∧ ∃ l0 lt, E.li = (l0 ++ [x]) :: lt ∧ (baseF d x).li = l0 :: lt ∧ endsL (allL d.li) (allL (l0 :: lt)) = true := by
  obtain ⟨h1, h2, h3, rfl⟩ := write_ok h
  obtain ⟨l0, lt, hb⟩ := fil_ne (base_ok (x := x) h1)
  refine ⟨h1, h3, rfl, rfl, l0, lt, ?_, hb, ?_⟩
  · show putL x (baseF d x).li = _; rw [hb]; rfl
  · have h9 := base_ends (x := x) h1; rwa [hb] at h9
theorem allL_put (l0 : TxtL) (x : List UInt8) (lt : StrssD) : allL ((l0 ++ [x]) :: lt) = allL (l0 :: lt) ++ [x] := by simp [allL]
theorem find_put {E : Fil} {l0 : TxtL} {x : List UInt8} {lt : StrssD} (h : filOk E = true) (hl : E.li = (l0 ++ [x]) :: lt) : findX E x = some (0, l0.length) := by
  unfold findX
  rw [h, if_pos rfl, hl, findAt, List.length_append]
  have : lastAt x (l0 ++ [x]) (l0.length + 1) = some l0.length := by unfold lastAt; rw [if_pos (by simp)]
  show (match lastAt x (l0 ++ [x]) (l0.length + 1) with | some k => some (0, k) | none => findAt x (0 + 1) lt) = _
  rw [this]
theorem size_put {E : Fil} {l : TxtL} {lt : StrssD} (h : filOk E = true) (hl : E.li = l :: lt) (h1 : ¬ l.length = 1) (h0 : 0 < l.length) : sizeX l ≤ E.mo := by
  have hi := items_at (fil_parts h).1 (show E.li[0]? = some l by rw [hl]; rfl)
  rw [sizeX_ok (item_lines hi)]
  unfold itemOk at hi
  simp only [Bool.and_eq_true, Bool.not_eq_true', Bool.and_eq_false_iff, decide_eq_false_iff_not] at hi
  rcases hi.2.1 with h2 | h2
  · omega
  · omega
set_option maxHeartbeats 16000000 in
set_option maxRecDepth 100000 in
theorem walk_FnWriteLine (a0 : Option Addr) (len0 cap0 : Nat) (z0 : List Int) (w : World) (w0 : IsRow .u8 w a0 len0 cap0 z0) :
    Calls Try.prog 10 #[.slice a0 len0 cap0] w (BoolPost w true) := by
  have hb0 := w0.leF
  by_cases h1 : (1048576 : Int) < (len0 : Int)
  · go_enter Try.func10, Try.ntmps10
    go_wp2_with fail
    go_ret
    exact ⟨rfl, Below.refl _ _⟩
  have DR := hid (drawWriteLine_c a0 len0 cap0 z0 w w0)
  clear w0
  go_enter Try.func10, Try.ntmps10
  go_wp2_with fail
  refine DR.out.mono ?_
  rintro e w1 ⟨v, rs, d, x, rfl, hs, hsm, hx45, hr, hb⟩
  obtain ⟨A, n, c, rfl⟩ := hs.form hr
  obtain ⟨mo, ke, L⟩ := d
  have hs' : FilR rs (.agg #[.int .i64 mo, .int .i64 ke, .slice A n c]) ⟨mo, ke, L⟩ := hs
  have HS := hid hs'
  have HSM := hid hsm
  have HF := hid (sm_fit hsm)
  have HB := hid (hb.alloc hb.size (.cells #[.int .i64 mo, .int .i64 ke, .slice A n c] 26))
  have HR := hid (hr.bx hb.size #[.int .i64 mo, .int .i64 ke, .slice A n c] 26 3 rfl)
  have hwb : w.heap.size ≤ w1.heap.size := hb.size
  have hxm : x.size ≤ maxLen := by unfold maxLen; omega
  clear hs hs' hsm hr hb DR
  have hx2 : x.size ≤ 1048576 := by omega
  have CI := hid (fun (W : World) (v : Value) (h : FilIn W W.heap.size v ⟨mo, ke, L⟩) => implWriteLine_c x hx2 h (Nat.le_refl _))
  have CS := hid (fun (W : World) (v : Value) (h : FilIn W W.heap.size v ⟨mo, ke, L⟩) => specWriteLine_c x hx2 h (Nat.le_refl _))
  have HFit := hid (writeX_fit (d := ⟨mo, ke, L⟩) (x := x.data.toList))
  have HFa := hid (fun (hb : (writeX ⟨mo, ke, L⟩ x.data.toList).isSome = true) => write_facts (d := ⟨mo, ke, L⟩) (E := filOr (writeX ⟨mo, ke, L⟩ x.data.toList)) (x := x.data.toList) (by cases hX : writeX ⟨mo, ke, L⟩ x.data.toList with | none => (rw [hX] at hb; cases hb) | some e => rfl))
  have HLe := hid (show (filOr (writeX ⟨mo, ke, L⟩ x.data.toList)).li.length ≤ 1000 by cases hX : writeX ⟨mo, ke, L⟩ x.data.toList with | none => (show ([] : StrssD).length ≤ 1000; simp) | some e => (have := (fil_small (write_ok hX).2.2.1).1; show e.li.length ≤ 1000; omega))
  generalize filOr (writeX ⟨mo, ke, L⟩ x.data.toList) = E at *
  generalize (writeX ⟨mo, ke, L⟩ x.data.toList).isSome = b at *
  have hbf0 : w1.heap.size < (w1.alloc (.cells #[.int .i64 mo, .int .i64 ke, .slice A n c] 26)).heap.size := by simp
  have f0 := (Rows.bc HR.out.left 0 rfl).1
  have f1 := (Rows.bc HR.out.left 1 rfl).1
  have f2 := (Rows.bc HR.out.left 2 rfl).1
  go_wp2_with fail
  refine (CI.out _ _ (FilR.at_ HS.out HR.out.right HF.out)).mono ?_
  rintro e wn ⟨u, rsu, rfl, hs9, hr9, hb⟩
  obtain ⟨Au, nu, cu, rfl⟩ := hs9.form hr9
  obtain ⟨xm, xk, xl⟩ := E
  have Su2 : Hid (FilR rsu (.agg #[.int .i64 xm, .int .i64 xk, .slice Au nu cu]) ⟨xm, xk, xl⟩) := hs9
  replace HR := hid (HR.out.newer hb hr9 HB.out.size)
  replace HB := hid (HB.out.trans (hb.mono HB.out.size))
  clear hb hs9 hr9 f0 f1 f2 hbf0
  have HRb : Hid (Rows (wn.alloc (.cells #[.int .i64 xm, .int .i64 xk, .slice Au nu cu] 26)) w.heap.size _) := hid (HR.out.bx HB.out.size #[.int .i64 xm, .int .i64 xk, .slice Au nu cu] 26 3 rfl)
  have HBb := hid (HB.out.alloc HB.out.size (.cells #[.int .i64 xm, .int .i64 xk, .slice Au nu cu] 26))
  have o0 := (Rows.bc HRb.out.left 0 rfl).1
  have o1 := (Rows.bc HRb.out.left 1 rfl).1
  have o2 := (Rows.bc HRb.out.left 2 rfl).1
  have f0 := (Rows.bc HRb.out.right.right.left 0 rfl).1
  have f1 := (Rows.bc HRb.out.right.right.left 1 rfl).1
  have f2 := (Rows.bc HRb.out.right.right.left 2 rfl).1
  have g0 := (Rows.bc HR.out.right.left 0 rfl).1
  have g1 := (Rows.bc HR.out.right.left 1 rfl).1
  have g2 := (Rows.bc HR.out.right.left 2 rfl).1
  have hbf : w1.heap.size < wn.heap.size := (Rows.bc HR.out.right.left 0 rfl).2
  clear HR HB
  go_wp2_with fail
  generalize wn.alloc (.cells #[.int .i64 xm, .int .i64 xk, .slice Au nu cu] 26) = w3 at *
  generalize hbx : wn.heap.size = bx at *
  clear g0 g1 g2
  have hbl1 : w1.heap.size < w3.heap.size := (Rows.bc HRb.out.right.right.left 0 rfl).2
  have hbl2 : bx < w3.heap.size := (Rows.bc HRb.out.left 0 rfl).2
  have HO := hid (And.intro o0 (And.intro o1 (And.intro o2 (And.intro f0 (And.intro f1 f2)))))
  have far : ∀ (W : World), Below w3.heap.size w3 W → W.cell? ⟨bx, 0, none⟩ = some (.int .i64 xm) ∧ W.cell? ⟨bx, 1, none⟩ = some (.int .i64 xk) ∧ W.cell? ⟨bx, 2, none⟩ = some (.slice Au nu cu) ∧ W.cell? ⟨w1.heap.size, 0, none⟩ = some (.int .i64 mo) ∧ W.cell? ⟨w1.heap.size, 1, none⟩ = some (.int .i64 ke) ∧ W.cell? ⟨w1.heap.size, 2, none⟩ = some (.slice A n c) := fun W hW => ⟨(hW.cell (p := ⟨bx, 0, none⟩) hbl2).trans HO.out.1, (hW.cell (p := ⟨bx, 1, none⟩) hbl2).trans HO.out.2.1, (hW.cell (p := ⟨bx, 2, none⟩) hbl2).trans HO.out.2.2.1, (hW.cell (p := ⟨w1.heap.size, 0, none⟩) hbl1).trans HO.out.2.2.2.1, (hW.cell (p := ⟨w1.heap.size, 1, none⟩) hbl1).trans HO.out.2.2.2.2.1, (hW.cell (p := ⟨w1.heap.size, 2, none⟩) hbl1).trans HO.out.2.2.2.2.2⟩
  replace far := hid far
  clear hbl1 HO CI
  refine (CS.out _ _ (FilR.at_ HS.out HRb.out.right.right.right HF.out)).mono ?_
  rintro e wy ⟨y, rsy, rfl, hsy, hry, hb⟩
  obtain ⟨Ay, ny, cy, rfl⟩ := hsy.form hry
  have Sy : Hid (FilR rsy (.agg #[.int .i64 xm, .int .i64 xk, .slice Ay ny cy]) ⟨xm, xk, xl⟩) := hsy
  have hqy : Below w3.heap.size w3 (wy.alloc (.cells #[.int .i64 xm, .int .i64 xk, .slice Ay ny cy] 26)) := hb.alloc hb.size _
  have HRy := hid (hry.below ((Below.refl wy.heap.size wy).alloc (Nat.le_refl _) (.cells #[.int .i64 xm, .int .i64 xk, .slice Ay ny cy] 26)))
  have KY := Blk.new wy #[.int .i64 xm, .int .i64 xk, .slice Ay ny cy] 26
  have hqyy : Below w3.heap.size w3 wy := hb
  have hoo := far.out _ hqyy
  obtain ⟨o0, o1, o2, f0, f1, f2⟩ := hoo
  have hbyx : bx < wy.heap.size := Nat.lt_of_lt_of_le hbl2 hb.size
  clear hsy hry hb
  have HQY := hid hqy
  have HKY := hid KY
  clear hqy hqyy KY
  go_wp2_with fail
  generalize wy.alloc (.cells #[.int .i64 xm, .int .i64 xk, .slice Ay ny cy] 26) = w4 at *
  generalize hby : wy.heap.size = byy at *
  have hF4 := far.out _ HQY.out
  have y0 := (HKY.out.2 0 _ rfl).1
  have y1 := (HKY.out.2 1 _ rfl).1
  have y2 := (HKY.out.2 2 _ rfl).1
  have hbyl : byy < w4.heap.size := HKY.out.1
  have CE := hid (equalFiles_c (FilR.at_ Su2.out (HRb.out.right.left.below HQY.out) HFit.out) (FilR.at_ Sy.out HRy.out HFit.out) HLe.out)
  refine CE.out.mono ?_
  rintro e wz ⟨rfl, hbz⟩
  have hqz := hid (HQY.out.trans (hbz.mono HQY.out.size))
  have hF5 := far.out _ hqz.out
  have yy0 := (hbz.cell (p := ⟨byy, 0, none⟩) hbyl).trans y0
  have yy1 := (hbz.cell (p := ⟨byy, 1, none⟩) hbyl).trans y1
  have yy2 := (hbz.cell (p := ⟨byy, 2, none⟩) hbyl).trans y2
  have HRy2 := hid (HRy.out.below hbz)
  clear o0 o1 o2 f0 f1 f2 y0 y1 y2 hF4 CE hbz HRy
  obtain ⟨o0, o1, o2, f0, f1, f2⟩ := hF5
  cases b with
  | false =>
    have CE := hid (equalFiles_c (FilR.at_ Su2.out (HRb.out.right.left.below hqz.out) HFit.out) (FilR.at_ Sy.out HRy2.out HFit.out) HLe.out)
    clear HFa
    go_wp2_with fail
    refine CE.out.mono ?_
    rintro e wq ⟨rfl, hb⟩
    have HBz := hid (HBb.out.trans ((hqz.out.trans (hb.mono hqz.out.size)).mono HBb.out.size))
    clear hb
    go_wp2_with fail
    go_ret
    exact ⟨rfl, HBz.out⟩
  | true =>
    obtain ⟨hz, hE, hmo, hke, l0, lt, hli, hbli, hen⟩ := HFa.out rfl
    obtain rfl : xm = mo := hmo
    obtain rfl : xk = ke := hke
    have hli' : xl = (l0 ++ [x.data.toList]) :: lt := hli
    have hAf : allX ⟨xm, xk, L⟩ = allL L := by unfold allX; rw [hz]; rfl
    have hAx : allX ⟨xm, xk, xl⟩ = allL (l0 :: lt) ++ [x.data.toList] := by unfold allX; rw [hE]; show allL xl = _; rw [hli', allL_put]
    have hFi := find_put hE hli
    have CAf := hid (fun (W : World) (hW : Below w3.heap.size w3 W) => implAllLines_c (FilR.at_ HS.out (HRb.out.right.right.right.below hW) HF.out) (Nat.le_refl _))
    have CAx := implAllLines_c (FilR.at_ Su2.out (HRb.out.right.left.below hqz.out) HFit.out) (Nat.le_refl _)
    rw [hAf] at CAf
    rw [hAx] at CAx
    have hF1 : StrsFit (allL L) := by have h9 := allX_fit (d := ⟨xm, xk, L⟩); rwa [hAf] at h9
    have hF2 : StrsFit (allL (l0 :: lt) ++ [x.data.toList]) := by have h9 := allX_fit (d := ⟨xm, xk, xl⟩); rwa [hAx] at h9
    have hl1 : (allL L).length ≤ 1000 := by have := allL_len L 12 (fil_small hz).2; have h4 : L.length ≤ 4 := (fil_small hz).1; omega
    have hl2 : (allL (l0 :: lt) ++ [x.data.toList]).length ≤ 60 := by have h8 := allL_len xl 12 (fil_small hE).2; have h4 : xl.length ≤ 4 := (fil_small hE).1; rw [hli', allL_put] at h8; rw [hli'] at h4; simp only [List.length_cons] at h8 h4; omega
    have hl3 : (allL (l0 :: lt)).length ≤ 1000 := by rw [List.length_append] at hl2; omega
    have HZ := hid (And.intro hen (And.intro hF1 (And.intro hF2 (And.intro hl1 hl3))))
    replace CAx := hid CAx
    go_wp2_with fail
    refine CAx.out.mono ?_
    rintro e wa ⟨ya, rsa, rfl, hsa, hra, hb⟩
    obtain ⟨Aa, na, ca, rfl⟩ := hsa.form hra
    have hqa := hid (hqz.out.trans (hb.mono hqz.out.size))
    have HSA := hid hsa
    have HRA := hid hra
    clear hsa hra hb o0 o1 o2 f0 f1 f2 CAx yy0 yy1 yy2
    obtain ⟨o0, o1, o2, f0, f1, f2⟩ := far.out _ hqa.out
    have CFi := hid (show Calls Try.prog 36 #[.agg #[.int .i64 xm, .int .i64 xk, .slice Au nu cu], .string x] wa (fun e w2 => e = .returned (.tuple #[.int .i64 0, .int .i64 (l0.length : Int), .bool true]) ∧ Below wa.heap.size wa w2) from by
      have h9 := implFindLine_c x (FilR.at_ Su2.out (HRb.out.right.left.below hqa.out) HFit.out) (Nat.le_refl _) hxm
      rw [hFi] at h9
      exact h9)
    have hna : na = (allL (l0 :: lt)).length + 1 := by obtain ⟨_, _, e8, _, _⟩ := (StrsR.at_ HSA.out HRA.out hF2).1.form; injection e8 with a1 a2 a3; rw [a2]; simp
    have hca0 : na ≤ ca ∧ ca ≤ maxLen := by obtain ⟨_, _, e8, h5, h6⟩ := (StrsR.at_ HSA.out HRA.out hF2).1.form; injection e8 with a1 a2 a3; subst a3; exact ⟨by rw [a2]; exact h5, h6⟩
    obtain ⟨hca, hcm⟩ := hca0
    unfold maxLen at hcm
    have hna60 : na ≤ 60 := by rw [List.length_append] at hl2; simp at hl2; omega
    have s9 : (0 : Int) < (na : Int) := by omega
    go_wp2_with fail
    refine CFi.out.mono ?_
    rintro e wb ⟨rfl, hb⟩
    have hqb := hid (hqa.out.trans (hb.mono hqa.out.size))
    have HRB := hid (HRA.out.below hb)
    clear hb CFi o0 o1 o2 f0 f1 f2 HRA
    generalize hm : (allL (l0 :: lt)).length = m at *
    have HM0 := hid hm
    have hfull := StrsR.at_ HSA.out HRB.out hF2
    have hfs : Sl wb wb.heap.size 1 na (.slice Aa na ca) ((allL (l0 :: lt) ++ [x.data.toList]).map txt) := by have h9 := hfull.1; rw [List.length_append, hm, show m + [x.data.toList].length = na by simp; omega] at h9; exact h9
    obtain ⟨b3, o3, px, rfl, hb3w, hpx, g0⟩ := hfs.text (k := m) (by omega)
    have hpx2 : px = x := by
      rw [List.getElem?_append_right (by omega), hm, Nat.sub_self] at hpx
      exact ((bytes_eq_iff _ _).1 (Option.some.inj hpx)).symm
    have hcut := hid (fun (W : World) (hW : Below wb.heap.size wb W) => (show StrsIn W W.heap.size (.slice (some ⟨b3, o3, none⟩) m ca) (allL (l0 :: lt)) from by
      have h9 := (hfs.cut (k := m) (by omega))
      rw [← List.map_take, List.take_append_of_le_length (by omega), List.take_of_length_le (by omega)] at h9
      refine ⟨by rw [hm]; exact (h9.below hW (Nat.le_refl _)).more hW.size, ?_⟩
      exact ⟨by unfold maxTxt; omega, fun t ht => hF2.2 t (by simp [ht])⟩))
    obtain ⟨u0, hu0, hin2⟩ := FilR.at_ Su2.out (HRb.out.right.left.below hqb.out) HFit.out
    have hu2 : u0 = .slice Au nu cu := by simp at hu0; exact hu0.symm
    subst hu2
    have hln : xl.length = nu := NestIn.count hin2.1
    obtain ⟨b4, o4, u4, l4, rfl, hb4w, hx4, d0, hin4⟩ := StrssIn.elem (k := 0) hin2 (by rw [← hln, hli']; simp)
    have hl4 : l4 = l0 ++ [x.data.toList] := by rw [hli'] at hx4; exact (Option.some.inj hx4).symm
    obtain ⟨A4, c4, rfl, hk4, hm4⟩ := hin4.1.form
    unfold maxLen at hm4
    rw [Nat.add_zero] at d0
    have hnu0 : 0 < nu := by rw [← hln, hli']; simp
    have hl412 : l4.length ≤ 12 := (fil_small hE).2 l4 (List.mem_of_getElem? (show xl[0]? = some l4 from hx4))
    have hl41 : 1 ≤ l4.length := by rw [hl4]; simp
    have CSz := hid (fun (W : World) (hW : Below wb.heap.size wb W) => implSizeOf_c (hin4.below hW (Nat.le_refl _)) hW.size)
    have hszp : ¬ l4.length = 1 → sizeX l4 ≤ xm := fun h9 => by have := size_put (l := l4) (lt := lt) hE (by rw [hl4]; exact hli) h9 (by omega); exact this
    generalize sizeX l4 = sz at *
    generalize l4.length = n4 at *
    have fr : ∀ (W : World), Below wb.heap.size wb W → Below w3.heap.size w3 W := fun W hW => hqb.out.trans (hW.mono hqb.out.size)
    obtain ⟨o0, o1, o2, f0, f1, f2⟩ := far.out _ hqb.out
    have s0 : (na : Int) - 1 = (m : Int) := by omega
    have s1 : IntKind.i64.wrap ((na : Int) - 1) = (m : Int) := by rw [IntKind.wrap_i64] <;> omega
    have s2 : (0 : Int) ≤ (m : Int) := by omega
    have s3 : ((m : Int)).toNat = m := by omega
    have s4 : (m : Int) ≤ (ca : Int) := by omega
    have s5 : (m : Int) ≤ (na : Int) := by omega
    have s6 : m ≤ ca := by omega
    have s7 : m < na := by omega
    have s8 : (m : Int) < (na : Int) := by omega
    have s10 : decide (0 < na) = true := decide_eq_true (by omega)
    have s11 : IntKind.i64.wrap (m : Int) = (m : Int) := by rw [IntKind.wrap_i64] <;> omega
    have s12 : (m : Int) < (m : Int) + 1 := by omega
    have s13 : (m : Int) ≤ (m : Int) + 1 := by omega
    have s14 : (m : Int) + 1 ≤ (ca : Int) := by omega
    subst hpx2
    have e5 : (px.toList == px.toList) = true := by simp
    clear hz hE hli hli' hbli hen hAf hAx hFi hF1 hF2 hl1 hl2 hl3 hm hfull hfs hpx hu0 hin2 hln hx4 hl4 hin4 hna
    by_cases h41 : n4 = 1
    · have q1 : ((n4 : Int) == 1) = true := by simp [h41]
      replace h41 := hid h41
      clear hszp CSz
      go_wp2_with fail
      refine wp_region_held_drew (S := (fun w' : World => (w'.cell? ⟨bx, 0, none⟩ = some (.int .i64 xm) ∧ w'.cell? ⟨bx, 1, none⟩ = some (.int .i64 xk) ∧ w'.cell? ⟨bx, 2, none⟩ = some (.slice (some ⟨b4, o4, none⟩) nu cu) ∧ w'.cell? ⟨w1.heap.size, 0, none⟩ = some (.int .i64 xm) ∧ w'.cell? ⟨w1.heap.size, 1, none⟩ = some (.int .i64 xk) ∧ w'.cell? ⟨w1.heap.size, 2, none⟩ = some (.slice A n c)) ∧ w'.cell? ⟨b3, o3 + m, none⟩ = some (.string px) ∧ w'.cell? ⟨b4, o4, none⟩ = some (.slice A4 n4 c4))) (by kernel_rfl) ⟨far.out _ hqb.out.drew, g0, d0⟩ (fun hS => ?_)
      have hq0 : Below wb.heap.size wb wb.drew := (Below.refl _ _).drew
      refine wpAnyH_take (i := 0) (oi := ?oi101) (v := ?v101) ?hi101 (by kernel_rfl) ?hf101 ?hr101 ?hQ101 (Or.inl ⟨?hw101, ?hy101⟩) (by assumption) ?rest101
      case hi101 => simp only [List.getElem?_toArray, List.getElem?_cons_succ, List.getElem?_cons_zero]; rfl
      case hf101 => kernel_rfl
      case hr101 => kernel_rfl
      case hw101 => rfl
      case hy101 => (intro w hSw; (try dsimp only at hSw); go_simp; all_goals (first | done | with_reducible rfl))
      case hQ101 => exact fun _ _ _ h => h
      simp only [Act.put, List.setIfInBounds_toArray, List.set_cons_zero, List.set_cons_succ]
      refine wpAnyH_take (i := 1) (oi := ?oi102) (v := ?v102) ?hi102 (by kernel_rfl) ?hf102 ?hr102 ?hQ102 (Or.inl ⟨?hw102, ?hy102⟩) (by assumption) ?rest102
      case hi102 => simp only [List.getElem?_toArray, List.getElem?_cons_succ, List.getElem?_cons_zero]; rfl
      case hf102 => kernel_rfl
      case hr102 => kernel_rfl
      case hw102 => rfl
      case hy102 => (intro w hSw; (try dsimp only at hSw); go_simp; all_goals (first | done | with_reducible rfl))
      case hQ102 => exact fun _ _ _ h => h
      simp only [Act.put, List.setIfInBounds_toArray, List.set_cons_zero, List.set_cons_succ]
      refine wpAnyH_take (i := 2) (oi := ?oi103) (v := ?v103) ?hi103 (by kernel_rfl) ?hf103 ?hr103 ?hQ103 (Or.inl ⟨?hw103, ?hy103⟩) (by assumption) ?rest103
      case hi103 => simp only [List.getElem?_toArray, List.getElem?_cons_succ, List.getElem?_cons_zero]; rfl
      case hf103 => kernel_rfl
      case hr103 => kernel_rfl
      case hw103 => rfl
      case hy103 => (intro w hSw; (try dsimp only at hSw); go_simp; all_goals (first | done | with_reducible rfl))
      case hQ103 => exact fun _ _ _ h => h
      simp only [Act.put, List.setIfInBounds_toArray, List.set_cons_zero, List.set_cons_succ]
      refine wpAnyH_take (i := 3) (oi := ?oi104) (v := ?v104) ?hi104 (by kernel_rfl) ?hf104 ?hr104 ?hQ104 (Or.inl ⟨?hw104, ?hy104⟩) (by assumption) ?rest104
      case hi104 => simp only [List.getElem?_toArray, List.getElem?_cons_succ, List.getElem?_cons_zero]; rfl
      case hf104 => kernel_rfl
      case hr104 => kernel_rfl
      case hw104 => rfl
      case hy104 => (intro w hSw; (try dsimp only at hSw); go_simp; all_goals (first | done | with_reducible rfl))
      case hQ104 => exact fun _ _ _ h => h
      simp only [Act.put, List.setIfInBounds_toArray, List.set_cons_zero, List.set_cons_succ]
      refine wpAnyH_take (i := 4) (oi := ?oi105) (v := ?v105) ?hi105 (by kernel_rfl) ?hf105 ?hr105 ?hQ105 (Or.inl ⟨?hw105, ?hy105⟩) (by assumption) ?rest105
      case hi105 => simp only [List.getElem?_toArray, List.getElem?_cons_succ, List.getElem?_cons_zero]; rfl
      case hf105 => kernel_rfl
      case hr105 => kernel_rfl
      case hw105 => rfl
      case hy105 => (intro w hSw; (try dsimp only at hSw); go_simp; all_goals (first | done | with_reducible rfl))
      case hQ105 => exact fun _ _ _ h => h
      simp only [Act.put, List.setIfInBounds_toArray, List.set_cons_zero, List.set_cons_succ]
      refine wpAnyH_take (i := 5) (oi := ?oi106) (v := ?v106) ?hi106 (by kernel_rfl) ?hf106 ?hr106 ?hQ106 (Or.inl ⟨?hw106, ?hy106⟩) (by assumption) ?rest106
      case hi106 => simp only [List.getElem?_toArray, List.getElem?_cons_succ, List.getElem?_cons_zero]; rfl
      case hf106 => kernel_rfl
      case hr106 => kernel_rfl
      case hw106 => rfl
      case hy106 => (intro w hSw; (try dsimp only at hSw); go_simp; all_goals (first | done | with_reducible rfl))
      case hQ106 => exact fun _ _ _ h => h
      simp only [Act.put, List.setIfInBounds_toArray, List.set_cons_zero, List.set_cons_succ]
      refine wpAnyH_take (i := 6) (oi := ?oi107) (v := ?v107) ?hi107 (by kernel_rfl) ?hf107 ?hr107 ?hQ107 (Or.inl ⟨?hw107, ?hy107⟩) (by assumption) ?rest107
      case hi107 => simp only [List.getElem?_toArray, List.getElem?_cons_succ, List.getElem?_cons_zero]; rfl
      case hf107 => kernel_rfl
      case hr107 => kernel_rfl
      case hw107 => rfl
      case hy107 => (intro w hSw; (try dsimp only at hSw); go_simp; all_goals (first | done | with_reducible rfl))
      case hQ107 => exact fun _ _ _ h => h
      simp only [Act.put, List.setIfInBounds_toArray, List.set_cons_zero, List.set_cons_succ]
      refine wpAnyH_take (i := 7) (oi := ?oi108) (v := ?v108) ?hi108 (by kernel_rfl) ?hf108 ?hr108 ?hQ108 (Or.inl ⟨?hw108, ?hy108⟩) (by assumption) ?rest108
      case hi108 => simp only [List.getElem?_toArray, List.getElem?_cons_succ, List.getElem?_cons_zero]; rfl
      case hf108 => kernel_rfl
      case hr108 => kernel_rfl
      case hw108 => rfl
      case hy108 => (intro w hSw; (try dsimp only at hSw); go_simp; all_goals (first | done | with_reducible rfl))
      case hQ108 => exact fun _ _ _ h => h
      simp only [Act.put, List.setIfInBounds_toArray, List.set_cons_zero, List.set_cons_succ]
      refine wpAnyH_take (i := 8) (oi := ?oi109) (v := ?v109) ?hi109 (by kernel_rfl) ?hf109 ?hr109 ?hQ109 (Or.inl ⟨?hw109, ?hy109⟩) (by assumption) ?rest109
      case hi109 => simp only [List.getElem?_toArray, List.getElem?_cons_succ, List.getElem?_cons_zero]; rfl
      case hf109 => kernel_rfl
      case hr109 => kernel_rfl
      case hw109 => rfl
      case hy109 => (intro w hSw; (try dsimp only at hSw); go_simp; all_goals (first | done | with_reducible rfl))
      case hQ109 => exact fun _ _ _ h => h
      simp only [Act.put, List.setIfInBounds_toArray, List.set_cons_zero, List.set_cons_succ]
      refine wpAnyH_take (i := 9) (oi := ?oi110) (v := ?v110) ?hi110 (by kernel_rfl) ?hf110 ?hr110 ?hQ110 (Or.inl ⟨?hw110, ?hy110⟩) (by assumption) ?rest110
      case hi110 => simp only [List.getElem?_toArray, List.getElem?_cons_succ, List.getElem?_cons_zero]; rfl
      case hf110 => kernel_rfl
      case hr110 => kernel_rfl
      case hw110 => rfl
      case hy110 => (intro w hSw; (try dsimp only at hSw); go_simp; all_goals (first | done | with_reducible rfl))
      case hQ110 => exact fun _ _ _ h => h
      simp only [Act.put, List.setIfInBounds_toArray, List.set_cons_zero, List.set_cons_succ]
      refine wpAnyH_take (i := 10) (oi := ?oi111) (v := ?v111) ?hi111 (by kernel_rfl) ?hf111 ?hr111 ?hQ111 (Or.inl ⟨?hw111, ?hy111⟩) (by assumption) ?rest111
      case hi111 => simp only [List.getElem?_toArray, List.getElem?_cons_succ, List.getElem?_cons_zero]; rfl
      case hf111 => kernel_rfl
      case hr111 => kernel_rfl
      case hw111 => rfl
      case hy111 => (intro w hSw; (try dsimp only at hSw); go_simp; all_goals (first | done | with_reducible rfl))
      case hQ111 => exact fun _ _ _ h => h
      simp only [Act.put, List.setIfInBounds_toArray, List.set_cons_zero, List.set_cons_succ]
      refine wpAnyH_take (i := 11) (oi := ?oi112) (v := ?v112) ?hi112 (by kernel_rfl) ?hf112 ?hr112 ?hQ112 (Or.inl ⟨?hw112, ?hy112⟩) (by assumption) ?rest112
      case hi112 => simp only [List.getElem?_toArray, List.getElem?_cons_succ, List.getElem?_cons_zero]; rfl
      case hf112 => kernel_rfl
      case hr112 => kernel_rfl
      case hw112 => rfl
      case hy112 => (intro w hSw; (try dsimp only at hSw); go_simp; all_goals (first | done | with_reducible rfl))
      case hQ112 => exact fun _ _ _ h => h
      simp only [Act.put, List.setIfInBounds_toArray, List.set_cons_zero, List.set_cons_succ]
      refine wpAnyH_take (i := 12) (oi := ?oi113) (v := ?v113) ?hi113 (by kernel_rfl) ?hf113 ?hr113 ?hQ113 (Or.inl ⟨?hw113, ?hy113⟩) (by assumption) ?rest113
      case hi113 => simp only [List.getElem?_toArray, List.getElem?_cons_succ, List.getElem?_cons_zero]; rfl
      case hf113 => kernel_rfl
      case hr113 => kernel_rfl
      case hw113 => rfl
      case hy113 => (intro w hSw; (try dsimp only at hSw); go_simp; all_goals (first | done | with_reducible rfl))
      case hQ113 => exact fun _ _ _ h => h
      simp only [Act.put, List.setIfInBounds_toArray, List.set_cons_zero, List.set_cons_succ]
      refine wpAnyH_take (i := 14) (oi := ?oi114) (v := ?v114) ?hi114 (by kernel_rfl) ?hf114 ?hr114 ?hQ114 (Or.inl ⟨?hw114, ?hy114⟩) (by assumption) ?rest114
      case hi114 => simp only [List.getElem?_toArray, List.getElem?_cons_succ, List.getElem?_cons_zero]; rfl
      case hf114 => kernel_rfl
      case hr114 => kernel_rfl
      case hw114 => rfl
      case hy114 => (intro w hSw; (try dsimp only at hSw); go_simp; all_goals (first | done | with_reducible rfl))
      case hQ114 => exact fun _ _ _ h => h
      simp only [Act.put, List.setIfInBounds_toArray, List.set_cons_zero, List.set_cons_succ]
      refine wpAnyH_take (i := 15) (oi := ?oi115) (v := ?v115) ?hi115 (by kernel_rfl) ?hf115 ?hr115 ?hQ115 (Or.inl ⟨?hw115, ?hy115⟩) (by assumption) ?rest115
      case hi115 => simp only [List.getElem?_toArray, List.getElem?_cons_succ, List.getElem?_cons_zero]; rfl
      case hf115 => kernel_rfl
      case hr115 => kernel_rfl
      case hw115 => rfl
      case hy115 => (intro w hSw; (try dsimp only at hSw); go_simp; all_goals (first | done | with_reducible rfl))
      case hQ115 => exact fun _ _ _ h => h
      simp only [Act.put, List.setIfInBounds_toArray, List.set_cons_zero, List.set_cons_succ]
      refine wpAnyH_take (i := 16) (oi := ?oi116) (v := ?v116) ?hi116 (by kernel_rfl) ?hf116 ?hr116 ?hQ116 (Or.inl ⟨?hw116, ?hy116⟩) (by assumption) ?rest116
      case hi116 => simp only [List.getElem?_toArray, List.getElem?_cons_succ, List.getElem?_cons_zero]; rfl
      case hf116 => kernel_rfl
      case hr116 => kernel_rfl
      case hw116 => rfl
      case hy116 => (intro w hSw; (try dsimp only at hSw); go_simp; all_goals (first | done | with_reducible rfl))
      case hQ116 => exact fun _ _ _ h => h
      simp only [Act.put, List.setIfInBounds_toArray, List.set_cons_zero, List.set_cons_succ]
      refine wpAnyH_take (i := 17) (oi := ?oi117) (v := ?v117) ?hi117 (by kernel_rfl) ?hf117 ?hr117 ?hQ117 (Or.inl ⟨?hw117, ?hy117⟩) (by assumption) ?rest117
      case hi117 => simp only [List.getElem?_toArray, List.getElem?_cons_succ, List.getElem?_cons_zero]; rfl
      case hf117 => kernel_rfl
      case hr117 => kernel_rfl
      case hw117 => rfl
      case hy117 => (intro w hSw; (try dsimp only at hSw); go_simp; all_goals (first | done | with_reducible rfl))
      case hQ117 => exact fun _ _ _ h => h
      simp only [Act.put, List.setIfInBounds_toArray, List.set_cons_zero, List.set_cons_succ]
      refine wpAnyH_ready (rs := [13]) (by kernel_rfl) (by simp) ?_
      refine AllReadyH.cons (o := ?oi118) ?hi118 (fun K hK => ?step118) AllReadyH.nil
      case hi118 => simp only [List.getElem?_toArray, List.getElem?_cons_succ, List.getElem?_cons_zero]; rfl
      rw [if_pos (by rfl)]
      go_simp
      go_at_call 31
      refine (CAf.out _ (fr _ hq0)).mono ?_
      rintro e wc ⟨yf, rsf, rfl, hsf, hrf, hb⟩
      obtain ⟨Af, nf, cf, rfl⟩ := hsf.form hrf
      have hqc : Below wb.heap.size wb wc := hq0.trans (hb.mono hq0.size)
      clear hb
      have CN := hid (endsWith_c (StrsR.at_ hsf hrf HZ.out.2.1) (show StrsIn wc wc.heap.size (.slice (some ⟨b3, o3, none⟩) m ca) (allL (l0 :: lt)) from hcut.out _ hqc) HZ.out.2.2.2.1 (by rw [HM0.out]; omega))
      rw [HZ.out.1] at CN
      refine hK.out _ _ ⟨far.out _ (fr _ hqc), ((hqc).cell (p := ⟨b3, o3 + m, none⟩) hb3w).trans g0, ((hqc).cell (p := ⟨b4, o4, none⟩) hb4w).trans d0⟩ (fun hS9 => ?_)
      refine wpAnyH_ready (rs := [18]) (by kernel_rfl) (by simp) ?_
      refine AllReadyH.cons (o := ?oi119) ?hi119 (fun K hK => ?step119) AllReadyH.nil
      case hi119 => simp only [List.getElem?_toArray, List.getElem?_cons_succ, List.getElem?_cons_zero]; rfl
      rw [if_pos (by rfl)]
      go_simp
      go_at_call 34
      refine CN.out.mono ?_
      rintro e wd ⟨rfl, hb⟩
      have hqd : Below wb.heap.size wb wd := hqc.trans (hb.mono hqc.size)
      clear hb hsf hrf
      refine hK.out _ _ ⟨far.out _ (fr _ hqd), ((hqd).cell (p := ⟨b3, o3 + m, none⟩) hb3w).trans g0, ((hqd).cell (p := ⟨b4, o4, none⟩) hb4w).trans d0⟩ (fun hS9 => ?_)
      refine wpAnyH_take (i := 19) (oi := ?oi120) (v := ?v120) ?hi120 (by kernel_rfl) ?hf120 ?hr120 ?hQ120 (Or.inl ⟨?hw120, ?hy120⟩) (by assumption) ?rest120
      case hi120 => simp only [List.getElem?_toArray, List.getElem?_cons_succ, List.getElem?_cons_zero]; rfl
      case hf120 => kernel_rfl
      case hr120 => kernel_rfl
      case hw120 => rfl
      case hy120 => (intro w hSw; (try dsimp only at hSw); go_simp; all_goals (first | done | with_reducible rfl))
      case hQ120 => exact fun _ _ _ h => h
      simp only [Act.put, List.setIfInBounds_toArray, List.set_cons_zero, List.set_cons_succ]
      refine wpAnyH_take (i := 20) (oi := ?oi121) (v := ?v121) ?hi121 (by kernel_rfl) ?hf121 ?hr121 ?hQ121 (Or.inl ⟨?hw121, ?hy121⟩) (by assumption) ?rest121
      case hi121 => simp only [List.getElem?_toArray, List.getElem?_cons_succ, List.getElem?_cons_zero]; rfl
      case hf121 => kernel_rfl
      case hr121 => kernel_rfl
      case hw121 => rfl
      case hy121 => (intro w hSw; (try dsimp only at hSw); go_simp; all_goals (first | done | with_reducible rfl))
      case hQ121 => exact fun _ _ _ h => h
      simp only [Act.put, List.setIfInBounds_toArray, List.set_cons_zero, List.set_cons_succ]
      refine wpAnyH_take (i := 21) (oi := ?oi122) (v := ?v122) ?hi122 (by kernel_rfl) ?hf122 ?hr122 ?hQ122 (Or.inl ⟨?hw122, ?hy122⟩) (by assumption) ?rest122
      case hi122 => simp only [List.getElem?_toArray, List.getElem?_cons_succ, List.getElem?_cons_zero]; rfl
      case hf122 => kernel_rfl
      case hr122 => kernel_rfl
      case hw122 => rfl
      case hy122 => (intro w hSw; (try dsimp only at hSw); go_simp; all_goals (first | done | with_reducible rfl))
      case hQ122 => exact fun _ _ _ h => h
      simp only [Act.put, List.setIfInBounds_toArray, List.set_cons_zero, List.set_cons_succ]
      refine wpAnyH_take (i := 22) (oi := ?oi123) (v := ?v123) ?hi123 (by kernel_rfl) ?hf123 ?hr123 ?hQ123 (Or.inl ⟨?hw123, ?hy123⟩) (by assumption) ?rest123
      case hi123 => simp only [List.getElem?_toArray, List.getElem?_cons_succ, List.getElem?_cons_zero]; rfl
      case hf123 => kernel_rfl
      case hr123 => kernel_rfl
      case hw123 => rfl
      case hy123 => (intro w hSw; (try dsimp only at hSw); go_simp; all_goals (first | done | with_reducible rfl))
      case hQ123 => exact fun _ _ _ h => h
      simp only [Act.put, List.setIfInBounds_toArray, List.set_cons_zero, List.set_cons_succ]
      refine wpAnyH_take (i := 23) (oi := ?oi124) (v := ?v124) ?hi124 (by kernel_rfl) ?hf124 ?hr124 ?hQ124 (Or.inl ⟨?hw124, ?hy124⟩) (by assumption) ?rest124
      case hi124 => simp only [List.getElem?_toArray, List.getElem?_cons_succ, List.getElem?_cons_zero]; rfl
      case hf124 => kernel_rfl
      case hr124 => kernel_rfl
      case hw124 => rfl
      case hy124 => (intro w hSw; (try dsimp only at hSw); go_simp; all_goals (first | done | with_reducible rfl))
      case hQ124 => exact fun _ _ _ h => h
      simp only [Act.put, List.setIfInBounds_toArray, List.set_cons_zero, List.set_cons_succ]
      refine wpAnyH_take (i := 24) (oi := ?oi125) (v := ?v125) ?hi125 (by kernel_rfl) ?hf125 ?hr125 ?hQ125 (Or.inl ⟨?hw125, ?hy125⟩) (by assumption) ?rest125
      case hi125 => simp only [List.getElem?_toArray, List.getElem?_cons_succ, List.getElem?_cons_zero]; rfl
      case hf125 => kernel_rfl
      case hr125 => kernel_rfl
      case hw125 => rfl
      case hy125 => (intro w hSw; (try dsimp only at hSw); go_simp; all_goals (first | done | with_reducible rfl))
      case hQ125 => exact fun _ _ _ h => h
      simp only [Act.put, List.setIfInBounds_toArray, List.set_cons_zero, List.set_cons_succ]
      refine wpAnyH_take (i := 25) (oi := ?oi126) (v := ?v126) ?hi126 (by kernel_rfl) ?hf126 ?hr126 ?hQ126 (Or.inl ⟨?hw126, ?hy126⟩) (by assumption) ?rest126
      case hi126 => simp only [List.getElem?_toArray, List.getElem?_cons_succ, List.getElem?_cons_zero]; rfl
      case hf126 => kernel_rfl
      case hr126 => kernel_rfl
      case hw126 => rfl
      case hy126 => (intro w hSw; (try dsimp only at hSw); go_simp; all_goals (first | done | with_reducible rfl))
      case hQ126 => exact fun _ _ _ h => h
      simp only [Act.put, List.setIfInBounds_toArray, List.set_cons_zero, List.set_cons_succ]
      refine wpAnyH_take (i := 26) (oi := ?oi127) (v := ?v127) ?hi127 (by kernel_rfl) ?hf127 ?hr127 ?hQ127 (Or.inl ⟨?hw127, ?hy127⟩) (by assumption) ?rest127
      case hi127 => simp only [List.getElem?_toArray, List.getElem?_cons_succ, List.getElem?_cons_zero]; rfl
      case hf127 => kernel_rfl
      case hr127 => kernel_rfl
      case hw127 => rfl
      case hy127 => (intro w hSw; (try dsimp only at hSw); go_simp; all_goals (first | done | with_reducible rfl))
      case hQ127 => exact fun _ _ _ h => h
      simp only [Act.put, List.setIfInBounds_toArray, List.set_cons_zero, List.set_cons_succ]
      refine wpAnyH_take (i := 27) (oi := ?oi128) (v := ?v128) ?hi128 (by kernel_rfl) ?hf128 ?hr128 ?hQ128 (Or.inl ⟨?hw128, ?hy128⟩) (by assumption) ?rest128
      case hi128 => simp only [List.getElem?_toArray, List.getElem?_cons_succ, List.getElem?_cons_zero]; rfl
      case hf128 => kernel_rfl
      case hr128 => kernel_rfl
      case hw128 => rfl
      case hy128 => (intro w hSw; (try dsimp only at hSw); go_simp; all_goals (first | done | with_reducible rfl))
      case hQ128 => exact fun _ _ _ h => h
      simp only [Act.put, List.setIfInBounds_toArray, List.set_cons_zero, List.set_cons_succ]
      refine wpAnyH_take (i := 28) (oi := ?oi129) (v := ?v129) ?hi129 (by kernel_rfl) ?hf129 ?hr129 ?hQ129 (Or.inl ⟨?hw129, ?hy129⟩) (by assumption) ?rest129
      case hi129 => simp only [List.getElem?_toArray, List.getElem?_cons_succ, List.getElem?_cons_zero]; rfl
      case hf129 => kernel_rfl
      case hr129 => kernel_rfl
      case hw129 => rfl
      case hy129 => (intro w hSw; (try dsimp only at hSw); go_simp; all_goals (first | done | with_reducible rfl))
      case hQ129 => exact fun _ _ _ h => h
      simp only [Act.put, List.setIfInBounds_toArray, List.set_cons_zero, List.set_cons_succ]
      refine wpAnyH_take (i := 29) (oi := ?oi130) (v := ?v130) ?hi130 (by kernel_rfl) ?hf130 ?hr130 ?hQ130 (Or.inl ⟨?hw130, ?hy130⟩) (by assumption) ?rest130
      case hi130 => simp only [List.getElem?_toArray, List.getElem?_cons_succ, List.getElem?_cons_zero]; rfl
      case hf130 => kernel_rfl
      case hr130 => kernel_rfl
      case hw130 => rfl
      case hy130 => (intro w hSw; (try dsimp only at hSw); go_simp; all_goals (first | done | with_reducible rfl))
      case hQ130 => exact fun _ _ _ h => h
      simp only [Act.put, List.setIfInBounds_toArray, List.set_cons_zero, List.set_cons_succ]
      refine wpAnyH_take (i := 30) (oi := ?oi131) (v := ?v131) ?hi131 (by kernel_rfl) ?hf131 ?hr131 ?hQ131 (Or.inl ⟨?hw131, ?hy131⟩) (by assumption) ?rest131
      case hi131 => simp only [List.getElem?_toArray, List.getElem?_cons_succ, List.getElem?_cons_zero]; rfl
      case hf131 => kernel_rfl
      case hr131 => kernel_rfl
      case hw131 => rfl
      case hy131 => (intro w hSw; (try dsimp only at hSw); go_simp; all_goals (first | done | with_reducible rfl))
      case hQ131 => exact fun _ _ _ h => h
      simp only [Act.put, List.setIfInBounds_toArray, List.set_cons_zero, List.set_cons_succ]
      refine wpAnyH_take (i := 31) (oi := ?oi132) (v := ?v132) ?hi132 (by kernel_rfl) ?hf132 ?hr132 ?hQ132 (Or.inl ⟨?hw132, ?hy132⟩) (by assumption) ?rest132
      case hi132 => simp only [List.getElem?_toArray, List.getElem?_cons_succ, List.getElem?_cons_zero]; rfl
      case hf132 => kernel_rfl
      case hr132 => kernel_rfl
      case hw132 => rfl
      case hy132 => (intro w hSw; (try dsimp only at hSw); go_simp; all_goals (first | done | with_reducible rfl))
      case hQ132 => exact fun _ _ _ h => h
      simp only [Act.put, List.setIfInBounds_toArray, List.set_cons_zero, List.set_cons_succ]
      refine wpAnyH_take (i := 32) (oi := ?oi133) (v := ?v133) ?hi133 (by kernel_rfl) ?hf133 ?hr133 ?hQ133 (Or.inl ⟨?hw133, ?hy133⟩) (by assumption) ?rest133
      case hi133 => simp only [List.getElem?_toArray, List.getElem?_cons_succ, List.getElem?_cons_zero]; rfl
      case hf133 => kernel_rfl
      case hr133 => kernel_rfl
      case hw133 => rfl
      case hy133 => (intro w hSw; (try dsimp only at hSw); go_simp; all_goals (first | done | with_reducible rfl))
      case hQ133 => exact fun _ _ _ h => h
      simp only [Act.put, List.setIfInBounds_toArray, List.set_cons_zero, List.set_cons_succ]
      refine wpAnyH_take (i := 33) (oi := ?oi134) (v := ?v134) ?hi134 (by kernel_rfl) ?hf134 ?hr134 ?hQ134 (Or.inl ⟨?hw134, ?hy134⟩) (by assumption) ?rest134
      case hi134 => simp only [List.getElem?_toArray, List.getElem?_cons_succ, List.getElem?_cons_zero]; rfl
      case hf134 => kernel_rfl
      case hr134 => kernel_rfl
      case hw134 => rfl
      case hy134 => (intro w hSw; (try dsimp only at hSw); go_simp; all_goals (first | done | with_reducible rfl))
      case hQ134 => exact fun _ _ _ h => h
      simp only [Act.put, List.setIfInBounds_toArray, List.set_cons_zero, List.set_cons_succ]
      refine wpAnyH_take (i := 34) (oi := ?oi135) (v := ?v135) ?hi135 (by kernel_rfl) ?hf135 ?hr135 ?hQ135 (Or.inl ⟨?hw135, ?hy135⟩) (by assumption) ?rest135
      case hi135 => simp only [List.getElem?_toArray, List.getElem?_cons_succ, List.getElem?_cons_zero]; rfl
      case hf135 => kernel_rfl
      case hr135 => kernel_rfl
      case hw135 => rfl
      case hy135 => (intro w hSw; (try dsimp only at hSw); go_simp; all_goals (first | done | with_reducible rfl))
      case hQ135 => exact fun _ _ _ h => h
      simp only [Act.put, List.setIfInBounds_toArray, List.set_cons_zero, List.set_cons_succ]
      refine wpAnyH_take (i := 35) (oi := ?oi136) (v := undef) ?hi136 (by kernel_rfl) ?hf136 ?hr136 ?hQ136 (Or.inr ⟨?hw136, rfl⟩) (by assumption) ?rest136
      case hi136 => simp only [List.getElem?_toArray, List.getElem?_cons_succ, List.getElem?_cons_zero]; rfl
      case hf136 => kernel_rfl
      case hr136 => kernel_rfl
      case hw136 => rfl
      case hQ136 => exact fun _ _ _ h => h
      simp only [Act.put, List.setIfInBounds_toArray, List.set_cons_zero, List.set_cons_succ]
      refine wpAnyH_take (i := 36) (oi := ?oi137) (v := undef) ?hi137 (by kernel_rfl) ?hf137 ?hr137 ?hQ137 (Or.inr ⟨?hw137, rfl⟩) (by assumption) ?rest137
      case hi137 => simp only [List.getElem?_toArray, List.getElem?_cons_succ, List.getElem?_cons_zero]; rfl
      case hf137 => kernel_rfl
      case hr137 => kernel_rfl
      case hw137 => rfl
      case hQ137 => exact fun _ _ _ h => h
      simp only [Act.put, List.setIfInBounds_toArray, List.set_cons_zero, List.set_cons_succ]
      refine wpAnyH_take (i := 37) (oi := ?oi138) (v := undef) ?hi138 (by kernel_rfl) ?hf138 ?hr138 ?hQ138 (Or.inr ⟨?hw138, rfl⟩) (by assumption) ?rest138
      case hi138 => simp only [List.getElem?_toArray, List.getElem?_cons_succ, List.getElem?_cons_zero]; rfl
      case hf138 => kernel_rfl
      case hr138 => kernel_rfl
      case hw138 => rfl
      case hQ138 => exact fun _ _ _ h => h
      simp only [Act.put, List.setIfInBounds_toArray, List.set_cons_zero, List.set_cons_succ]
      refine wpAnyH_take (i := 38) (oi := ?oi139) (v := undef) ?hi139 (by kernel_rfl) ?hf139 ?hr139 ?hQ139 (Or.inr ⟨?hw139, rfl⟩) (by assumption) ?rest139
      case hi139 => simp only [List.getElem?_toArray, List.getElem?_cons_succ, List.getElem?_cons_zero]; rfl
      case hf139 => kernel_rfl
      case hr139 => kernel_rfl
      case hw139 => rfl
      case hQ139 => exact fun _ _ _ h => h
      simp only [Act.put, List.setIfInBounds_toArray, List.set_cons_zero, List.set_cons_succ]
      refine wpAnyH_take (i := 39) (oi := ?oi140) (v := undef) ?hi140 (by kernel_rfl) ?hf140 ?hr140 ?hQ140 (Or.inr ⟨?hw140, rfl⟩) (by assumption) ?rest140
      case hi140 => simp only [List.getElem?_toArray, List.getElem?_cons_succ, List.getElem?_cons_zero]; rfl
      case hf140 => kernel_rfl
      case hr140 => kernel_rfl
      case hw140 => rfl
      case hQ140 => exact fun _ _ _ h => h
      simp only [Act.put, List.setIfInBounds_toArray, List.set_cons_zero, List.set_cons_succ]
      refine wpAnyH_take (i := 40) (oi := ?oi141) (v := undef) ?hi141 (by kernel_rfl) ?hf141 ?hr141 ?hQ141 (Or.inr ⟨?hw141, rfl⟩) (by assumption) ?rest141
      case hi141 => simp only [List.getElem?_toArray, List.getElem?_cons_succ, List.getElem?_cons_zero]; rfl
      case hf141 => kernel_rfl
      case hr141 => kernel_rfl
      case hw141 => rfl
      case hQ141 => exact fun _ _ _ h => h
      simp only [Act.put, List.setIfInBounds_toArray, List.set_cons_zero, List.set_cons_succ]
      refine wpAnyH_take (i := 41) (oi := ?oi142) (v := undef) ?hi142 (by kernel_rfl) ?hf142 ?hr142 ?hQ142 (Or.inr ⟨?hw142, rfl⟩) (by assumption) ?rest142
      case hi142 => simp only [List.getElem?_toArray, List.getElem?_cons_succ, List.getElem?_cons_zero]; rfl
      case hf142 => kernel_rfl
      case hr142 => kernel_rfl
      case hw142 => rfl
      case hQ142 => exact fun _ _ _ h => h
      simp only [Act.put, List.setIfInBounds_toArray, List.set_cons_zero, List.set_cons_succ]
      refine wpAnyH_take (i := 42) (oi := ?oi143) (v := undef) ?hi143 (by kernel_rfl) ?hf143 ?hr143 ?hQ143 (Or.inr ⟨?hw143, rfl⟩) (by assumption) ?rest143
      case hi143 => simp only [List.getElem?_toArray, List.getElem?_cons_succ, List.getElem?_cons_zero]; rfl
      case hf143 => kernel_rfl
      case hr143 => kernel_rfl
      case hw143 => rfl
      case hQ143 => exact fun _ _ _ h => h
      simp only [Act.put, List.setIfInBounds_toArray, List.set_cons_zero, List.set_cons_succ]
      refine wpAnyH_take (i := 43) (oi := ?oi144) (v := ?v144) ?hi144 (by kernel_rfl) ?hf144 ?hr144 ?hQ144 (Or.inl ⟨?hw144, ?hy144⟩) (by assumption) ?rest144
      case hi144 => simp only [List.getElem?_toArray, List.getElem?_cons_succ, List.getElem?_cons_zero]; rfl
      case hf144 => kernel_rfl
      case hr144 => kernel_rfl
      case hw144 => rfl
      case hy144 => (intro w hSw; (try dsimp only at hSw); go_simp; all_goals (first | done | with_reducible rfl))
      case hQ144 => exact fun _ _ _ h => h
      simp only [Act.put, List.setIfInBounds_toArray, List.set_cons_zero, List.set_cons_succ]
      refine wpAnyH_take (i := 44) (oi := ?oi145) (v := ?v145) ?hi145 (by kernel_rfl) ?hf145 ?hr145 ?hQ145 (Or.inl ⟨?hw145, ?hy145⟩) (by assumption) ?rest145
      case hi145 => simp only [List.getElem?_toArray, List.getElem?_cons_succ, List.getElem?_cons_zero]; rfl
      case hf145 => kernel_rfl
      case hr145 => kernel_rfl
      case hw145 => rfl
      case hy145 => (intro w hSw; (try dsimp only at hSw); go_simp; all_goals (first | done | with_reducible rfl))
      case hQ145 => exact fun _ _ _ h => h
      simp only [Act.put, List.setIfInBounds_toArray, List.set_cons_zero, List.set_cons_succ]
      refine wpAnyH_take (i := 45) (oi := ?oi146) (v := ?v146) ?hi146 (by kernel_rfl) ?hf146 ?hr146 ?hQ146 (Or.inl ⟨?hw146, ?hy146⟩) (by assumption) ?rest146
      case hi146 => simp only [List.getElem?_toArray, List.getElem?_cons_succ, List.getElem?_cons_zero]; rfl
      case hf146 => kernel_rfl
      case hr146 => kernel_rfl
      case hw146 => rfl
      case hy146 => (intro w hSw; (try dsimp only at hSw); go_simp; all_goals (first | done | with_reducible rfl))
      case hQ146 => exact fun _ _ _ h => h
      simp only [Act.put, List.setIfInBounds_toArray, List.set_cons_zero, List.set_cons_succ]
      refine wpAnyH_done (by kernel_rfl) ?_ _
      have HBz := hid (HBb.out.trans ((fr _ hqd).mono HBb.out.size))
      clear hS hS9 g0 d0 o0 o1 o2 f0 f1 f2
      go_wp2_with fail
      go_ret
      exact ⟨rfl, HBz.out⟩
    · have q1 : ((n4 : Int) == 1) = false := by simp; omega
      have q2 : decide (sz ≤ xm) = true := decide_eq_true (hszp h41)
      have q3 : sz ≤ xm := hszp h41
      replace h41 := hid h41
      clear hszp
      go_wp2_with fail
      refine wp_region_held_drew (S := (fun w' : World => (w'.cell? ⟨bx, 0, none⟩ = some (.int .i64 xm) ∧ w'.cell? ⟨bx, 1, none⟩ = some (.int .i64 xk) ∧ w'.cell? ⟨bx, 2, none⟩ = some (.slice (some ⟨b4, o4, none⟩) nu cu) ∧ w'.cell? ⟨w1.heap.size, 0, none⟩ = some (.int .i64 xm) ∧ w'.cell? ⟨w1.heap.size, 1, none⟩ = some (.int .i64 xk) ∧ w'.cell? ⟨w1.heap.size, 2, none⟩ = some (.slice A n c)) ∧ w'.cell? ⟨b3, o3 + m, none⟩ = some (.string px) ∧ w'.cell? ⟨b4, o4, none⟩ = some (.slice A4 n4 c4))) (by kernel_rfl) ⟨far.out _ hqb.out.drew, g0, d0⟩ (fun hS => ?_)
      have hq0 : Below wb.heap.size wb wb.drew := (Below.refl _ _).drew
      refine wpAnyH_take (i := 0) (oi := ?oi147) (v := ?v147) ?hi147 (by kernel_rfl) ?hf147 ?hr147 ?hQ147 (Or.inl ⟨?hw147, ?hy147⟩) (by assumption) ?rest147
      case hi147 => simp only [List.getElem?_toArray, List.getElem?_cons_succ, List.getElem?_cons_zero]; rfl
      case hf147 => kernel_rfl
      case hr147 => kernel_rfl
      case hw147 => rfl
      case hy147 => (intro w hSw; (try dsimp only at hSw); go_simp; all_goals (first | done | with_reducible rfl))
      case hQ147 => exact fun _ _ _ h => h
      simp only [Act.put, List.setIfInBounds_toArray, List.set_cons_zero, List.set_cons_succ]
      refine wpAnyH_take (i := 1) (oi := ?oi148) (v := ?v148) ?hi148 (by kernel_rfl) ?hf148 ?hr148 ?hQ148 (Or.inl ⟨?hw148, ?hy148⟩) (by assumption) ?rest148
      case hi148 => simp only [List.getElem?_toArray, List.getElem?_cons_succ, List.getElem?_cons_zero]; rfl
      case hf148 => kernel_rfl
      case hr148 => kernel_rfl
      case hw148 => rfl
      case hy148 => (intro w hSw; (try dsimp only at hSw); go_simp; all_goals (first | done | with_reducible rfl))
      case hQ148 => exact fun _ _ _ h => h
      simp only [Act.put, List.setIfInBounds_toArray, List.set_cons_zero, List.set_cons_succ]
      refine wpAnyH_take (i := 2) (oi := ?oi149) (v := ?v149) ?hi149 (by kernel_rfl) ?hf149 ?hr149 ?hQ149 (Or.inl ⟨?hw149, ?hy149⟩) (by assumption) ?rest149
      case hi149 => simp only [List.getElem?_toArray, List.getElem?_cons_succ, List.getElem?_cons_zero]; rfl
      case hf149 => kernel_rfl
      case hr149 => kernel_rfl
      case hw149 => rfl
      case hy149 => (intro w hSw; (try dsimp only at hSw); go_simp; all_goals (first | done | with_reducible rfl))
      case hQ149 => exact fun _ _ _ h => h
      simp only [Act.put, List.setIfInBounds_toArray, List.set_cons_zero, List.set_cons_succ]
      refine wpAnyH_take (i := 3) (oi := ?oi150) (v := ?v150) ?hi150 (by kernel_rfl) ?hf150 ?hr150 ?hQ150 (Or.inl ⟨?hw150, ?hy150⟩) (by assumption) ?rest150
      case hi150 => simp only [List.getElem?_toArray, List.getElem?_cons_succ, List.getElem?_cons_zero]; rfl
      case hf150 => kernel_rfl
      case hr150 => kernel_rfl
      case hw150 => rfl
      case hy150 => (intro w hSw; (try dsimp only at hSw); go_simp; all_goals (first | done | with_reducible rfl))
      case hQ150 => exact fun _ _ _ h => h
      simp only [Act.put, List.setIfInBounds_toArray, List.set_cons_zero, List.set_cons_succ]
      refine wpAnyH_take (i := 4) (oi := ?oi151) (v := ?v151) ?hi151 (by kernel_rfl) ?hf151 ?hr151 ?hQ151 (Or.inl ⟨?hw151, ?hy151⟩) (by assumption) ?rest151
      case hi151 => simp only [List.getElem?_toArray, List.getElem?_cons_succ, List.getElem?_cons_zero]; rfl
      case hf151 => kernel_rfl
      case hr151 => kernel_rfl
      case hw151 => rfl
      case hy151 => (intro w hSw; (try dsimp only at hSw); go_simp; all_goals (first | done | with_reducible rfl))
      case hQ151 => exact fun _ _ _ h => h
      simp only [Act.put, List.setIfInBounds_toArray, List.set_cons_zero, List.set_cons_succ]
      refine wpAnyH_take (i := 5) (oi := ?oi152) (v := ?v152) ?hi152 (by kernel_rfl) ?hf152 ?hr152 ?hQ152 (Or.inl ⟨?hw152, ?hy152⟩) (by assumption) ?rest152
      case hi152 => simp only [List.getElem?_toArray, List.getElem?_cons_succ, List.getElem?_cons_zero]; rfl
      case hf152 => kernel_rfl
      case hr152 => kernel_rfl
      case hw152 => rfl
      case hy152 => (intro w hSw; (try dsimp only at hSw); go_simp; all_goals (first | done | with_reducible rfl))
      case hQ152 => exact fun _ _ _ h => h
      simp only [Act.put, List.setIfInBounds_toArray, List.set_cons_zero, List.set_cons_succ]
      refine wpAnyH_take (i := 6) (oi := ?oi153) (v := ?v153) ?hi153 (by kernel_rfl) ?hf153 ?hr153 ?hQ153 (Or.inl ⟨?hw153, ?hy153⟩) (by assumption) ?rest153
      case hi153 => simp only [List.getElem?_toArray, List.getElem?_cons_succ, List.getElem?_cons_zero]; rfl
      case hf153 => kernel_rfl
      case hr153 => kernel_rfl
      case hw153 => rfl
      case hy153 => (intro w hSw; (try dsimp only at hSw); go_simp; all_goals (first | done | with_reducible rfl))
      case hQ153 => exact fun _ _ _ h => h
      simp only [Act.put, List.setIfInBounds_toArray, List.set_cons_zero, List.set_cons_succ]
      refine wpAnyH_take (i := 7) (oi := ?oi154) (v := ?v154) ?hi154 (by kernel_rfl) ?hf154 ?hr154 ?hQ154 (Or.inl ⟨?hw154, ?hy154⟩) (by assumption) ?rest154
      case hi154 => simp only [List.getElem?_toArray, List.getElem?_cons_succ, List.getElem?_cons_zero]; rfl
      case hf154 => kernel_rfl
      case hr154 => kernel_rfl
      case hw154 => rfl
      case hy154 => (intro w hSw; (try dsimp only at hSw); go_simp; all_goals (first | done | with_reducible rfl))
      case hQ154 => exact fun _ _ _ h => h
      simp only [Act.put, List.setIfInBounds_toArray, List.set_cons_zero, List.set_cons_succ]
      refine wpAnyH_take (i := 8) (oi := ?oi155) (v := ?v155) ?hi155 (by kernel_rfl) ?hf155 ?hr155 ?hQ155 (Or.inl ⟨?hw155, ?hy155⟩) (by assumption) ?rest155
      case hi155 => simp only [List.getElem?_toArray, List.getElem?_cons_succ, List.getElem?_cons_zero]; rfl
      case hf155 => kernel_rfl
      case hr155 => kernel_rfl
      case hw155 => rfl
      case hy155 => (intro w hSw; (try dsimp only at hSw); go_simp; all_goals (first | done | with_reducible rfl))
      case hQ155 => exact fun _ _ _ h => h
      simp only [Act.put, List.setIfInBounds_toArray, List.set_cons_zero, List.set_cons_succ]
      refine wpAnyH_take (i := 9) (oi := ?oi156) (v := ?v156) ?hi156 (by kernel_rfl) ?hf156 ?hr156 ?hQ156 (Or.inl ⟨?hw156, ?hy156⟩) (by assumption) ?rest156
      case hi156 => simp only [List.getElem?_toArray, List.getElem?_cons_succ, List.getElem?_cons_zero]; rfl
      case hf156 => kernel_rfl
      case hr156 => kernel_rfl
      case hw156 => rfl
      case hy156 => (intro w hSw; (try dsimp only at hSw); go_simp; all_goals (first | done | with_reducible rfl))
      case hQ156 => exact fun _ _ _ h => h
      simp only [Act.put, List.setIfInBounds_toArray, List.set_cons_zero, List.set_cons_succ]
      refine wpAnyH_take (i := 10) (oi := ?oi157) (v := ?v157) ?hi157 (by kernel_rfl) ?hf157 ?hr157 ?hQ157 (Or.inl ⟨?hw157, ?hy157⟩) (by assumption) ?rest157
      case hi157 => simp only [List.getElem?_toArray, List.getElem?_cons_succ, List.getElem?_cons_zero]; rfl
      case hf157 => kernel_rfl
      case hr157 => kernel_rfl
      case hw157 => rfl
      case hy157 => (intro w hSw; (try dsimp only at hSw); go_simp; all_goals (first | done | with_reducible rfl))
      case hQ157 => exact fun _ _ _ h => h
      simp only [Act.put, List.setIfInBounds_toArray, List.set_cons_zero, List.set_cons_succ]
      refine wpAnyH_take (i := 11) (oi := ?oi158) (v := ?v158) ?hi158 (by kernel_rfl) ?hf158 ?hr158 ?hQ158 (Or.inl ⟨?hw158, ?hy158⟩) (by assumption) ?rest158
      case hi158 => simp only [List.getElem?_toArray, List.getElem?_cons_succ, List.getElem?_cons_zero]; rfl
      case hf158 => kernel_rfl
      case hr158 => kernel_rfl
      case hw158 => rfl
      case hy158 => (intro w hSw; (try dsimp only at hSw); go_simp; all_goals (first | done | with_reducible rfl))
      case hQ158 => exact fun _ _ _ h => h
      simp only [Act.put, List.setIfInBounds_toArray, List.set_cons_zero, List.set_cons_succ]
      refine wpAnyH_take (i := 12) (oi := ?oi159) (v := ?v159) ?hi159 (by kernel_rfl) ?hf159 ?hr159 ?hQ159 (Or.inl ⟨?hw159, ?hy159⟩) (by assumption) ?rest159
      case hi159 => simp only [List.getElem?_toArray, List.getElem?_cons_succ, List.getElem?_cons_zero]; rfl
      case hf159 => kernel_rfl
      case hr159 => kernel_rfl
      case hw159 => rfl
      case hy159 => (intro w hSw; (try dsimp only at hSw); go_simp; all_goals (first | done | with_reducible rfl))
      case hQ159 => exact fun _ _ _ h => h
      simp only [Act.put, List.setIfInBounds_toArray, List.set_cons_zero, List.set_cons_succ]
      refine wpAnyH_take (i := 14) (oi := ?oi160) (v := ?v160) ?hi160 (by kernel_rfl) ?hf160 ?hr160 ?hQ160 (Or.inl ⟨?hw160, ?hy160⟩) (by assumption) ?rest160
      case hi160 => simp only [List.getElem?_toArray, List.getElem?_cons_succ, List.getElem?_cons_zero]; rfl
      case hf160 => kernel_rfl
      case hr160 => kernel_rfl
      case hw160 => rfl
      case hy160 => (intro w hSw; (try dsimp only at hSw); go_simp; all_goals (first | done | with_reducible rfl))
      case hQ160 => exact fun _ _ _ h => h
      simp only [Act.put, List.setIfInBounds_toArray, List.set_cons_zero, List.set_cons_succ]
      refine wpAnyH_take (i := 15) (oi := ?oi161) (v := ?v161) ?hi161 (by kernel_rfl) ?hf161 ?hr161 ?hQ161 (Or.inl ⟨?hw161, ?hy161⟩) (by assumption) ?rest161
      case hi161 => simp only [List.getElem?_toArray, List.getElem?_cons_succ, List.getElem?_cons_zero]; rfl
      case hf161 => kernel_rfl
      case hr161 => kernel_rfl
      case hw161 => rfl
      case hy161 => (intro w hSw; (try dsimp only at hSw); go_simp; all_goals (first | done | with_reducible rfl))
      case hQ161 => exact fun _ _ _ h => h
      simp only [Act.put, List.setIfInBounds_toArray, List.set_cons_zero, List.set_cons_succ]
      refine wpAnyH_take (i := 16) (oi := ?oi162) (v := ?v162) ?hi162 (by kernel_rfl) ?hf162 ?hr162 ?hQ162 (Or.inl ⟨?hw162, ?hy162⟩) (by assumption) ?rest162
      case hi162 => simp only [List.getElem?_toArray, List.getElem?_cons_succ, List.getElem?_cons_zero]; rfl
      case hf162 => kernel_rfl
      case hr162 => kernel_rfl
      case hw162 => rfl
      case hy162 => (intro w hSw; (try dsimp only at hSw); go_simp; all_goals (first | done | with_reducible rfl))
      case hQ162 => exact fun _ _ _ h => h
      simp only [Act.put, List.setIfInBounds_toArray, List.set_cons_zero, List.set_cons_succ]
      refine wpAnyH_take (i := 17) (oi := ?oi163) (v := ?v163) ?hi163 (by kernel_rfl) ?hf163 ?hr163 ?hQ163 (Or.inl ⟨?hw163, ?hy163⟩) (by assumption) ?rest163
      case hi163 => simp only [List.getElem?_toArray, List.getElem?_cons_succ, List.getElem?_cons_zero]; rfl
      case hf163 => kernel_rfl
      case hr163 => kernel_rfl
      case hw163 => rfl
      case hy163 => (intro w hSw; (try dsimp only at hSw); go_simp; all_goals (first | done | with_reducible rfl))
      case hQ163 => exact fun _ _ _ h => h
      simp only [Act.put, List.setIfInBounds_toArray, List.set_cons_zero, List.set_cons_succ]
      refine wpAnyH_ready (rs := [13]) (by kernel_rfl) (by simp) ?_
      refine AllReadyH.cons (o := ?oi164) ?hi164 (fun K hK => ?step164) AllReadyH.nil
      case hi164 => simp only [List.getElem?_toArray, List.getElem?_cons_succ, List.getElem?_cons_zero]; rfl
      rw [if_pos (by rfl)]
      go_simp
      go_at_call 31
      refine (CAf.out _ (fr _ hq0)).mono ?_
      rintro e wc ⟨yf, rsf, rfl, hsf, hrf, hb⟩
      obtain ⟨Af, nf, cf, rfl⟩ := hsf.form hrf
      have hqc : Below wb.heap.size wb wc := hq0.trans (hb.mono hq0.size)
      clear hb
      have CN := hid (endsWith_c (StrsR.at_ hsf hrf HZ.out.2.1) (show StrsIn wc wc.heap.size (.slice (some ⟨b3, o3, none⟩) m ca) (allL (l0 :: lt)) from hcut.out _ hqc) HZ.out.2.2.2.1 (by rw [HM0.out]; omega))
      rw [HZ.out.1] at CN
      refine hK.out _ _ ⟨far.out _ (fr _ hqc), ((hqc).cell (p := ⟨b3, o3 + m, none⟩) hb3w).trans g0, ((hqc).cell (p := ⟨b4, o4, none⟩) hb4w).trans d0⟩ (fun hS9 => ?_)
      refine wpAnyH_ready (rs := [18]) (by kernel_rfl) (by simp) ?_
      refine AllReadyH.cons (o := ?oi165) ?hi165 (fun K hK => ?step165) AllReadyH.nil
      case hi165 => simp only [List.getElem?_toArray, List.getElem?_cons_succ, List.getElem?_cons_zero]; rfl
      rw [if_pos (by rfl)]
      go_simp
      go_at_call 34
      refine CN.out.mono ?_
      rintro e wd ⟨rfl, hb⟩
      have hqd : Below wb.heap.size wb wd := hqc.trans (hb.mono hqc.size)
      clear hb hsf hrf
      refine hK.out _ _ ⟨far.out _ (fr _ hqd), ((hqd).cell (p := ⟨b3, o3 + m, none⟩) hb3w).trans g0, ((hqd).cell (p := ⟨b4, o4, none⟩) hb4w).trans d0⟩ (fun hS9 => ?_)
      refine wpAnyH_take (i := 19) (oi := ?oi166) (v := ?v166) ?hi166 (by kernel_rfl) ?hf166 ?hr166 ?hQ166 (Or.inl ⟨?hw166, ?hy166⟩) (by assumption) ?rest166
      case hi166 => simp only [List.getElem?_toArray, List.getElem?_cons_succ, List.getElem?_cons_zero]; rfl
      case hf166 => kernel_rfl
      case hr166 => kernel_rfl
      case hw166 => rfl
      case hy166 => (intro w hSw; (try dsimp only at hSw); go_simp; all_goals (first | done | with_reducible rfl))
      case hQ166 => exact fun _ _ _ h => h
      simp only [Act.put, List.setIfInBounds_toArray, List.set_cons_zero, List.set_cons_succ]
      refine wpAnyH_take (i := 20) (oi := ?oi167) (v := ?v167) ?hi167 (by kernel_rfl) ?hf167 ?hr167 ?hQ167 (Or.inl ⟨?hw167, ?hy167⟩) (by assumption) ?rest167
      case hi167 => simp only [List.getElem?_toArray, List.getElem?_cons_succ, List.getElem?_cons_zero]; rfl
      case hf167 => kernel_rfl
      case hr167 => kernel_rfl
      case hw167 => rfl
      case hy167 => (intro w hSw; (try dsimp only at hSw); go_simp; all_goals (first | done | with_reducible rfl))
      case hQ167 => exact fun _ _ _ h => h
      simp only [Act.put, List.setIfInBounds_toArray, List.set_cons_zero, List.set_cons_succ]
      refine wpAnyH_take (i := 21) (oi := ?oi168) (v := ?v168) ?hi168 (by kernel_rfl) ?hf168 ?hr168 ?hQ168 (Or.inl ⟨?hw168, ?hy168⟩) (by assumption) ?rest168
      case hi168 => simp only [List.getElem?_toArray, List.getElem?_cons_succ, List.getElem?_cons_zero]; rfl
      case hf168 => kernel_rfl
      case hr168 => kernel_rfl
      case hw168 => rfl
      case hy168 => (intro w hSw; (try dsimp only at hSw); go_simp; all_goals (first | done | with_reducible rfl))
      case hQ168 => exact fun _ _ _ h => h
      simp only [Act.put, List.setIfInBounds_toArray, List.set_cons_zero, List.set_cons_succ]
      refine wpAnyH_take (i := 22) (oi := ?oi169) (v := ?v169) ?hi169 (by kernel_rfl) ?hf169 ?hr169 ?hQ169 (Or.inl ⟨?hw169, ?hy169⟩) (by assumption) ?rest169
      case hi169 => simp only [List.getElem?_toArray, List.getElem?_cons_succ, List.getElem?_cons_zero]; rfl
      case hf169 => kernel_rfl
      case hr169 => kernel_rfl
      case hw169 => rfl
      case hy169 => (intro w hSw; (try dsimp only at hSw); go_simp; all_goals (first | done | with_reducible rfl))
      case hQ169 => exact fun _ _ _ h => h
      simp only [Act.put, List.setIfInBounds_toArray, List.set_cons_zero, List.set_cons_succ]
      refine wpAnyH_take (i := 23) (oi := ?oi170) (v := ?v170) ?hi170 (by kernel_rfl) ?hf170 ?hr170 ?hQ170 (Or.inl ⟨?hw170, ?hy170⟩) (by assumption) ?rest170
      case hi170 => simp only [List.getElem?_toArray, List.getElem?_cons_succ, List.getElem?_cons_zero]; rfl
      case hf170 => kernel_rfl
      case hr170 => kernel_rfl
      case hw170 => rfl
      case hy170 => (intro w hSw; (try dsimp only at hSw); go_simp; all_goals (first | done | with_reducible rfl))
      case hQ170 => exact fun _ _ _ h => h
      simp only [Act.put, List.setIfInBounds_toArray, List.set_cons_zero, List.set_cons_succ]
      refine wpAnyH_take (i := 24) (oi := ?oi171) (v := ?v171) ?hi171 (by kernel_rfl) ?hf171 ?hr171 ?hQ171 (Or.inl ⟨?hw171, ?hy171⟩) (by assumption) ?rest171
      case hi171 => simp only [List.getElem?_toArray, List.getElem?_cons_succ, List.getElem?_cons_zero]; rfl
      case hf171 => kernel_rfl
      case hr171 => kernel_rfl
      case hw171 => rfl
      case hy171 => (intro w hSw; (try dsimp only at hSw); go_simp; all_goals (first | done | with_reducible rfl))
      case hQ171 => exact fun _ _ _ h => h
      simp only [Act.put, List.setIfInBounds_toArray, List.set_cons_zero, List.set_cons_succ]
      refine wpAnyH_take (i := 25) (oi := ?oi172) (v := ?v172) ?hi172 (by kernel_rfl) ?hf172 ?hr172 ?hQ172 (Or.inl ⟨?hw172, ?hy172⟩) (by assumption) ?rest172
      case hi172 => simp only [List.getElem?_toArray, List.getElem?_cons_succ, List.getElem?_cons_zero]; rfl
      case hf172 => kernel_rfl
      case hr172 => kernel_rfl
      case hw172 => rfl
      case hy172 => (intro w hSw; (try dsimp only at hSw); go_simp; all_goals (first | done | with_reducible rfl))
      case hQ172 => exact fun _ _ _ h => h
      simp only [Act.put, List.setIfInBounds_toArray, List.set_cons_zero, List.set_cons_succ]
      refine wpAnyH_take (i := 26) (oi := ?oi173) (v := ?v173) ?hi173 (by kernel_rfl) ?hf173 ?hr173 ?hQ173 (Or.inl ⟨?hw173, ?hy173⟩) (by assumption) ?rest173
      case hi173 => simp only [List.getElem?_toArray, List.getElem?_cons_succ, List.getElem?_cons_zero]; rfl
      case hf173 => kernel_rfl
      case hr173 => kernel_rfl
      case hw173 => rfl
      case hy173 => (intro w hSw; (try dsimp only at hSw); go_simp; all_goals (first | done | with_reducible rfl))
      case hQ173 => exact fun _ _ _ h => h
      simp only [Act.put, List.setIfInBounds_toArray, List.set_cons_zero, List.set_cons_succ]
      refine wpAnyH_take (i := 27) (oi := ?oi174) (v := ?v174) ?hi174 (by kernel_rfl) ?hf174 ?hr174 ?hQ174 (Or.inl ⟨?hw174, ?hy174⟩) (by assumption) ?rest174
      case hi174 => simp only [List.getElem?_toArray, List.getElem?_cons_succ, List.getElem?_cons_zero]; rfl
      case hf174 => kernel_rfl
      case hr174 => kernel_rfl
      case hw174 => rfl
      case hy174 => (intro w hSw; (try dsimp only at hSw); go_simp; all_goals (first | done | with_reducible rfl))
      case hQ174 => exact fun _ _ _ h => h
      simp only [Act.put, List.setIfInBounds_toArray, List.set_cons_zero, List.set_cons_succ]
      refine wpAnyH_take (i := 28) (oi := ?oi175) (v := ?v175) ?hi175 (by kernel_rfl) ?hf175 ?hr175 ?hQ175 (Or.inl ⟨?hw175, ?hy175⟩) (by assumption) ?rest175
      case hi175 => simp only [List.getElem?_toArray, List.getElem?_cons_succ, List.getElem?_cons_zero]; rfl
      case hf175 => kernel_rfl
      case hr175 => kernel_rfl
      case hw175 => rfl
      case hy175 => (intro w hSw; (try dsimp only at hSw); go_simp; all_goals (first | done | with_reducible rfl))
      case hQ175 => exact fun _ _ _ h => h
      simp only [Act.put, List.setIfInBounds_toArray, List.set_cons_zero, List.set_cons_succ]
      refine wpAnyH_take (i := 29) (oi := ?oi176) (v := ?v176) ?hi176 (by kernel_rfl) ?hf176 ?hr176 ?hQ176 (Or.inl ⟨?hw176, ?hy176⟩) (by assumption) ?rest176
      case hi176 => simp only [List.getElem?_toArray, List.getElem?_cons_succ, List.getElem?_cons_zero]; rfl
      case hf176 => kernel_rfl
      case hr176 => kernel_rfl
      case hw176 => rfl
      case hy176 => (intro w hSw; (try dsimp only at hSw); go_simp; all_goals (first | done | with_reducible rfl))
      case hQ176 => exact fun _ _ _ h => h
      simp only [Act.put, List.setIfInBounds_toArray, List.set_cons_zero, List.set_cons_succ]
      refine wpAnyH_take (i := 30) (oi := ?oi177) (v := ?v177) ?hi177 (by kernel_rfl) ?hf177 ?hr177 ?hQ177 (Or.inl ⟨?hw177, ?hy177⟩) (by assumption) ?rest177
      case hi177 => simp only [List.getElem?_toArray, List.getElem?_cons_succ, List.getElem?_cons_zero]; rfl
      case hf177 => kernel_rfl
      case hr177 => kernel_rfl
      case hw177 => rfl
      case hy177 => (intro w hSw; (try dsimp only at hSw); go_simp; all_goals (first | done | with_reducible rfl))
      case hQ177 => exact fun _ _ _ h => h
      simp only [Act.put, List.setIfInBounds_toArray, List.set_cons_zero, List.set_cons_succ]
      refine wpAnyH_take (i := 31) (oi := ?oi178) (v := ?v178) ?hi178 (by kernel_rfl) ?hf178 ?hr178 ?hQ178 (Or.inl ⟨?hw178, ?hy178⟩) (by assumption) ?rest178
      case hi178 => simp only [List.getElem?_toArray, List.getElem?_cons_succ, List.getElem?_cons_zero]; rfl
      case hf178 => kernel_rfl
      case hr178 => kernel_rfl
      case hw178 => rfl
      case hy178 => (intro w hSw; (try dsimp only at hSw); go_simp; all_goals (first | done | with_reducible rfl))
      case hQ178 => exact fun _ _ _ h => h
      simp only [Act.put, List.setIfInBounds_toArray, List.set_cons_zero, List.set_cons_succ]
      refine wpAnyH_take (i := 32) (oi := ?oi179) (v := ?v179) ?hi179 (by kernel_rfl) ?hf179 ?hr179 ?hQ179 (Or.inl ⟨?hw179, ?hy179⟩) (by assumption) ?rest179
      case hi179 => simp only [List.getElem?_toArray, List.getElem?_cons_succ, List.getElem?_cons_zero]; rfl
      case hf179 => kernel_rfl
      case hr179 => kernel_rfl
      case hw179 => rfl
      case hy179 => (intro w hSw; (try dsimp only at hSw); go_simp; all_goals (first | done | with_reducible rfl))
      case hQ179 => exact fun _ _ _ h => h
      simp only [Act.put, List.setIfInBounds_toArray, List.set_cons_zero, List.set_cons_succ]
      refine wpAnyH_take (i := 33) (oi := ?oi180) (v := ?v180) ?hi180 (by kernel_rfl) ?hf180 ?hr180 ?hQ180 (Or.inl ⟨?hw180, ?hy180⟩) (by assumption) ?rest180
      case hi180 => simp only [List.getElem?_toArray, List.getElem?_cons_succ, List.getElem?_cons_zero]; rfl
      case hf180 => kernel_rfl
      case hr180 => kernel_rfl
      case hw180 => rfl
      case hy180 => (intro w hSw; (try dsimp only at hSw); go_simp; all_goals (first | done | with_reducible rfl))
      case hQ180 => exact fun _ _ _ h => h
      simp only [Act.put, List.setIfInBounds_toArray, List.set_cons_zero, List.set_cons_succ]
      refine wpAnyH_take (i := 34) (oi := ?oi181) (v := ?v181) ?hi181 (by kernel_rfl) ?hf181 ?hr181 ?hQ181 (Or.inl ⟨?hw181, ?hy181⟩) (by assumption) ?rest181
      case hi181 => simp only [List.getElem?_toArray, List.getElem?_cons_succ, List.getElem?_cons_zero]; rfl
      case hf181 => kernel_rfl
      case hr181 => kernel_rfl
      case hw181 => rfl
      case hy181 => (intro w hSw; (try dsimp only at hSw); go_simp; all_goals (first | done | with_reducible rfl))
      case hQ181 => exact fun _ _ _ h => h
      simp only [Act.put, List.setIfInBounds_toArray, List.set_cons_zero, List.set_cons_succ]
      refine wpAnyH_take (i := 35) (oi := ?oi182) (v := ?v182) ?hi182 (by kernel_rfl) ?hf182 ?hr182 ?hQ182 (Or.inl ⟨?hw182, ?hy182⟩) (by assumption) ?rest182
      case hi182 => simp only [List.getElem?_toArray, List.getElem?_cons_succ, List.getElem?_cons_zero]; rfl
      case hf182 => kernel_rfl
      case hr182 => kernel_rfl
      case hw182 => rfl
      case hy182 => (intro w hSw; (try dsimp only at hSw); go_simp; all_goals (first | done | with_reducible rfl))
      case hQ182 => exact fun _ _ _ h => h
      simp only [Act.put, List.setIfInBounds_toArray, List.set_cons_zero, List.set_cons_succ]
      refine wpAnyH_take (i := 36) (oi := ?oi183) (v := ?v183) ?hi183 (by kernel_rfl) ?hf183 ?hr183 ?hQ183 (Or.inl ⟨?hw183, ?hy183⟩) (by assumption) ?rest183
      case hi183 => simp only [List.getElem?_toArray, List.getElem?_cons_succ, List.getElem?_cons_zero]; rfl
      case hf183 => kernel_rfl
      case hr183 => kernel_rfl
      case hw183 => rfl
      case hy183 => (intro w hSw; (try dsimp only at hSw); go_simp; all_goals (first | done | with_reducible rfl))
      case hQ183 => exact fun _ _ _ h => h
      simp only [Act.put, List.setIfInBounds_toArray, List.set_cons_zero, List.set_cons_succ]
      refine wpAnyH_take (i := 37) (oi := ?oi184) (v := ?v184) ?hi184 (by kernel_rfl) ?hf184 ?hr184 ?hQ184 (Or.inl ⟨?hw184, ?hy184⟩) (by assumption) ?rest184
      case hi184 => simp only [List.getElem?_toArray, List.getElem?_cons_succ, List.getElem?_cons_zero]; rfl
      case hf184 => kernel_rfl
      case hr184 => kernel_rfl
      case hw184 => rfl
      case hy184 => (intro w hSw; (try dsimp only at hSw); go_simp; all_goals (first | done | with_reducible rfl))
      case hQ184 => exact fun _ _ _ h => h
      simp only [Act.put, List.setIfInBounds_toArray, List.set_cons_zero, List.set_cons_succ]
      refine wpAnyH_take (i := 38) (oi := ?oi185) (v := ?v185) ?hi185 (by kernel_rfl) ?hf185 ?hr185 ?hQ185 (Or.inl ⟨?hw185, ?hy185⟩) (by assumption) ?rest185
      case hi185 => simp only [List.getElem?_toArray, List.getElem?_cons_succ, List.getElem?_cons_zero]; rfl
      case hf185 => kernel_rfl
      case hr185 => kernel_rfl
      case hw185 => rfl
      case hy185 => (intro w hSw; (try dsimp only at hSw); go_simp; all_goals (first | done | with_reducible rfl))
      case hQ185 => exact fun _ _ _ h => h
      simp only [Act.put, List.setIfInBounds_toArray, List.set_cons_zero, List.set_cons_succ]
      refine wpAnyH_take (i := 40) (oi := ?oi186) (v := ?v186) ?hi186 (by kernel_rfl) ?hf186 ?hr186 ?hQ186 (Or.inl ⟨?hw186, ?hy186⟩) (by assumption) ?rest186
      case hi186 => simp only [List.getElem?_toArray, List.getElem?_cons_succ, List.getElem?_cons_zero]; rfl
      case hf186 => kernel_rfl
      case hr186 => kernel_rfl
      case hw186 => rfl
      case hy186 => (intro w hSw; (try dsimp only at hSw); go_simp; all_goals (first | done | with_reducible rfl))
      case hQ186 => exact fun _ _ _ h => h
      simp only [Act.put, List.setIfInBounds_toArray, List.set_cons_zero, List.set_cons_succ]
      refine wpAnyH_take (i := 41) (oi := ?oi187) (v := ?v187) ?hi187 (by kernel_rfl) ?hf187 ?hr187 ?hQ187 (Or.inl ⟨?hw187, ?hy187⟩) (by assumption) ?rest187
      case hi187 => simp only [List.getElem?_toArray, List.getElem?_cons_succ, List.getElem?_cons_zero]; rfl
      case hf187 => kernel_rfl
      case hr187 => kernel_rfl
      case hw187 => rfl
      case hy187 => (intro w hSw; (try dsimp only at hSw); go_simp; all_goals (first | done | with_reducible rfl))
      case hQ187 => exact fun _ _ _ h => h
      simp only [Act.put, List.setIfInBounds_toArray, List.set_cons_zero, List.set_cons_succ]
      refine wpAnyH_ready (rs := [39]) (by kernel_rfl) (by simp) ?_
      refine AllReadyH.cons (o := ?oi188) ?hi188 (fun K hK => ?step188) AllReadyH.nil
      case hi188 => simp only [List.getElem?_toArray, List.getElem?_cons_succ, List.getElem?_cons_zero]; rfl
      rw [if_pos (by rfl)]
      go_simp
      go_at_call 42
      refine (CSz.out _ hqd).mono ?_
      rintro e we ⟨rfl, hb⟩
      have hqe : Below wb.heap.size wb we := hqd.trans (hb.mono hqd.size)
      clear hb
      refine hK.out _ _ ⟨far.out _ (fr _ hqe), ((hqe).cell (p := ⟨b3, o3 + m, none⟩) hb3w).trans g0, ((hqe).cell (p := ⟨b4, o4, none⟩) hb4w).trans d0⟩ (fun hS9 => ?_)
      refine wpAnyH_take (i := 42) (oi := ?oi189) (v := ?v189) ?hi189 (by kernel_rfl) ?hf189 ?hr189 ?hQ189 (Or.inl ⟨?hw189, ?hy189⟩) (by assumption) ?rest189
      case hi189 => simp only [List.getElem?_toArray, List.getElem?_cons_succ, List.getElem?_cons_zero]; rfl
      case hf189 => kernel_rfl
      case hr189 => kernel_rfl
      case hw189 => rfl
      case hy189 => (intro w hSw; (try dsimp only at hSw); go_simp; all_goals (first | done | with_reducible rfl))
      case hQ189 => exact fun _ _ _ h => h
      simp only [Act.put, List.setIfInBounds_toArray, List.set_cons_zero, List.set_cons_succ]
      refine wpAnyH_take (i := 43) (oi := ?oi190) (v := ?v190) ?hi190 (by kernel_rfl) ?hf190 ?hr190 ?hQ190 (Or.inl ⟨?hw190, ?hy190⟩) (by assumption) ?rest190
      case hi190 => simp only [List.getElem?_toArray, List.getElem?_cons_succ, List.getElem?_cons_zero]; rfl
      case hf190 => kernel_rfl
      case hr190 => kernel_rfl
      case hw190 => rfl
      case hy190 => (intro w hSw; (try dsimp only at hSw); go_simp; all_goals (first | done | with_reducible rfl))
      case hQ190 => exact fun _ _ _ h => h
      simp only [Act.put, List.setIfInBounds_toArray, List.set_cons_zero, List.set_cons_succ]
      refine wpAnyH_take (i := 44) (oi := ?oi191) (v := ?v191) ?hi191 (by kernel_rfl) ?hf191 ?hr191 ?hQ191 (Or.inl ⟨?hw191, ?hy191⟩) (by assumption) ?rest191
      case hi191 => simp only [List.getElem?_toArray, List.getElem?_cons_succ, List.getElem?_cons_zero]; rfl
      case hf191 => kernel_rfl
      case hr191 => kernel_rfl
      case hw191 => rfl
      case hy191 => (intro w hSw; (try dsimp only at hSw); go_simp; all_goals (first | done | with_reducible rfl))
      case hQ191 => exact fun _ _ _ h => h
      simp only [Act.put, List.setIfInBounds_toArray, List.set_cons_zero, List.set_cons_succ]
      refine wpAnyH_take (i := 45) (oi := ?oi192) (v := ?v192) ?hi192 (by kernel_rfl) ?hf192 ?hr192 ?hQ192 (Or.inl ⟨?hw192, ?hy192⟩) (by assumption) ?rest192
      case hi192 => simp only [List.getElem?_toArray, List.getElem?_cons_succ, List.getElem?_cons_zero]; rfl
      case hf192 => kernel_rfl
      case hr192 => kernel_rfl
      case hw192 => rfl
      case hy192 => (intro w hSw; (try dsimp only at hSw); go_simp; all_goals (first | done | with_reducible rfl))
      case hQ192 => exact fun _ _ _ h => h
      simp only [Act.put, List.setIfInBounds_toArray, List.set_cons_zero, List.set_cons_succ]
      refine wpAnyH_done (by kernel_rfl) ?_ _
      have HBz := hid (HBb.out.trans ((fr _ hqe).mono HBb.out.size))
      clear hS hS9 g0 d0 o0 o1 o2 f0 f1 f2
      go_wp2_with fail
      go_ret
      exact ⟨rfl, HBz.out⟩
end Go.Proofs.Ytoiagfdhanhnkaa
