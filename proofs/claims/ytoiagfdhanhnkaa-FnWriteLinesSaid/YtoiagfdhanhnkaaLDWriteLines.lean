/-
  WALK: the law FnWriteLines. By gen_fil.py.
-/
import Derived.Test.YtoiagfdhanhnkaaLDWriteLine
namespace Go.Proofs.Ytoiagfdhanhnkaa
open Go.RowKit Nm
set_option linter.unusedSimpArgs false
set_option linter.unusedVariables false
theorem ends_iff {l t : TxtL} : endsL l t = true ↔ t <:+ l := by
  unfold endsL
  simp only [Bool.and_eq_true, decide_eq_true_eq]
  constructor
  · rintro ⟨h1, h2⟩
    rw [← h2]; exact List.drop_suffix _ _
  · rintro ⟨s, rfl⟩
    refine ⟨by simp, ?_⟩
    rw [List.length_append, show s.length + t.length - t.length = s.length by omega, List.drop_left]
theorem lines_suffix {l : TxtL} : ∀ {d E : Fil}, linesG d l = some E → allL E.li <:+ allL d.li ++ l := by
  induction l with
  | nil => intro d E h; cases h; simp
  | cons x r ih =>
    intro d E h
    unfold linesG at h
    cases hw : writeX d x with
    | none => rw [hw] at h; cases h
    | some e =>
      rw [hw] at h
      obtain ⟨_, _, _, _, l0, lt, hli, _, hen⟩ := write_facts hw
      obtain ⟨s, hs⟩ := ends_iff.1 hen
      refine List.IsSuffix.trans (show allL E.li <:+ allL e.li ++ r from ih h) ?_
      rw [hli, allL_put, ← hs]
      exact ⟨s, by simp⟩
theorem lines_keep {l : TxtL} : ∀ {d E : Fil}, linesG d l = some E → d.mo = E.mo ∧ d.ke = E.ke := by
  induction l with
  | nil => intro d E h; cases h; exact ⟨rfl, rfl⟩
  | cons x r ih =>
    intro d E h
    unfold linesG at h
    cases hw : writeX d x with
    | none => rw [hw] at h; cases h
    | some e =>
      rw [hw] at h
      have h7 := ih (show linesG e r = some E from h)
      obtain ⟨a1, a2⟩ : e.mo = d.mo ∧ e.ke = d.ke := by
        obtain ⟨_, _, h8, h9, _⟩ := write_facts hw
        exact ⟨h8, h9⟩
      exact ⟨a1.symm.trans h7.1, a2.symm.trans h7.2⟩
theorem linesOk_subF {l m : TxtL} (h : linesOk l = true) (hs : ∀ x ∈ m, x ∈ l) (hl : m.length ≤ l.length) : linesOk m = true := by
  unfold linesOk at h ⊢
  simp only [Bool.and_eq_true, List.all_eq_true, decide_eq_true_eq] at h ⊢
  exact ⟨fun x hx => h.1 x (hs x hx), by omega⟩
theorem lines_split {d E : Fil} {l : TxtL} (k : Nat) (h : linesX d l = some E) : ∃ M, linesX d (l.take k) = some M ∧ linesX M (l.drop k) = some E := by
  obtain ⟨h1, h2, h3, h4⟩ := linesX_ok h
  have ht : linesOk (l.take k) = true := linesOk_subF h2 (fun x hx => List.mem_of_mem_take hx) (by rw [List.length_take]; omega)
  have hd : linesOk (l.drop k) = true := linesOk_subF h2 (fun x hx => List.mem_of_mem_drop hx) (by rw [List.length_drop]; omega)
  have e : linesG d (l.take k ++ l.drop k) = some E := by rw [List.take_append_drop]; exact h3
  rw [linesG_app] at e
  cases hm : linesG d (l.take k) with
  | none => rw [hm] at e; cases e
  | some M =>
    rw [hm] at e
    exact ⟨M, by rw [linesX_at h1 ht, hm], by rw [linesX_at (lines_ok h1 hm) hd]; exact e⟩
theorem StrsIn.cutF {w : World} {B n c : Nat} {A : Option Addr} {l : TxtL} (h : StrsIn w B (.slice A n c) l) {k : Nat} (hk : k ≤ n) : StrsIn w B (.slice A k c) (l.take k) := by
  obtain ⟨A', c', he, _, _⟩ := h.1.form
  injection he with _ h2 _
  obtain ⟨h1, hf⟩ := h
  rw [← h2] at h1
  have h3 := h1.cut hk
  rw [← List.map_take] at h3
  refine ⟨by rw [List.length_take, show min k l.length = k by omega]; exact h3, by have := hf.1; rw [List.length_take]; omega, fun t ht => hf.2 t (List.mem_of_mem_take ht)⟩
set_option maxHeartbeats 16000000 in
set_option maxRecDepth 100000 in
theorem walk_FnWriteLines (a0 : Option Addr) (len0 cap0 : Nat) (z0 : List Int) (w : World) (w0 : IsRow .u8 w a0 len0 cap0 z0) :
    Calls Try.prog 11 #[.slice a0 len0 cap0] w (BoolPost w true) := by
  have hb0 := w0.leF
  by_cases h1 : (1048576 : Int) < (len0 : Int)
  · go_enter Try.func11, Try.ntmps11
    go_wp2_with fail
    go_ret
    exact ⟨rfl, Below.refl _ _⟩
  have DR := hid (drawWriteLines_c a0 len0 cap0 z0 w w0)
  clear w0
  go_enter Try.func11, Try.ntmps11
  go_wp2_with fail
  refine DR.out.mono ?_
  rintro e w1 ⟨v, ul, rs, rs2, d, l, rfl, hs, hsm, hsl, hl13, hl45, hr, hb⟩
  obtain ⟨A, n, c, rfl⟩ := hs.form hr.right
  obtain ⟨mo, ke, L⟩ := d
  have hs' : FilR rs (.agg #[.int .i64 mo, .int .i64 ke, .slice A n c]) ⟨mo, ke, L⟩ := hs
  have HS := hid hs'
  have HSM := hid hsm
  have HF := hid (sm_fit hsm)
  have HSl := hid hsl
  have HFl := hid (show StrsFit l from ⟨by unfold maxTxt; omega, fun t ht => by have := hl45 t ht; unfold maxTxt; omega⟩)
  have HB := hid (hb.alloc hb.size (.cells #[.int .i64 mo, .int .i64 ke, .slice A n c] 26))
  have HR := hid ((hr.bx hb.size #[.int .i64 mo, .int .i64 ke, .slice A n c] 26 3 rfl).perm (List.Perm.append_left _ List.perm_append_comm))
  have hwb : w.heap.size ≤ w1.heap.size := hb.size
  have hul := HSl.out
  obtain ⟨Al, nl, cl, rfl⟩ := hsl.form hr.left
  have hnl : nl = l.length := by obtain ⟨_, _, e8, _, _⟩ := (StrsR.at_ HSl.out hr.left HFl.out).1.form; injection e8
  have hnlc : nl ≤ cl := by obtain ⟨_, _, e8, h5, h6⟩ := (StrsR.at_ HSl.out hr.left HFl.out).1.form; injection e8 with a1 a2 a3; omega
  have hcl : cl ≤ maxLen := by obtain ⟨_, _, e8, h5, h6⟩ := (StrsR.at_ HSl.out hr.left HFl.out).1.form; injection e8 with a1 a2 a3; omega
  unfold maxLen at hcl
  have hnl13 : nl ≤ 13 := by omega
  have hAl : 0 < nl → ∃ g, Al = some ⟨g, 0, none⟩ := fun h0 => by
    have h9 := HSl.out.own hr.left
    rw [← hnl] at h9
    obtain ⟨g, hg, _⟩ := own_some h9 h0
    exact ⟨g, hg⟩
  have HAl := hid hAl
  replace hnl := hid hnl
  clear hs hs' hsm hr hb DR hsl hul hl13 hl45 hAl
  have CI := hid (fun (W : World) (v v2 : Value) (h : FilIn W W.heap.size v ⟨mo, ke, L⟩) (h2 : StrsIn W W.heap.size v2 l) => implWriteLines_c h h2 (Nat.le_refl _))
  have CS := hid (fun (W : World) (v v2 : Value) (h : FilIn W W.heap.size v ⟨mo, ke, L⟩) (h2 : StrsIn W W.heap.size v2 l) => specWriteLines_c h h2 (Nat.le_refl _))
  have HFit := hid (linesX_fit (d := ⟨mo, ke, L⟩) (l := l))
  have HFa := hid (fun (hb : (linesX ⟨mo, ke, L⟩ l).isSome = true) => (show linesX ⟨mo, ke, L⟩ l = some (filOr (linesX ⟨mo, ke, L⟩ l)) by cases hX : linesX ⟨mo, ke, L⟩ l with | none => (rw [hX] at hb; cases hb) | some e => rfl))
  have HLe := hid (show (filOr (linesX ⟨mo, ke, L⟩ l)).li.length ≤ 1000 by cases hX : linesX ⟨mo, ke, L⟩ l with | none => (show ([] : StrssD).length ≤ 1000; simp) | some e => (have := (fil_small (linesX_ok hX).2.2.2).1; show e.li.length ≤ 1000; omega))
  generalize hXX : linesX ⟨mo, ke, L⟩ l = XX at *
  generalize filOr XX = E at *
  generalize XX.isSome = b at *
  have hbf0 : w1.heap.size < (w1.alloc (.cells #[.int .i64 mo, .int .i64 ke, .slice A n c] 26)).heap.size := by simp
  have f0 := (Rows.bc HR.out.left 0 rfl).1
  have f1 := (Rows.bc HR.out.left 1 rfl).1
  have f2 := (Rows.bc HR.out.left 2 rfl).1
  go_wp2_with fail
  refine (CI.out _ _ _ (FilR.at_ HS.out HR.out.right.left HF.out) (StrsR.at_ HSl.out HR.out.right.right HFl.out)).mono ?_
  rintro e wn ⟨u, rsu, rfl, hs9, hr9, hb⟩
  obtain ⟨Au, nu, cu, rfl⟩ := hs9.form hr9
  obtain ⟨xm, xk, xl⟩ := E
  have Su2 : Hid (FilR rsu (.agg #[.int .i64 xm, .int .i64 xk, .slice Au nu cu]) ⟨xm, xk, xl⟩) := hs9
  replace HR := hid (HR.out.newer hb hr9 HB.out.size)
  replace HB := hid (HB.out.trans (hb.mono HB.out.size))
  clear hb hs9 hr9 f0 f1 f2 hbf0
  have HRb : Hid (Rows (wn.alloc (.cells #[.int .i64 xm, .int .i64 xk, .slice Au nu cu] 26)) w.heap.size _) := hid (HR.out.bx HB.out.size #[.int .i64 xm, .int .i64 xk, .slice Au nu cu] 26 3 rfl)
  have HBb := hid (HB.out.alloc HB.out.size (.cells #[.int .i64 xm, .int .i64 xk, .slice Au nu cu] 26))
  have o0 := (Rows.bc HRb.out.left 0 rfl).1
  have o1 := (Rows.bc HRb.out.left 1 rfl).1
  have o2 := (Rows.bc HRb.out.left 2 rfl).1
  have f0 := (Rows.bc HRb.out.right.right.left 0 rfl).1
  have f1 := (Rows.bc HRb.out.right.right.left 1 rfl).1
  have f2 := (Rows.bc HRb.out.right.right.left 2 rfl).1
  have g0 := (Rows.bc HR.out.right.left 0 rfl).1
  have g1 := (Rows.bc HR.out.right.left 1 rfl).1
  have g2 := (Rows.bc HR.out.right.left 2 rfl).1
  have hbf : w1.heap.size < wn.heap.size := (Rows.bc HR.out.right.left 0 rfl).2
  clear HR HB
  go_wp2_with fail
  generalize wn.alloc (.cells #[.int .i64 xm, .int .i64 xk, .slice Au nu cu] 26) = w3 at *
  generalize hbx : wn.heap.size = bx at *
  clear g0 g1 g2
  have hbl1 : w1.heap.size < w3.heap.size := (Rows.bc HRb.out.right.right.left 0 rfl).2
  have hbl2 : bx < w3.heap.size := (Rows.bc HRb.out.left 0 rfl).2
  have HO := hid (And.intro o0 (And.intro o1 (And.intro o2 (And.intro f0 (And.intro f1 f2)))))
  have far : ∀ (W : World), Below w3.heap.size w3 W → W.cell? ⟨bx, 0, none⟩ = some (.int .i64 xm) ∧ W.cell? ⟨bx, 1, none⟩ = some (.int .i64 xk) ∧ W.cell? ⟨bx, 2, none⟩ = some (.slice Au nu cu) ∧ W.cell? ⟨w1.heap.size, 0, none⟩ = some (.int .i64 mo) ∧ W.cell? ⟨w1.heap.size, 1, none⟩ = some (.int .i64 ke) ∧ W.cell? ⟨w1.heap.size, 2, none⟩ = some (.slice A n c) := fun W hW => ⟨(hW.cell (p := ⟨bx, 0, none⟩) hbl2).trans HO.out.1, (hW.cell (p := ⟨bx, 1, none⟩) hbl2).trans HO.out.2.1, (hW.cell (p := ⟨bx, 2, none⟩) hbl2).trans HO.out.2.2.1, (hW.cell (p := ⟨w1.heap.size, 0, none⟩) hbl1).trans HO.out.2.2.2.1, (hW.cell (p := ⟨w1.heap.size, 1, none⟩) hbl1).trans HO.out.2.2.2.2.1, (hW.cell (p := ⟨w1.heap.size, 2, none⟩) hbl1).trans HO.out.2.2.2.2.2⟩
  replace far := hid far
  clear hbl1 HO CI
  refine (CS.out _ _ _ (FilR.at_ HS.out HRb.out.right.right.right.left HF.out) (StrsR.at_ HSl.out HRb.out.right.right.right.right HFl.out)).mono ?_
  rintro e wy ⟨y, rsy, rfl, hsy, hry, hb⟩
  obtain ⟨Ay, ny, cy, rfl⟩ := hsy.form hry
  have Sy : Hid (FilR rsy (.agg #[.int .i64 xm, .int .i64 xk, .slice Ay ny cy]) ⟨xm, xk, xl⟩) := hsy
  have hqy : Below w3.heap.size w3 (wy.alloc (.cells #[.int .i64 xm, .int .i64 xk, .slice Ay ny cy] 26)) := hb.alloc hb.size _
  have HRy := hid (hry.below ((Below.refl wy.heap.size wy).alloc (Nat.le_refl _) (.cells #[.int .i64 xm, .int .i64 xk, .slice Ay ny cy] 26)))
  have KY := Blk.new wy #[.int .i64 xm, .int .i64 xk, .slice Ay ny cy] 26
  have hqyy : Below w3.heap.size w3 wy := hb
  have hoo := far.out _ hqyy
  obtain ⟨o0, o1, o2, f0, f1, f2⟩ := hoo
  have hbyx : bx < wy.heap.size := Nat.lt_of_lt_of_le hbl2 hb.size
  clear hsy hry hb
  have HQY := hid hqy
  have HKY := hid KY
  clear hqy hqyy KY
  go_wp2_with fail
  generalize wy.alloc (.cells #[.int .i64 xm, .int .i64 xk, .slice Ay ny cy] 26) = w4 at *
  generalize hby : wy.heap.size = byy at *
  have hF4 := far.out _ HQY.out
  have y0 := (HKY.out.2 0 _ rfl).1
  have y1 := (HKY.out.2 1 _ rfl).1
  have y2 := (HKY.out.2 2 _ rfl).1
  have hbyl : byy < w4.heap.size := HKY.out.1
  have CE := hid (equalFiles_c (FilR.at_ Su2.out (HRb.out.right.left.below HQY.out) HFit.out) (FilR.at_ Sy.out HRy.out HFit.out) HLe.out)
  refine CE.out.mono ?_
  rintro e wz ⟨rfl, hbz⟩
  have hqz := hid (HQY.out.trans (hbz.mono HQY.out.size))
  have hF5 := far.out _ hqz.out
  have yy0 := (hbz.cell (p := ⟨byy, 0, none⟩) hbyl).trans y0
  have yy1 := (hbz.cell (p := ⟨byy, 1, none⟩) hbyl).trans y1
  have yy2 := (hbz.cell (p := ⟨byy, 2, none⟩) hbyl).trans y2
  have HRy2 := hid (HRy.out.below hbz)
  clear o0 o1 o2 f0 f1 f2 y0 y1 y2 hF4 CE hbz HRy
  obtain ⟨o0, o1, o2, f0, f1, f2⟩ := hF5
  cases b with
  | false =>
    have CE := hid (equalFiles_c (FilR.at_ Su2.out (HRb.out.right.left.below hqz.out) HFit.out) (FilR.at_ Sy.out HRy2.out HFit.out) HLe.out)
    clear HFa
    go_wp2_with fail
    refine CE.out.mono ?_
    rintro e wq ⟨rfl, hb⟩
    have HBz := hid (HBb.out.trans ((hqz.out.trans (hb.mono hqz.out.size)).mono HBb.out.size))
    clear hb
    go_wp2_with fail
    go_ret
    exact ⟨rfl, HBz.out⟩
  | true =>
    have hX0 : XX = some ⟨xm, xk, xl⟩ := HFa.out rfl
    subst hX0
    obtain ⟨hz, hlk, hlg, hE⟩ := linesX_ok hXX
    obtain ⟨hke1, hke2⟩ : mo = xm ∧ ke = xk := lines_keep hlg
    cases hke1
    cases hke2
    have HSuf := hid (ends_iff.2 (lines_suffix hlg))
    have HAf := hid (show allX ⟨mo, ke, L⟩ = allL L by unfold allX; rw [hz]; rfl)
    have HAx := hid (show allX ⟨mo, ke, xl⟩ = allL xl by unfold allX; rw [hE]; rfl)
    have HEq := hid hXX
    have HE := hid hE
    have HZz := hid hz
    clear hz hlk hlg hE hXX HFa
    rcases Nat.eq_zero_or_pos nl with h0 | h0
    · have hlnil : l = [] := List.eq_nil_of_length_eq_zero (by have := hnl.out; omega)
      subst h0
      have HL := hid (fun (W : World) (hW : Below wz.heap.size wz W) => (show StrsIn W W.heap.size (.slice Al 0 cl) (l.take 0) from by rw [hlnil]; exact StrsIn.zeroF W W.heap.size Al cl (by unfold maxLen; omega)))
      have HL2 := hid (fun (W : World) (hW : Below wz.heap.size wz W) => (show StrsIn W W.heap.size (.slice Al 0 cl) (l.drop 0) from by rw [hlnil]; exact StrsIn.zeroF W W.heap.size Al cl (by unfold maxLen; omega)))
      clear hlnil
      by_cases hc0 : cl = 0
      · subst hc0
        obtain ⟨M, hM1, hM2⟩ := lines_split 0 HEq.out
        have hMok := (linesX_ok hM1).2.2.2
        obtain ⟨mm, mk, ml⟩ := M
        have HSrc := hid (fun (W : World) (hW : Below wz.heap.size wz W) => FilR.at_ HS.out (HRb.out.right.right.right.left.below (hqz.out.trans (hW.mono hqz.out.size))) HF.out)
        have CW := hid (fun (W : World) (v v2 : Value) (h : FilIn W W.heap.size v ⟨mo, ke, L⟩) (h2 : StrsIn W W.heap.size v2 (l.take 0)) => (show Calls Try.prog 24 #[v, v2] W (FilPostO W ⟨mm, mk, ml⟩ true) from by have h9 := implWriteLines_c h h2 (Nat.le_refl _); rw [hM1] at h9; exact h9))
        have CW2 := hid (fun (W : World) (v v2 : Value) (h : FilIn W W.heap.size v ⟨mm, mk, ml⟩) (h2 : StrsIn W W.heap.size v2 (l.drop 0)) => (show Calls Try.prog 24 #[v, v2] W (FilPostO W ⟨mo, ke, xl⟩ true) from by have h9 := implWriteLines_c h h2 (Nat.le_refl _); rw [hM2] at h9; exact h9))
        have HLl := hid (fun (W : World) (hW : Below wz.heap.size wz W) => StrsR.at_ HSl.out (HRb.out.right.right.right.right.below (hqz.out.trans (hW.mono hqz.out.size))) HFl.out)
        have HCl := hid (fun (W : World) (hW : Below wz.heap.size wz W) => (far.out W (hqz.out.trans (hW.mono hqz.out.size))).2.2.2)
        have HMf := hid (fil_fit hMok)
        clear hM1 hM2 hMok o0 o1 o2 f0 f1 f2
        go_wp2_with fail
        go_cut [10, 11] from 14 (fun s10 s11 wc => ∃ (bm : Nat) (Am : Option Addr) (nm cm : Nat) (rsm : List Row), s10 = .pointer (some ⟨bm, 0, none⟩) ∧ s11 = .bool true ∧ Hid (FilR rsm (.agg #[.int .i64 mm, .int .i64 mk, .slice Am nm cm]) ⟨mm, mk, ml⟩) ∧ Hid (Rows wc wz.heap.size ([bxRow 26 3 bm [.int .i64 mm, .int .i64 mk, .slice Am nm cm]] ++ rsm)) ∧ Hid (Below wz.heap.size wz wc))
        case first =>
          have hq9 : Below wz.heap.size wz wz := Below.refl _ _
          have c0 := (HCl.out _ hq9).1
          have c1 := (HCl.out _ hq9).2.1
          have c2 := (HCl.out _ hq9).2.2
          refine wp_region_held_drew (S := (fun w' : World => w'.cell? ⟨w1.heap.size, 0, none⟩ = some (.int .i64 mo) ∧ w'.cell? ⟨w1.heap.size, 1, none⟩ = some (.int .i64 ke) ∧ w'.cell? ⟨w1.heap.size, 2, none⟩ = some (.slice A n c))) (by kernel_rfl) ⟨c0, c1, c2⟩ (fun hS => ?_)
          have hq0 : Below wz.heap.size wz wz.drew := hq9.drew
          clear c0 c1 c2
          have c0 := (HCl.out _ hq0).1
          have c1 := (HCl.out _ hq0).2.1
          have c2 := (HCl.out _ hq0).2.2
          refine wpAnyH_take (i := 0) (oi := ?oi101) (v := ?v101) ?hi101 (by kernel_rfl) ?hf101 ?hr101 ?hQ101 (Or.inl ⟨?hw101, ?hy101⟩) (by assumption) ?rest101
          case hi101 => simp only [List.getElem?_toArray, List.getElem?_cons_succ, List.getElem?_cons_zero]; rfl
          case hf101 => kernel_rfl
          case hr101 => kernel_rfl
          case hw101 => rfl
          case hy101 => (intro w hSw; (try dsimp only at hSw); go_simp; all_goals (first | done | with_reducible rfl))
          case hQ101 => exact fun _ _ _ h => h
          simp only [Act.put, List.setIfInBounds_toArray, List.set_cons_zero, List.set_cons_succ]
          refine wpAnyH_take (i := 1) (oi := ?oi102) (v := ?v102) ?hi102 (by kernel_rfl) ?hf102 ?hr102 ?hQ102 (Or.inl ⟨?hw102, ?hy102⟩) (by assumption) ?rest102
          case hi102 => simp only [List.getElem?_toArray, List.getElem?_cons_succ, List.getElem?_cons_zero]; rfl
          case hf102 => kernel_rfl
          case hr102 => kernel_rfl
          case hw102 => rfl
          case hy102 => (intro w hSw; (try dsimp only at hSw); go_simp; all_goals (first | done | with_reducible rfl))
          case hQ102 => exact fun _ _ _ h => h
          simp only [Act.put, List.setIfInBounds_toArray, List.set_cons_zero, List.set_cons_succ]
          refine wpAnyH_take (i := 2) (oi := ?oi103) (v := ?v103) ?hi103 (by kernel_rfl) ?hf103 ?hr103 ?hQ103 (Or.inl ⟨?hw103, ?hy103⟩) (by assumption) ?rest103
          case hi103 => simp only [List.getElem?_toArray, List.getElem?_cons_succ, List.getElem?_cons_zero]; rfl
          case hf103 => kernel_rfl
          case hr103 => kernel_rfl
          case hw103 => rfl
          case hy103 => (intro w hSw; (try dsimp only at hSw); go_simp; all_goals (first | done | with_reducible rfl))
          case hQ103 => exact fun _ _ _ h => h
          simp only [Act.put, List.setIfInBounds_toArray, List.set_cons_zero, List.set_cons_succ]
          refine wpAnyH_take (i := 3) (oi := ?oi104) (v := ?v104) ?hi104 (by kernel_rfl) ?hf104 ?hr104 ?hQ104 (Or.inl ⟨?hw104, ?hy104⟩) (by assumption) ?rest104
          case hi104 => simp only [List.getElem?_toArray, List.getElem?_cons_succ, List.getElem?_cons_zero]; rfl
          case hf104 => kernel_rfl
          case hr104 => kernel_rfl
          case hw104 => rfl
          case hy104 => (intro w hSw; (try dsimp only at hSw); go_simp; all_goals (first | done | with_reducible rfl))
          case hQ104 => exact fun _ _ _ h => h
          simp only [Act.put, List.setIfInBounds_toArray, List.set_cons_zero, List.set_cons_succ]
          clear hq9
          generalize wz.drew = wx at *
          refine wpAnyH_ready (rs := [4, 8]) (by kernel_rfl) (by simp) ?_
          refine AllReadyH.cons (o := ?oi105) ?hi105 (fun K hK => ?stepA105) (AllReadyH.cons (o := ?oj105) ?hj105 (fun K hK => ?stepB105) AllReadyH.nil)
          case hi105 => simp only [List.getElem?_toArray, List.getElem?_cons_succ, List.getElem?_cons_zero]; rfl
          case hj105 => simp only [List.getElem?_toArray, List.getElem?_cons_succ, List.getElem?_cons_zero]; rfl
          all_goals rw [if_pos (by rfl)]
          all_goals go_simp
          · go_at_call 24
            refine (CW.out _ _ _ (HSrc.out _ hq0) (HL.out _ hq0)).mono ?_
            rintro e wa ⟨um, rsm, rfl, hsm, hrm, hb⟩
            obtain ⟨Am, nm, cm, rfl⟩ := hsm.form hrm
            have hqa : Below wz.heap.size wz wa := hq0.trans (hb.mono hq0.size)
            clear c0 c1 c2
            have c0 := (HCl.out _ hqa).1
            have c1 := (HCl.out _ hqa).2.1
            have c2 := (HCl.out _ hqa).2.2
            refine hK.out _ _ ⟨c0, c1, c2⟩ (fun hS9 => ?_)
            refine wpAnyH_take (i := 5) (oi := ?oi106) (v := ?v106) ?hi106 (by kernel_rfl) ?hf106 ?hr106 ?hQ106 (Or.inl ⟨?hw106, ?hy106⟩) (by assumption) ?rest106
            case hi106 => simp only [List.getElem?_toArray, List.getElem?_cons_succ, List.getElem?_cons_zero]; rfl
            case hf106 => kernel_rfl
            case hr106 => kernel_rfl
            case hw106 => rfl
            case hy106 => (intro w hSw; (try dsimp only at hSw); go_simp; all_goals (first | done | with_reducible rfl))
            case hQ106 => exact fun _ _ _ h => h
            simp only [Act.put, List.setIfInBounds_toArray, List.set_cons_zero, List.set_cons_succ]
            refine wpAnyH_take (i := 6) (oi := ?oi107) (v := ?v107) ?hi107 (by kernel_rfl) ?hf107 ?hr107 ?hQ107 (Or.inl ⟨?hw107, ?hy107⟩) (by assumption) ?rest107
            case hi107 => simp only [List.getElem?_toArray, List.getElem?_cons_succ, List.getElem?_cons_zero]; rfl
            case hf107 => kernel_rfl
            case hr107 => kernel_rfl
            case hw107 => rfl
            case hy107 => (intro w hSw; (try dsimp only at hSw); go_simp; all_goals (first | done | with_reducible rfl))
            case hQ107 => exact fun _ _ _ h => h
            simp only [Act.put, List.setIfInBounds_toArray, List.set_cons_zero, List.set_cons_succ]
            refine wpAnyH_take (i := 7) (oi := ?oi108) (v := ?v108) ?hi108 (by kernel_rfl) ?hf108 ?hr108 ?hQ108 (Or.inl ⟨?hw108, ?hy108⟩) (by assumption) ?rest108
            case hi108 => simp only [List.getElem?_toArray, List.getElem?_cons_succ, List.getElem?_cons_zero]; rfl
            case hf108 => kernel_rfl
            case hr108 => kernel_rfl
            case hw108 => rfl
            case hy108 => (intro w hSw; (try dsimp only at hSw); go_simp; all_goals (first | done | with_reducible rfl))
            case hQ108 => exact fun _ _ _ h => h
            simp only [Act.put, List.setIfInBounds_toArray, List.set_cons_zero, List.set_cons_succ]
            refine wpAnyH_ready (rs := [8]) (by kernel_rfl) (by simp) ?_
            refine AllReadyH.cons (o := ?oi109) ?hi109 (fun K hK => ?step109) AllReadyH.nil
            case hi109 => simp only [List.getElem?_toArray, List.getElem?_cons_succ, List.getElem?_cons_zero]; rfl
            rw [if_pos (by rfl)]
            go_simp
            have hqn : Below wz.heap.size wz (wa.alloc (.cells #[.int .i64 0, .int .i64 0, .slice none 0 0] 26)) := hqa.alloc hqa.size _
            have hbne : wa.heap.size ≠ w1.heap.size := Nat.ne_of_gt (World.block_lt_of_cell? wa _ c0)
            have hbnl : wz.heap.size ≤ wa.heap.size := hqa.size
            have HRn := (hrm.base hq0.size).bx hqa.size #[.int .i64 0, .int .i64 0, .slice none 0 0] 26 3 rfl
            clear c0 c1 c2 hb
            have c0 := (HCl.out _ hqn).1
            have c1 := (HCl.out _ hqn).2.1
            have c2 := (HCl.out _ hqn).2.2
            refine hK.out _ _ ⟨c0, c1, c2⟩ (fun hS9 => ?_)
            generalize wa.alloc (.cells #[.int .i64 0, .int .i64 0, .slice none 0 0] 26) = wn at *
            generalize wa.heap.size = bn at *
            obtain ⟨z0, y0, _⟩ := Rows.bcell2 (pre := []) (q := 0) HRn rfl
            obtain ⟨z1, y1, _⟩ := Rows.bcell2 (pre := []) (q := 1) HRn rfl
            obtain ⟨z2, y2, _⟩ := Rows.bcell2 (pre := []) (q := 2) HRn rfl
            refine wpAnyH_ready (rs := [9]) (by kernel_rfl) (by simp) ?_
            refine AllReadyH.cons (o := ?oi110) ?hi110 (fun K hK => ?step110) AllReadyH.nil
            case hi110 => simp only [List.getElem?_toArray, List.getElem?_cons_succ, List.getElem?_cons_zero]; rfl
            rw [if_pos (by rfl)]
            go_simp
            have far9 : ∀ (W : World) (q q' : Nat) (u u' : Value), W.cell? ⟨w1.heap.size, q, none⟩ = some u → (W.setCell ⟨bn, q', none⟩ u').cell? ⟨w1.heap.size, q, none⟩ = some u := fun W q q' u u' h => (World.cell?_setCell_far _ _ _ _ hbne).trans h
            refine hK.out _ _ ⟨far9 _ _ _ _ _ (far9 _ _ _ _ _ (far9 _ _ _ _ _ c0)), far9 _ _ _ _ _ (far9 _ _ _ _ _ (far9 _ _ _ _ _ c1)), far9 _ _ _ _ _ (far9 _ _ _ _ _ (far9 _ _ _ _ _ c2))⟩ (fun hS9 => ?_)
            refine wpAnyH_take (i := 10) (oi := ?oi111) (v := ?v111) ?hi111 (by kernel_rfl) ?hf111 ?hr111 ?hQ111 (Or.inl ⟨?hw111, ?hy111⟩) (by assumption) ?rest111
            case hi111 => simp only [List.getElem?_toArray, List.getElem?_cons_succ, List.getElem?_cons_zero]; rfl
            case hf111 => kernel_rfl
            case hr111 => kernel_rfl
            case hw111 => rfl
            case hy111 => (intro w hSw; (try dsimp only at hSw); go_simp; all_goals (first | done | with_reducible rfl))
            case hQ111 => exact fun _ _ _ h => h
            simp only [Act.put, List.setIfInBounds_toArray, List.set_cons_zero, List.set_cons_succ]
            refine wpAnyH_done (by kernel_rfl) ?_ _
            have Y0 := Rows.boxset (pre := []) (j := 0) (u := .int .i64 mm) HRn
            have Y1 := Rows.boxset (pre := []) (j := 1) (u := .int .i64 mk) Y0
            have Y2 := hid (Rows.boxset (pre := []) (j := 2) (u := .slice Am nm cm) Y1)
            have HBn := hid (((hqn.setCell (p := ⟨bn, 0, none⟩) hbnl (.int .i64 mm)).setCell (p := ⟨bn, 1, none⟩) hbnl (.int .i64 mk)).setCell (p := ⟨bn, 2, none⟩) hbnl (.slice Am nm cm))
            have HSM9 := hid hsm
            clear hS hS9 far9 Y0 Y1 z0 z1 z2 y0 y1 y2 c0 c1 c2 HRn hsm hrm
            go_wp2_with fail
            go_meet
            case rel => exact ⟨bn, Am, nm, cm, rsm, rfl, rfl, HSM9.out, Y2.out, HBn.out⟩
          · have hqn : Below wz.heap.size wz (wx.alloc (.cells #[.int .i64 0, .int .i64 0, .slice none 0 0] 26)) := hq0.alloc hq0.size _
            have hbne : wx.heap.size ≠ w1.heap.size := Nat.ne_of_gt (World.block_lt_of_cell? wx _ c0)
            have hbnl : wz.heap.size ≤ wx.heap.size := hq0.size
            have HR0 := (Rows.box wx #[.int .i64 0, .int .i64 0, .slice none 0 0] 26 3 rfl).base hq0.size
            clear c0 c1 c2
            have c0 := (HCl.out _ hqn).1
            have c1 := (HCl.out _ hqn).2.1
            have c2 := (HCl.out _ hqn).2.2
            refine hK.out _ _ ⟨c0, c1, c2⟩ (fun hS9 => ?_)
            refine wpAnyH_ready (rs := [4]) (by kernel_rfl) (by simp) ?_
            refine AllReadyH.cons (o := ?oi112) ?hi112 (fun K hK => ?step112) AllReadyH.nil
            case hi112 => simp only [List.getElem?_toArray, List.getElem?_cons_succ, List.getElem?_cons_zero]; rfl
            rw [if_pos (by rfl)]
            go_simp
            generalize wx.alloc (.cells #[.int .i64 0, .int .i64 0, .slice none 0 0] 26) = wn at *
            generalize wx.heap.size = bn at *
            go_at_call 24
            refine (CW.out _ _ _ (HSrc.out _ hqn) (HL.out _ hqn)).mono ?_
            rintro e wa ⟨um, rsm, rfl, hsm, hrm, hb⟩
            obtain ⟨Am, nm, cm, rfl⟩ := hsm.form hrm
            have hqa : Below wz.heap.size wz wa := hqn.trans (hb.mono hqn.size)
            have HRn := (HR0.newer hb hrm hqn.size).perm List.perm_append_comm
            clear hb c0 c1 c2 HR0
            have c0 := (HCl.out _ hqa).1
            have c1 := (HCl.out _ hqa).2.1
            have c2 := (HCl.out _ hqa).2.2
            refine hK.out _ _ ⟨c0, c1, c2⟩ (fun hS9 => ?_)
            refine wpAnyH_take (i := 5) (oi := ?oi113) (v := ?v113) ?hi113 (by kernel_rfl) ?hf113 ?hr113 ?hQ113 (Or.inl ⟨?hw113, ?hy113⟩) (by assumption) ?rest113
            case hi113 => simp only [List.getElem?_toArray, List.getElem?_cons_succ, List.getElem?_cons_zero]; rfl
            case hf113 => kernel_rfl
            case hr113 => kernel_rfl
            case hw113 => rfl
            case hy113 => (intro w hSw; (try dsimp only at hSw); go_simp; all_goals (first | done | with_reducible rfl))
            case hQ113 => exact fun _ _ _ h => h
            simp only [Act.put, List.setIfInBounds_toArray, List.set_cons_zero, List.set_cons_succ]
            refine wpAnyH_take (i := 6) (oi := ?oi114) (v := ?v114) ?hi114 (by kernel_rfl) ?hf114 ?hr114 ?hQ114 (Or.inl ⟨?hw114, ?hy114⟩) (by assumption) ?rest114
            case hi114 => simp only [List.getElem?_toArray, List.getElem?_cons_succ, List.getElem?_cons_zero]; rfl
            case hf114 => kernel_rfl
            case hr114 => kernel_rfl
            case hw114 => rfl
            case hy114 => (intro w hSw; (try dsimp only at hSw); go_simp; all_goals (first | done | with_reducible rfl))
            case hQ114 => exact fun _ _ _ h => h
            simp only [Act.put, List.setIfInBounds_toArray, List.set_cons_zero, List.set_cons_succ]
            refine wpAnyH_take (i := 7) (oi := ?oi115) (v := ?v115) ?hi115 (by kernel_rfl) ?hf115 ?hr115 ?hQ115 (Or.inl ⟨?hw115, ?hy115⟩) (by assumption) ?rest115
            case hi115 => simp only [List.getElem?_toArray, List.getElem?_cons_succ, List.getElem?_cons_zero]; rfl
            case hf115 => kernel_rfl
            case hr115 => kernel_rfl
            case hw115 => rfl
            case hy115 => (intro w hSw; (try dsimp only at hSw); go_simp; all_goals (first | done | with_reducible rfl))
            case hQ115 => exact fun _ _ _ h => h
            simp only [Act.put, List.setIfInBounds_toArray, List.set_cons_zero, List.set_cons_succ]
            obtain ⟨z0, y0, _⟩ := Rows.bcell2 (pre := []) (q := 0) HRn rfl
            obtain ⟨z1, y1, _⟩ := Rows.bcell2 (pre := []) (q := 1) HRn rfl
            obtain ⟨z2, y2, _⟩ := Rows.bcell2 (pre := []) (q := 2) HRn rfl
            refine wpAnyH_ready (rs := [9]) (by kernel_rfl) (by simp) ?_
            refine AllReadyH.cons (o := ?oi116) ?hi116 (fun K hK => ?step116) AllReadyH.nil
            case hi116 => simp only [List.getElem?_toArray, List.getElem?_cons_succ, List.getElem?_cons_zero]; rfl
            rw [if_pos (by rfl)]
            go_simp
            have far9 : ∀ (W : World) (q q' : Nat) (u u' : Value), W.cell? ⟨w1.heap.size, q, none⟩ = some u → (W.setCell ⟨bn, q', none⟩ u').cell? ⟨w1.heap.size, q, none⟩ = some u := fun W q q' u u' h => (World.cell?_setCell_far _ _ _ _ hbne).trans h
            refine hK.out _ _ ⟨far9 _ _ _ _ _ (far9 _ _ _ _ _ (far9 _ _ _ _ _ c0)), far9 _ _ _ _ _ (far9 _ _ _ _ _ (far9 _ _ _ _ _ c1)), far9 _ _ _ _ _ (far9 _ _ _ _ _ (far9 _ _ _ _ _ c2))⟩ (fun hS9 => ?_)
            refine wpAnyH_take (i := 10) (oi := ?oi117) (v := ?v117) ?hi117 (by kernel_rfl) ?hf117 ?hr117 ?hQ117 (Or.inl ⟨?hw117, ?hy117⟩) (by assumption) ?rest117
            case hi117 => simp only [List.getElem?_toArray, List.getElem?_cons_succ, List.getElem?_cons_zero]; rfl
            case hf117 => kernel_rfl
            case hr117 => kernel_rfl
            case hw117 => rfl
            case hy117 => (intro w hSw; (try dsimp only at hSw); go_simp; all_goals (first | done | with_reducible rfl))
            case hQ117 => exact fun _ _ _ h => h
            simp only [Act.put, List.setIfInBounds_toArray, List.set_cons_zero, List.set_cons_succ]
            refine wpAnyH_done (by kernel_rfl) ?_ _
            have Y0 := Rows.boxset (pre := []) (j := 0) (u := .int .i64 mm) HRn
            have Y1 := Rows.boxset (pre := []) (j := 1) (u := .int .i64 mk) Y0
            have Y2 := hid (Rows.boxset (pre := []) (j := 2) (u := .slice Am nm cm) Y1)
            have HBn := hid (((hqa.setCell (p := ⟨bn, 0, none⟩) hbnl (.int .i64 mm)).setCell (p := ⟨bn, 1, none⟩) hbnl (.int .i64 mk)).setCell (p := ⟨bn, 2, none⟩) hbnl (.slice Am nm cm))
            have HSM9 := hid hsm
            clear hS hS9 far9 Y0 Y1 z0 z1 z2 y0 y1 y2 c0 c1 c2 HRn hsm hrm
            go_wp2_with fail
            go_meet
            case rel => exact ⟨bn, Am, nm, cm, rsm, rfl, rfl, HSM9.out, Y2.out, HBn.out⟩
        case rest =>
          obtain ⟨bm, Am, nm, cm, rsm, rfl, rfl, HSm, HRm, HBm⟩ := hcut
          rename World => wm
          clear HSrc CW HCl HL
          have HSrc := hid (fun (W : World) (hW : Below wm.heap.size wm W) => FilR.at_ HSm.out (HRm.out.right.below hW) HMf.out)
          have HCl := hid (fun (W : World) (hW : Below wm.heap.size wm W) => And.intro ((hW.cell (p := ⟨bm, 0, none⟩) (Rows.bc HRm.out.left 0 rfl).2).trans (Rows.bc HRm.out.left 0 rfl).1) (And.intro ((hW.cell (p := ⟨bm, 1, none⟩) (Rows.bc HRm.out.left 1 rfl).2).trans (Rows.bc HRm.out.left 1 rfl).1) ((hW.cell (p := ⟨bm, 2, none⟩) (Rows.bc HRm.out.left 2 rfl).2).trans (Rows.bc HRm.out.left 2 rfl).1)))
          have HL := hid (fun (W : World) (hW : Below wm.heap.size wm W) => HL2.out W (HBm.out.trans (hW.mono HBm.out.size)))
          have HLm := hid (fun (W : World) (hW : Below wm.heap.size wm W) => HLl.out W (HBm.out.trans (hW.mono HBm.out.size)))
          have hqm := hid (hqz.out.trans (HBm.out.mono hqz.out.size))
          have CW := hid CW2.out
          clear HL2 CW2 HLl hqz HBm
          go_wp2_with fail
          go_cut [12, 13] from 14 (fun s12 s13 wc => ∃ (bm : Nat) (Am : Option Addr) (nm cm : Nat) (rsm : List Row), s12 = .pointer (some ⟨bm, 0, none⟩) ∧ s13 = .bool true ∧ Hid (FilR rsm (.agg #[.int .i64 mo, .int .i64 ke, .slice Am nm cm]) ⟨mo, ke, xl⟩) ∧ Hid (Rows wc wm.heap.size ([bxRow 26 3 bm [.int .i64 mo, .int .i64 ke, .slice Am nm cm]] ++ rsm)) ∧ Hid (Below wm.heap.size wm wc))
          case first =>
            have hq9 : Below wm.heap.size wm wm := Below.refl _ _
            have c0 := (HCl.out _ hq9).1
            have c1 := (HCl.out _ hq9).2.1
            have c2 := (HCl.out _ hq9).2.2
            refine wp_region_held_drew (S := (fun w' : World => w'.cell? ⟨bm, 0, none⟩ = some (.int .i64 mm) ∧ w'.cell? ⟨bm, 1, none⟩ = some (.int .i64 mk) ∧ w'.cell? ⟨bm, 2, none⟩ = some (.slice Am nm cm))) (by kernel_rfl) ⟨c0, c1, c2⟩ (fun hS => ?_)
            have hq0 : Below wm.heap.size wm wm.drew := hq9.drew
            clear c0 c1 c2
            have c0 := (HCl.out _ hq0).1
            have c1 := (HCl.out _ hq0).2.1
            have c2 := (HCl.out _ hq0).2.2
            refine wpAnyH_take (i := 0) (oi := ?oi118) (v := ?v118) ?hi118 (by kernel_rfl) ?hf118 ?hr118 ?hQ118 (Or.inl ⟨?hw118, ?hy118⟩) (by assumption) ?rest118
            case hi118 => simp only [List.getElem?_toArray, List.getElem?_cons_succ, List.getElem?_cons_zero]; rfl
            case hf118 => kernel_rfl
            case hr118 => kernel_rfl
            case hw118 => rfl
            case hy118 => (intro w hSw; (try dsimp only at hSw); go_simp; all_goals (first | done | with_reducible rfl))
            case hQ118 => exact fun _ _ _ h => h
            simp only [Act.put, List.setIfInBounds_toArray, List.set_cons_zero, List.set_cons_succ]
            refine wpAnyH_take (i := 1) (oi := ?oi119) (v := ?v119) ?hi119 (by kernel_rfl) ?hf119 ?hr119 ?hQ119 (Or.inl ⟨?hw119, ?hy119⟩) (by assumption) ?rest119
            case hi119 => simp only [List.getElem?_toArray, List.getElem?_cons_succ, List.getElem?_cons_zero]; rfl
            case hf119 => kernel_rfl
            case hr119 => kernel_rfl
            case hw119 => rfl
            case hy119 => (intro w hSw; (try dsimp only at hSw); go_simp; all_goals (first | done | with_reducible rfl))
            case hQ119 => exact fun _ _ _ h => h
            simp only [Act.put, List.setIfInBounds_toArray, List.set_cons_zero, List.set_cons_succ]
            refine wpAnyH_take (i := 2) (oi := ?oi120) (v := ?v120) ?hi120 (by kernel_rfl) ?hf120 ?hr120 ?hQ120 (Or.inl ⟨?hw120, ?hy120⟩) (by assumption) ?rest120
            case hi120 => simp only [List.getElem?_toArray, List.getElem?_cons_succ, List.getElem?_cons_zero]; rfl
            case hf120 => kernel_rfl
            case hr120 => kernel_rfl
            case hw120 => rfl
            case hy120 => (intro w hSw; (try dsimp only at hSw); go_simp; all_goals (first | done | with_reducible rfl))
            case hQ120 => exact fun _ _ _ h => h
            simp only [Act.put, List.setIfInBounds_toArray, List.set_cons_zero, List.set_cons_succ]
            refine wpAnyH_take (i := 3) (oi := ?oi121) (v := ?v121) ?hi121 (by kernel_rfl) ?hf121 ?hr121 ?hQ121 (Or.inl ⟨?hw121, ?hy121⟩) (by assumption) ?rest121
            case hi121 => simp only [List.getElem?_toArray, List.getElem?_cons_succ, List.getElem?_cons_zero]; rfl
            case hf121 => kernel_rfl
            case hr121 => kernel_rfl
            case hw121 => rfl
            case hy121 => (intro w hSw; (try dsimp only at hSw); go_simp; all_goals (first | done | with_reducible rfl))
            case hQ121 => exact fun _ _ _ h => h
            simp only [Act.put, List.setIfInBounds_toArray, List.set_cons_zero, List.set_cons_succ]
            clear hq9
            generalize wm.drew = wx at *
            refine wpAnyH_ready (rs := [4, 8]) (by kernel_rfl) (by simp) ?_
            refine AllReadyH.cons (o := ?oi122) ?hi122 (fun K hK => ?stepA122) (AllReadyH.cons (o := ?oj122) ?hj122 (fun K hK => ?stepB122) AllReadyH.nil)
            case hi122 => simp only [List.getElem?_toArray, List.getElem?_cons_succ, List.getElem?_cons_zero]; rfl
            case hj122 => simp only [List.getElem?_toArray, List.getElem?_cons_succ, List.getElem?_cons_zero]; rfl
            all_goals rw [if_pos (by rfl)]
            all_goals go_simp
            · go_at_call 24
              refine (CW.out _ _ _ (HSrc.out _ hq0) (HL.out _ hq0)).mono ?_
              rintro e wa ⟨um, rsm, rfl, hsm, hrm, hb⟩
              obtain ⟨Am, nm, cm, rfl⟩ := hsm.form hrm
              have hqa : Below wm.heap.size wm wa := hq0.trans (hb.mono hq0.size)
              clear c0 c1 c2
              have c0 := (HCl.out _ hqa).1
              have c1 := (HCl.out _ hqa).2.1
              have c2 := (HCl.out _ hqa).2.2
              refine hK.out _ _ ⟨c0, c1, c2⟩ (fun hS9 => ?_)
              refine wpAnyH_take (i := 5) (oi := ?oi123) (v := ?v123) ?hi123 (by kernel_rfl) ?hf123 ?hr123 ?hQ123 (Or.inl ⟨?hw123, ?hy123⟩) (by assumption) ?rest123
              case hi123 => simp only [List.getElem?_toArray, List.getElem?_cons_succ, List.getElem?_cons_zero]; rfl
              case hf123 => kernel_rfl
              case hr123 => kernel_rfl
              case hw123 => rfl
              case hy123 => (intro w hSw; (try dsimp only at hSw); go_simp; all_goals (first | done | with_reducible rfl))
              case hQ123 => exact fun _ _ _ h => h
              simp only [Act.put, List.setIfInBounds_toArray, List.set_cons_zero, List.set_cons_succ]
              refine wpAnyH_take (i := 6) (oi := ?oi124) (v := ?v124) ?hi124 (by kernel_rfl) ?hf124 ?hr124 ?hQ124 (Or.inl ⟨?hw124, ?hy124⟩) (by assumption) ?rest124
              case hi124 => simp only [List.getElem?_toArray, List.getElem?_cons_succ, List.getElem?_cons_zero]; rfl
              case hf124 => kernel_rfl
              case hr124 => kernel_rfl
              case hw124 => rfl
              case hy124 => (intro w hSw; (try dsimp only at hSw); go_simp; all_goals (first | done | with_reducible rfl))
              case hQ124 => exact fun _ _ _ h => h
              simp only [Act.put, List.setIfInBounds_toArray, List.set_cons_zero, List.set_cons_succ]
              refine wpAnyH_take (i := 7) (oi := ?oi125) (v := ?v125) ?hi125 (by kernel_rfl) ?hf125 ?hr125 ?hQ125 (Or.inl ⟨?hw125, ?hy125⟩) (by assumption) ?rest125
              case hi125 => simp only [List.getElem?_toArray, List.getElem?_cons_succ, List.getElem?_cons_zero]; rfl
              case hf125 => kernel_rfl
              case hr125 => kernel_rfl
              case hw125 => rfl
              case hy125 => (intro w hSw; (try dsimp only at hSw); go_simp; all_goals (first | done | with_reducible rfl))
              case hQ125 => exact fun _ _ _ h => h
              simp only [Act.put, List.setIfInBounds_toArray, List.set_cons_zero, List.set_cons_succ]
              refine wpAnyH_ready (rs := [8]) (by kernel_rfl) (by simp) ?_
              refine AllReadyH.cons (o := ?oi126) ?hi126 (fun K hK => ?step126) AllReadyH.nil
              case hi126 => simp only [List.getElem?_toArray, List.getElem?_cons_succ, List.getElem?_cons_zero]; rfl
              rw [if_pos (by rfl)]
              go_simp
              have hqn : Below wm.heap.size wm (wa.alloc (.cells #[.int .i64 0, .int .i64 0, .slice none 0 0] 26)) := hqa.alloc hqa.size _
              have hbne : wa.heap.size ≠ bm := Nat.ne_of_gt (World.block_lt_of_cell? wa _ c0)
              have hbnl : wm.heap.size ≤ wa.heap.size := hqa.size
              have HRn := (hrm.base hq0.size).bx hqa.size #[.int .i64 0, .int .i64 0, .slice none 0 0] 26 3 rfl
              clear c0 c1 c2 hb
              have c0 := (HCl.out _ hqn).1
              have c1 := (HCl.out _ hqn).2.1
              have c2 := (HCl.out _ hqn).2.2
              refine hK.out _ _ ⟨c0, c1, c2⟩ (fun hS9 => ?_)
              generalize wa.alloc (.cells #[.int .i64 0, .int .i64 0, .slice none 0 0] 26) = wn at *
              generalize wa.heap.size = bn at *
              obtain ⟨z0, y0, _⟩ := Rows.bcell2 (pre := []) (q := 0) HRn rfl
              obtain ⟨z1, y1, _⟩ := Rows.bcell2 (pre := []) (q := 1) HRn rfl
              obtain ⟨z2, y2, _⟩ := Rows.bcell2 (pre := []) (q := 2) HRn rfl
              refine wpAnyH_ready (rs := [9]) (by kernel_rfl) (by simp) ?_
              refine AllReadyH.cons (o := ?oi127) ?hi127 (fun K hK => ?step127) AllReadyH.nil
              case hi127 => simp only [List.getElem?_toArray, List.getElem?_cons_succ, List.getElem?_cons_zero]; rfl
              rw [if_pos (by rfl)]
              go_simp
              have far9 : ∀ (W : World) (q q' : Nat) (u u' : Value), W.cell? ⟨bm, q, none⟩ = some u → (W.setCell ⟨bn, q', none⟩ u').cell? ⟨bm, q, none⟩ = some u := fun W q q' u u' h => (World.cell?_setCell_far _ _ _ _ hbne).trans h
              refine hK.out _ _ ⟨far9 _ _ _ _ _ (far9 _ _ _ _ _ (far9 _ _ _ _ _ c0)), far9 _ _ _ _ _ (far9 _ _ _ _ _ (far9 _ _ _ _ _ c1)), far9 _ _ _ _ _ (far9 _ _ _ _ _ (far9 _ _ _ _ _ c2))⟩ (fun hS9 => ?_)
              refine wpAnyH_take (i := 10) (oi := ?oi128) (v := ?v128) ?hi128 (by kernel_rfl) ?hf128 ?hr128 ?hQ128 (Or.inl ⟨?hw128, ?hy128⟩) (by assumption) ?rest128
              case hi128 => simp only [List.getElem?_toArray, List.getElem?_cons_succ, List.getElem?_cons_zero]; rfl
              case hf128 => kernel_rfl
              case hr128 => kernel_rfl
              case hw128 => rfl
              case hy128 => (intro w hSw; (try dsimp only at hSw); go_simp; all_goals (first | done | with_reducible rfl))
              case hQ128 => exact fun _ _ _ h => h
              simp only [Act.put, List.setIfInBounds_toArray, List.set_cons_zero, List.set_cons_succ]
              refine wpAnyH_done (by kernel_rfl) ?_ _
              have Y0 := Rows.boxset (pre := []) (j := 0) (u := .int .i64 mo) HRn
              have Y1 := Rows.boxset (pre := []) (j := 1) (u := .int .i64 ke) Y0
              have Y2 := hid (Rows.boxset (pre := []) (j := 2) (u := .slice Am nm cm) Y1)
              have HBn := hid (((hqn.setCell (p := ⟨bn, 0, none⟩) hbnl (.int .i64 mo)).setCell (p := ⟨bn, 1, none⟩) hbnl (.int .i64 ke)).setCell (p := ⟨bn, 2, none⟩) hbnl (.slice Am nm cm))
              have HSM9 := hid hsm
              clear hS hS9 far9 Y0 Y1 z0 z1 z2 y0 y1 y2 c0 c1 c2 HRn hsm hrm
              go_wp2_with fail
              go_meet
              case rel => exact ⟨bn, Am, nm, cm, rsm, rfl, rfl, HSM9.out, Y2.out, HBn.out⟩
            · have hqn : Below wm.heap.size wm (wx.alloc (.cells #[.int .i64 0, .int .i64 0, .slice none 0 0] 26)) := hq0.alloc hq0.size _
              have hbne : wx.heap.size ≠ bm := Nat.ne_of_gt (World.block_lt_of_cell? wx _ c0)
              have hbnl : wm.heap.size ≤ wx.heap.size := hq0.size
              have HR0 := (Rows.box wx #[.int .i64 0, .int .i64 0, .slice none 0 0] 26 3 rfl).base hq0.size
              clear c0 c1 c2
              have c0 := (HCl.out _ hqn).1
              have c1 := (HCl.out _ hqn).2.1
              have c2 := (HCl.out _ hqn).2.2
              refine hK.out _ _ ⟨c0, c1, c2⟩ (fun hS9 => ?_)
              refine wpAnyH_ready (rs := [4]) (by kernel_rfl) (by simp) ?_
              refine AllReadyH.cons (o := ?oi129) ?hi129 (fun K hK => ?step129) AllReadyH.nil
              case hi129 => simp only [List.getElem?_toArray, List.getElem?_cons_succ, List.getElem?_cons_zero]; rfl
              rw [if_pos (by rfl)]
              go_simp
              generalize wx.alloc (.cells #[.int .i64 0, .int .i64 0, .slice none 0 0] 26) = wn at *
              generalize wx.heap.size = bn at *
              go_at_call 24
              refine (CW.out _ _ _ (HSrc.out _ hqn) (HL.out _ hqn)).mono ?_
              rintro e wa ⟨um, rsm, rfl, hsm, hrm, hb⟩
              obtain ⟨Am, nm, cm, rfl⟩ := hsm.form hrm
              have hqa : Below wm.heap.size wm wa := hqn.trans (hb.mono hqn.size)
              have HRn := (HR0.newer hb hrm hqn.size).perm List.perm_append_comm
              clear hb c0 c1 c2 HR0
              have c0 := (HCl.out _ hqa).1
              have c1 := (HCl.out _ hqa).2.1
              have c2 := (HCl.out _ hqa).2.2
              refine hK.out _ _ ⟨c0, c1, c2⟩ (fun hS9 => ?_)
              refine wpAnyH_take (i := 5) (oi := ?oi130) (v := ?v130) ?hi130 (by kernel_rfl) ?hf130 ?hr130 ?hQ130 (Or.inl ⟨?hw130, ?hy130⟩) (by assumption) ?rest130
              case hi130 => simp only [List.getElem?_toArray, List.getElem?_cons_succ, List.getElem?_cons_zero]; rfl
              case hf130 => kernel_rfl
              case hr130 => kernel_rfl
              case hw130 => rfl
              case hy130 => (intro w hSw; (try dsimp only at hSw); go_simp; all_goals (first | done | with_reducible rfl))
              case hQ130 => exact fun _ _ _ h => h
              simp only [Act.put, List.setIfInBounds_toArray, List.set_cons_zero, List.set_cons_succ]
              refine wpAnyH_take (i := 6) (oi := ?oi131) (v := ?v131) ?hi131 (by kernel_rfl) ?hf131 ?hr131 ?hQ131 (Or.inl ⟨?hw131, ?hy131⟩) (by assumption) ?rest131
              case hi131 => simp only [List.getElem?_toArray, List.getElem?_cons_succ, List.getElem?_cons_zero]; rfl
              case hf131 => kernel_rfl
              case hr131 => kernel_rfl
              case hw131 => rfl
              case hy131 => (intro w hSw; (try dsimp only at hSw); go_simp; all_goals (first | done | with_reducible rfl))
              case hQ131 => exact fun _ _ _ h => h
              simp only [Act.put, List.setIfInBounds_toArray, List.set_cons_zero, List.set_cons_succ]
              refine wpAnyH_take (i := 7) (oi := ?oi132) (v := ?v132) ?hi132 (by kernel_rfl) ?hf132 ?hr132 ?hQ132 (Or.inl ⟨?hw132, ?hy132⟩) (by assumption) ?rest132
              case hi132 => simp only [List.getElem?_toArray, List.getElem?_cons_succ, List.getElem?_cons_zero]; rfl
              case hf132 => kernel_rfl
              case hr132 => kernel_rfl
              case hw132 => rfl
              case hy132 => (intro w hSw; (try dsimp only at hSw); go_simp; all_goals (first | done | with_reducible rfl))
              case hQ132 => exact fun _ _ _ h => h
              simp only [Act.put, List.setIfInBounds_toArray, List.set_cons_zero, List.set_cons_succ]
              obtain ⟨z0, y0, _⟩ := Rows.bcell2 (pre := []) (q := 0) HRn rfl
              obtain ⟨z1, y1, _⟩ := Rows.bcell2 (pre := []) (q := 1) HRn rfl
              obtain ⟨z2, y2, _⟩ := Rows.bcell2 (pre := []) (q := 2) HRn rfl
              refine wpAnyH_ready (rs := [9]) (by kernel_rfl) (by simp) ?_
              refine AllReadyH.cons (o := ?oi133) ?hi133 (fun K hK => ?step133) AllReadyH.nil
              case hi133 => simp only [List.getElem?_toArray, List.getElem?_cons_succ, List.getElem?_cons_zero]; rfl
              rw [if_pos (by rfl)]
              go_simp
              have far9 : ∀ (W : World) (q q' : Nat) (u u' : Value), W.cell? ⟨bm, q, none⟩ = some u → (W.setCell ⟨bn, q', none⟩ u').cell? ⟨bm, q, none⟩ = some u := fun W q q' u u' h => (World.cell?_setCell_far _ _ _ _ hbne).trans h
              refine hK.out _ _ ⟨far9 _ _ _ _ _ (far9 _ _ _ _ _ (far9 _ _ _ _ _ c0)), far9 _ _ _ _ _ (far9 _ _ _ _ _ (far9 _ _ _ _ _ c1)), far9 _ _ _ _ _ (far9 _ _ _ _ _ (far9 _ _ _ _ _ c2))⟩ (fun hS9 => ?_)
              refine wpAnyH_take (i := 10) (oi := ?oi134) (v := ?v134) ?hi134 (by kernel_rfl) ?hf134 ?hr134 ?hQ134 (Or.inl ⟨?hw134, ?hy134⟩) (by assumption) ?rest134
              case hi134 => simp only [List.getElem?_toArray, List.getElem?_cons_succ, List.getElem?_cons_zero]; rfl
              case hf134 => kernel_rfl
              case hr134 => kernel_rfl
              case hw134 => rfl
              case hy134 => (intro w hSw; (try dsimp only at hSw); go_simp; all_goals (first | done | with_reducible rfl))
              case hQ134 => exact fun _ _ _ h => h
              simp only [Act.put, List.setIfInBounds_toArray, List.set_cons_zero, List.set_cons_succ]
              refine wpAnyH_done (by kernel_rfl) ?_ _
              have Y0 := Rows.boxset (pre := []) (j := 0) (u := .int .i64 mo) HRn
              have Y1 := Rows.boxset (pre := []) (j := 1) (u := .int .i64 ke) Y0
              have Y2 := hid (Rows.boxset (pre := []) (j := 2) (u := .slice Am nm cm) Y1)
              have HBn := hid (((hqa.setCell (p := ⟨bn, 0, none⟩) hbnl (.int .i64 mo)).setCell (p := ⟨bn, 1, none⟩) hbnl (.int .i64 ke)).setCell (p := ⟨bn, 2, none⟩) hbnl (.slice Am nm cm))
              have HSM9 := hid hsm
              clear hS hS9 far9 Y0 Y1 z0 z1 z2 y0 y1 y2 c0 c1 c2 HRn hsm hrm
              go_wp2_with fail
              go_meet
              case rel => exact ⟨bn, Am, nm, cm, rsm, rfl, rfl, HSM9.out, Y2.out, HBn.out⟩
          case rest =>
            obtain ⟨bq, Aq, nq, cq, rsq, rfl, rfl, HSq, HRq, HBq⟩ := hcut
            rename World => wq
            clear HSrc CW HCl HL
            have HCq := hid (fun (W : World) (hW : Below wq.heap.size wq W) => And.intro ((hW.cell (p := ⟨bq, 0, none⟩) (Rows.bc HRq.out.left 0 rfl).2).trans (Rows.bc HRq.out.left 0 rfl).1) (And.intro ((hW.cell (p := ⟨bq, 1, none⟩) (Rows.bc HRq.out.left 1 rfl).2).trans (Rows.bc HRq.out.left 1 rfl).1) ((hW.cell (p := ⟨bq, 2, none⟩) (Rows.bc HRq.out.left 2 rfl).2).trans (Rows.bc HRq.out.left 2 rfl).1)))
            have hqq := hid (hqm.out.trans (HBq.out.mono hqm.out.size))
            have fr : ∀ (W : World), Below wq.heap.size wq W → Below w3.heap.size w3 W := fun W hW => hqq.out.trans (hW.mono hqq.out.size)
            have HLl := hid (fun (W : World) (hW : Below wq.heap.size wq W) => HLm.out W (HBq.out.trans (hW.mono HBq.out.size)))
            have CE := hid (fun (W : World) (hW : Below wq.heap.size wq W) => equalFiles_c (FilR.at_ HSq.out (HRq.out.right.below hW) HFit.out) (FilR.at_ Su2.out (HRb.out.right.left.below (fr _ hW)) HFit.out) HLe.out)
            have CAf := hid (fun (W : World) (hW : Below w3.heap.size w3 W) => implAllLines_c (FilR.at_ HS.out (HRb.out.right.right.right.left.below hW) HF.out) (Nat.le_refl _))
            have CAx := hid (fun (W : World) (hW : Below w3.heap.size w3 W) => implAllLines_c (FilR.at_ Su2.out (HRb.out.right.left.below hW) HFit.out) (Nat.le_refl _))
            rw [HAf.out] at CAf
            rw [HAx.out] at CAx
            have HF1 := hid (show StrsFit (allL L) by have h9 := allX_fit (d := ⟨mo, ke, L⟩); rwa [HAf.out] at h9)
            have HF2 := hid (show StrsFit (allL xl) by have h9 := allX_fit (d := ⟨mo, ke, xl⟩); rwa [HAx.out] at h9)
            have hl1 : (allL L).length ≤ 60 := by have := allL_len L 12 (fil_small HZz.out).2; have h4 : L.length ≤ 4 := (fil_small HZz.out).1; omega
            have hl2 : (allL xl).length ≤ 1000 := by have := allL_len xl 12 (fil_small HE.out).2; have h4 : xl.length ≤ 4 := (fil_small HE.out).1; omega
            have HF12 := hid (show StrsFit (allL L ++ l) from ⟨by rw [List.length_append]; have := hnl.out; unfold maxTxt; omega, fun t ht => by rcases List.mem_append.1 ht with h | h; exact HF1.out.2 t h; exact HFl.out.2 t h⟩)
            clear HLm hqm HBq
            have hq9 : Below wq.heap.size wq wq := Below.refl _ _
            go_wp2_with fail
            refine wp_region_held_drew (S := (fun w' : World => (w'.cell? ⟨bq, 0, none⟩ = some (.int .i64 mo) ∧ w'.cell? ⟨bq, 1, none⟩ = some (.int .i64 ke) ∧ w'.cell? ⟨bq, 2, none⟩ = some (.slice Aq nq cq)) ∧ (w'.cell? ⟨bx, 0, none⟩ = some (.int .i64 mo) ∧ w'.cell? ⟨bx, 1, none⟩ = some (.int .i64 ke) ∧ w'.cell? ⟨bx, 2, none⟩ = some (.slice Au nu cu) ∧ w'.cell? ⟨w1.heap.size, 0, none⟩ = some (.int .i64 mo) ∧ w'.cell? ⟨w1.heap.size, 1, none⟩ = some (.int .i64 ke) ∧ w'.cell? ⟨w1.heap.size, 2, none⟩ = some (.slice A n c)))) (by kernel_rfl) ⟨HCq.out _ hq9.drew, far.out _ (fr _ hq9.drew)⟩ (fun hS => ?_)
            have hq0 : Below wq.heap.size wq wq.drew := hq9.drew
            refine wpAnyH_take (i := 0) (oi := ?oi135) (v := ?v135) ?hi135 (by kernel_rfl) ?hf135 ?hr135 ?hQ135 (Or.inl ⟨?hw135, ?hy135⟩) (by assumption) ?rest135
            case hi135 => simp only [List.getElem?_toArray, List.getElem?_cons_succ, List.getElem?_cons_zero]; rfl
            case hf135 => kernel_rfl
            case hr135 => kernel_rfl
            case hw135 => rfl
            case hy135 => (intro w hSw; (try dsimp only at hSw); go_simp; all_goals (first | done | with_reducible rfl))
            case hQ135 => exact fun _ _ _ h => h
            simp only [Act.put, List.setIfInBounds_toArray, List.set_cons_zero, List.set_cons_succ]
            refine wpAnyH_take (i := 1) (oi := ?oi136) (v := ?v136) ?hi136 (by kernel_rfl) ?hf136 ?hr136 ?hQ136 (Or.inl ⟨?hw136, ?hy136⟩) (by assumption) ?rest136
            case hi136 => simp only [List.getElem?_toArray, List.getElem?_cons_succ, List.getElem?_cons_zero]; rfl
            case hf136 => kernel_rfl
            case hr136 => kernel_rfl
            case hw136 => rfl
            case hy136 => (intro w hSw; (try dsimp only at hSw); go_simp; all_goals (first | done | with_reducible rfl))
            case hQ136 => exact fun _ _ _ h => h
            simp only [Act.put, List.setIfInBounds_toArray, List.set_cons_zero, List.set_cons_succ]
            refine wpAnyH_take (i := 2) (oi := ?oi137) (v := ?v137) ?hi137 (by kernel_rfl) ?hf137 ?hr137 ?hQ137 (Or.inl ⟨?hw137, ?hy137⟩) (by assumption) ?rest137
            case hi137 => simp only [List.getElem?_toArray, List.getElem?_cons_succ, List.getElem?_cons_zero]; rfl
            case hf137 => kernel_rfl
            case hr137 => kernel_rfl
            case hw137 => rfl
            case hy137 => (intro w hSw; (try dsimp only at hSw); go_simp; all_goals (first | done | with_reducible rfl))
            case hQ137 => exact fun _ _ _ h => h
            simp only [Act.put, List.setIfInBounds_toArray, List.set_cons_zero, List.set_cons_succ]
            refine wpAnyH_take (i := 3) (oi := ?oi138) (v := ?v138) ?hi138 (by kernel_rfl) ?hf138 ?hr138 ?hQ138 (Or.inl ⟨?hw138, ?hy138⟩) (by assumption) ?rest138
            case hi138 => simp only [List.getElem?_toArray, List.getElem?_cons_succ, List.getElem?_cons_zero]; rfl
            case hf138 => kernel_rfl
            case hr138 => kernel_rfl
            case hw138 => rfl
            case hy138 => (intro w hSw; (try dsimp only at hSw); go_simp; all_goals (first | done | with_reducible rfl))
            case hQ138 => exact fun _ _ _ h => h
            simp only [Act.put, List.setIfInBounds_toArray, List.set_cons_zero, List.set_cons_succ]
            refine wpAnyH_take (i := 4) (oi := ?oi139) (v := ?v139) ?hi139 (by kernel_rfl) ?hf139 ?hr139 ?hQ139 (Or.inl ⟨?hw139, ?hy139⟩) (by assumption) ?rest139
            case hi139 => simp only [List.getElem?_toArray, List.getElem?_cons_succ, List.getElem?_cons_zero]; rfl
            case hf139 => kernel_rfl
            case hr139 => kernel_rfl
            case hw139 => rfl
            case hy139 => (intro w hSw; (try dsimp only at hSw); go_simp; all_goals (first | done | with_reducible rfl))
            case hQ139 => exact fun _ _ _ h => h
            simp only [Act.put, List.setIfInBounds_toArray, List.set_cons_zero, List.set_cons_succ]
            refine wpAnyH_take (i := 5) (oi := ?oi140) (v := ?v140) ?hi140 (by kernel_rfl) ?hf140 ?hr140 ?hQ140 (Or.inl ⟨?hw140, ?hy140⟩) (by assumption) ?rest140
            case hi140 => simp only [List.getElem?_toArray, List.getElem?_cons_succ, List.getElem?_cons_zero]; rfl
            case hf140 => kernel_rfl
            case hr140 => kernel_rfl
            case hw140 => rfl
            case hy140 => (intro w hSw; (try dsimp only at hSw); go_simp; all_goals (first | done | with_reducible rfl))
            case hQ140 => exact fun _ _ _ h => h
            simp only [Act.put, List.setIfInBounds_toArray, List.set_cons_zero, List.set_cons_succ]
            refine wpAnyH_take (i := 6) (oi := ?oi141) (v := ?v141) ?hi141 (by kernel_rfl) ?hf141 ?hr141 ?hQ141 (Or.inl ⟨?hw141, ?hy141⟩) (by assumption) ?rest141
            case hi141 => simp only [List.getElem?_toArray, List.getElem?_cons_succ, List.getElem?_cons_zero]; rfl
            case hf141 => kernel_rfl
            case hr141 => kernel_rfl
            case hw141 => rfl
            case hy141 => (intro w hSw; (try dsimp only at hSw); go_simp; all_goals (first | done | with_reducible rfl))
            case hQ141 => exact fun _ _ _ h => h
            simp only [Act.put, List.setIfInBounds_toArray, List.set_cons_zero, List.set_cons_succ]
            refine wpAnyH_ready (rs := [7]) (by kernel_rfl) (by simp) ?_
            refine AllReadyH.cons (o := ?oi142) ?hi142 (fun K hK => ?step142) AllReadyH.nil
            case hi142 => simp only [List.getElem?_toArray, List.getElem?_cons_succ, List.getElem?_cons_zero]; rfl
            rw [if_pos (by rfl)]
            go_simp
            go_at_call 40
            refine (CE.out _ hq0).mono ?_
            rintro e we ⟨rfl, hb⟩
            have hqe : Below wq.heap.size wq we := hq0.trans (hb.mono hq0.size)
            clear hb hq0 hq9
            refine hK.out _ _ ⟨HCq.out _ (hqe), far.out _ (fr _ (hqe))⟩ (fun hS9 => ?_)
            refine wpAnyH_take (i := 8) (oi := ?oi143) (v := ?v143) ?hi143 (by kernel_rfl) ?hf143 ?hr143 ?hQ143 (Or.inl ⟨?hw143, ?hy143⟩) (by assumption) ?rest143
            case hi143 => simp only [List.getElem?_toArray, List.getElem?_cons_succ, List.getElem?_cons_zero]; rfl
            case hf143 => kernel_rfl
            case hr143 => kernel_rfl
            case hw143 => rfl
            case hy143 => (intro w hSw; (try dsimp only at hSw); go_simp; all_goals (first | done | with_reducible rfl))
            case hQ143 => exact fun _ _ _ h => h
            simp only [Act.put, List.setIfInBounds_toArray, List.set_cons_zero, List.set_cons_succ]
            refine wpAnyH_take (i := 9) (oi := ?oi144) (v := ?v144) ?hi144 (by kernel_rfl) ?hf144 ?hr144 ?hQ144 (Or.inl ⟨?hw144, ?hy144⟩) (by assumption) ?rest144
            case hi144 => simp only [List.getElem?_toArray, List.getElem?_cons_succ, List.getElem?_cons_zero]; rfl
            case hf144 => kernel_rfl
            case hr144 => kernel_rfl
            case hw144 => rfl
            case hy144 => (intro w hSw; (try dsimp only at hSw); go_simp; all_goals (first | done | with_reducible rfl))
            case hQ144 => exact fun _ _ _ h => h
            simp only [Act.put, List.setIfInBounds_toArray, List.set_cons_zero, List.set_cons_succ]
            refine wpAnyH_take (i := 11) (oi := ?oi145) (v := ?v145) ?hi145 (by kernel_rfl) ?hf145 ?hr145 ?hQ145 (Or.inl ⟨?hw145, ?hy145⟩) (by assumption) ?rest145
            case hi145 => simp only [List.getElem?_toArray, List.getElem?_cons_succ, List.getElem?_cons_zero]; rfl
            case hf145 => kernel_rfl
            case hr145 => kernel_rfl
            case hw145 => rfl
            case hy145 => (intro w hSw; (try dsimp only at hSw); go_simp; all_goals (first | done | with_reducible rfl))
            case hQ145 => exact fun _ _ _ h => h
            simp only [Act.put, List.setIfInBounds_toArray, List.set_cons_zero, List.set_cons_succ]
            refine wpAnyH_take (i := 14) (oi := ?oi146) (v := ?v146) ?hi146 (by kernel_rfl) ?hf146 ?hr146 ?hQ146 (Or.inl ⟨?hw146, ?hy146⟩) (by assumption) ?rest146
            case hi146 => simp only [List.getElem?_toArray, List.getElem?_cons_succ, List.getElem?_cons_zero]; rfl
            case hf146 => kernel_rfl
            case hr146 => kernel_rfl
            case hw146 => rfl
            case hy146 => (intro w hSw; (try dsimp only at hSw); go_simp; all_goals (first | done | with_reducible rfl))
            case hQ146 => exact fun _ _ _ h => h
            simp only [Act.put, List.setIfInBounds_toArray, List.set_cons_zero, List.set_cons_succ]
            refine wpAnyH_take (i := 16) (oi := ?oi147) (v := ?v147) ?hi147 (by kernel_rfl) ?hf147 ?hr147 ?hQ147 (Or.inl ⟨?hw147, ?hy147⟩) (by assumption) ?rest147
            case hi147 => simp only [List.getElem?_toArray, List.getElem?_cons_succ, List.getElem?_cons_zero]; rfl
            case hf147 => kernel_rfl
            case hr147 => kernel_rfl
            case hw147 => rfl
            case hy147 => (intro w hSw; (try dsimp only at hSw); go_simp; all_goals (first | done | with_reducible rfl))
            case hQ147 => exact fun _ _ _ h => h
            simp only [Act.put, List.setIfInBounds_toArray, List.set_cons_zero, List.set_cons_succ]
            refine wpAnyH_ready (rs := [10, 12]) (by kernel_rfl) (by simp) ?_
            refine AllReadyH.cons (o := ?oi148) ?hi148 (fun K hK => ?stepA148) (AllReadyH.cons (o := ?oj148) ?hj148 (fun K hK => ?stepB148) AllReadyH.nil)
            case hi148 => simp only [List.getElem?_toArray, List.getElem?_cons_succ, List.getElem?_cons_zero]; rfl
            case hj148 => simp only [List.getElem?_toArray, List.getElem?_cons_succ, List.getElem?_cons_zero]; rfl
            all_goals rw [if_pos (by rfl)]
            all_goals go_simp
            · have hqv : Below wq.heap.size wq (we.alloc (.cells #[] 9)) := hqe.alloc hqe.size _
              have row := World.ownsRow_lit (e := 9) (size := 1) (base := wq.heap.size) we #[] 0 hqe.size (by unfold maxLen; omega) (by simp)
              refine hK.out _ _ ⟨HCq.out _ (hqv), far.out _ (fr _ (hqv))⟩ (fun hS9 => ?_)
              refine wpAnyH_ready (rs := [12]) (by kernel_rfl) (by simp) ?_
              refine AllReadyH.cons (o := ?oi149) ?hi149 (fun K hK => ?step149) AllReadyH.nil
              case hi149 => simp only [List.getElem?_toArray, List.getElem?_cons_succ, List.getElem?_cons_zero]; rfl
              rw [if_pos (by rfl)]
              go_simp
              go_at_call 31
              refine (CAf.out _ (fr _ hqv)).mono ?_
              rintro e wf ⟨yf, rsf, rfl, hsf, hrf, hb⟩
              obtain ⟨Af, nf, cf, rfl⟩ := hsf.form hrf
              have hqW : Below wq.heap.size wq wf := hqv.trans (hb.mono hqv.size)
              have row0 := own_below row hb
              clear hb row
              refine hK.out _ _ ⟨HCq.out _ (hqW), far.out _ (fr _ (hqW))⟩ (fun hS9 => ?_)
              obtain ⟨i0, hi0, hz0, hz1, hz2⟩ := info_parts Try.infoStr
              obtain ⟨v5, w5, hrun, ho5, hg5, _⟩ := run_appG (P := Try.prog) wf 35 wq.heap.size 9 i0 _ 1 16 Try.underlying35 hi0 hz0 hz1 hz2 rfl (by decide) _ 0 _ row0 wf.heap.size (allL L).length _ _ (StrsR.at_ hsf hrf HF1.out).1 (strs_one _) (by have := hl1; unfold maxLen; omega) (by have := hl1; omega) hqW.size
              obtain ⟨A5, c5, rfl, _, _⟩ := (Sl.of_own ho5).form
              have hq5 : Below wq.heap.size wq w5 := hqW.grown hg5 hqW.size (own_lt row0)
              have hsl5 := (HLl.out _ hq5)
              have HRun := hid hrun
              refine wpAnyH_ready (rs := [13]) (by kernel_rfl) (by simp) ?_
              refine AllReadyH.cons (o := ?oi150) ?hi150 (fun K hK => ?step150) AllReadyH.nil
              case hi150 => simp only [List.getElem?_toArray, List.getElem?_cons_succ, List.getElem?_cons_zero]; rfl
              rw [if_pos (by rfl)]
              refine wp_app rfl (by rfl) (by rfl) HRun.out ?_
              refine hK.out _ _ ⟨HCq.out _ (hq5), far.out _ (fr _ (hq5))⟩ (fun hS9 => ?_)
              simp only [Act.put, List.setIfInBounds_toArray, List.set_cons_zero, List.set_cons_succ]
              obtain ⟨v6, w6, hrun6, ho6, hg6, _⟩ := run_appG (P := Try.prog) w5 35 wq.heap.size 9 i0 _ 1 16 Try.underlying35 hi0 hz0 hz1 hz2 rfl (by decide) _ (0 + (allL L).length) _ ho5 w5.heap.size l.length _ _ hsl5.1 (strs_one l) (by have := hl1; have := hnl13; have := hnl.out; unfold maxLen; omega) (by have := hl1; have := hnl13; have := hnl.out; omega) hq5.size
              obtain ⟨A6, c6, rfl, _, _⟩ := (Sl.of_own ho6).form
              have hq6 : Below wq.heap.size wq w6 := hq5.grown hg6 hq5.size (own_lt ho5)
              have HRun6 := hid hrun6
              refine wpAnyH_ready (rs := [15]) (by kernel_rfl) (by simp) ?_
              refine AllReadyH.cons (o := ?oi151) ?hi151 (fun K hK => ?step151) AllReadyH.nil
              case hi151 => simp only [List.getElem?_toArray, List.getElem?_cons_succ, List.getElem?_cons_zero]; rfl
              rw [if_pos (by rfl)]
              refine wp_app rfl (by rfl) (by rfl) HRun6.out ?_
              refine hK.out _ _ ⟨HCq.out _ (hq6), far.out _ (fr _ (hq6))⟩ (fun hS9 => ?_)
              simp only [Act.put, List.setIfInBounds_toArray, List.set_cons_zero, List.set_cons_succ]
              have HO6 := hid (show StrsR [⟨9, 1, (allL L ++ l).length, .slice A6 (0 + (allL L).length + l.length) c6, (allL L ++ l).map txt⟩] (.slice A6 (0 + (allL L).length + l.length) c6) (allL L ++ l) ∧ Rows w6 wq.heap.size [⟨9, 1, (allL L ++ l).length, .slice A6 (0 + (allL L).length + l.length) c6, (allL L ++ l).map txt⟩] from ⟨rfl, Rows.one (show World.ownsRow w6 wq.heap.size 9 1 (.slice A6 (0 + (allL L).length + l.length) c6) (allL L ++ l).length ((allL L ++ l).map txt) from by have h9 := ho6; rw [List.length_append]; simpa [List.map_append] using h9)⟩)
              refine wpAnyH_ready (rs := [17]) (by kernel_rfl) (by simp) ?_
              refine AllReadyH.cons (o := ?oi152) ?hi152 (fun K hK => ?step152) AllReadyH.nil
              case hi152 => simp only [List.getElem?_toArray, List.getElem?_cons_succ, List.getElem?_cons_zero]; rfl
              rw [if_pos (by rfl)]
              go_simp
              go_at_call 31
              refine (CAx.out _ (fr _ hq6)).mono ?_
              rintro e w7 ⟨yx, rsx, rfl, hsx, hrx, hb⟩
              obtain ⟨Ax, nx, cx, rfl⟩ := hsx.form hrx
              have hq7 : Below wq.heap.size wq w7 := hq6.trans (hb.mono hq6.size)
              have CN := hid (endsWith_c (StrsR.at_ HO6.out.1 (HO6.out.2.below hb) HF12.out) (StrsR.at_ hsx hrx HF2.out) (by rw [List.length_append]; have := hl1; have := hnl13; have := hnl.out; omega) hl2)
              rw [HSuf.out] at CN
              rw [Nat.zero_add] at CN
              refine hK.out _ _ ⟨HCq.out _ (hq7), far.out _ (fr _ (hq7))⟩ (fun hS9 => ?_)
              refine wpAnyH_ready (rs := [18]) (by kernel_rfl) (by simp) ?_
              refine AllReadyH.cons (o := ?oi153) ?hi153 (fun K hK => ?step153) AllReadyH.nil
              case hi153 => simp only [List.getElem?_toArray, List.getElem?_cons_succ, List.getElem?_cons_zero]; rfl
              rw [if_pos (by rfl)]
              go_simp
              go_at_call 34
              refine CN.out.mono ?_
              rintro e w8 ⟨rfl, hb8⟩
              have hq8 : Below wq.heap.size wq w8 := hq7.trans (hb8.mono hq7.size)
              refine hK.out _ _ ⟨HCq.out _ (hq8), far.out _ (fr _ (hq8))⟩ (fun hS9 => ?_)
              refine wpAnyH_take (i := 19) (oi := ?oi154) (v := ?v154) ?hi154 (by kernel_rfl) ?hf154 ?hr154 ?hQ154 (Or.inl ⟨?hw154, ?hy154⟩) (by assumption) ?rest154
              case hi154 => simp only [List.getElem?_toArray, List.getElem?_cons_succ, List.getElem?_cons_zero]; rfl
              case hf154 => kernel_rfl
              case hr154 => kernel_rfl
              case hw154 => rfl
              case hy154 => (intro w hSw; (try dsimp only at hSw); go_simp; all_goals (first | done | with_reducible rfl))
              case hQ154 => exact fun _ _ _ h => h
              simp only [Act.put, List.setIfInBounds_toArray, List.set_cons_zero, List.set_cons_succ]
              refine wpAnyH_take (i := 20) (oi := ?oi155) (v := ?v155) ?hi155 (by kernel_rfl) ?hf155 ?hr155 ?hQ155 (Or.inl ⟨?hw155, ?hy155⟩) (by assumption) ?rest155
              case hi155 => simp only [List.getElem?_toArray, List.getElem?_cons_succ, List.getElem?_cons_zero]; rfl
              case hf155 => kernel_rfl
              case hr155 => kernel_rfl
              case hw155 => rfl
              case hy155 => (intro w hSw; (try dsimp only at hSw); go_simp; all_goals (first | done | with_reducible rfl))
              case hQ155 => exact fun _ _ _ h => h
              simp only [Act.put, List.setIfInBounds_toArray, List.set_cons_zero, List.set_cons_succ]
              refine wpAnyH_done (by kernel_rfl) ?_ _
              have HBz := hid (HBb.out.trans ((fr _ hq8).mono HBb.out.size))
              clear hS hS9
              go_wp2_with fail
              go_ret
              exact ⟨rfl, HBz.out⟩
            · go_at_call 31
              refine (CAf.out _ (fr _ hqe)).mono ?_
              rintro e wf0 ⟨yf, rsf, rfl, hsf, hrf0, hb⟩
              obtain ⟨Af, nf, cf, rfl⟩ := hsf.form hrf0
              have hqf : Below wq.heap.size wq wf0 := hqe.trans (hb.mono hqe.size)
              clear hb
              refine hK.out _ _ ⟨HCq.out _ (hqf), far.out _ (fr _ (hqf))⟩ (fun hS9 => ?_)
              refine wpAnyH_ready (rs := [10]) (by kernel_rfl) (by simp) ?_
              refine AllReadyH.cons (o := ?oi156) ?hi156 (fun K hK => ?step156) AllReadyH.nil
              case hi156 => simp only [List.getElem?_toArray, List.getElem?_cons_succ, List.getElem?_cons_zero]; rfl
              rw [if_pos (by rfl)]
              go_simp
              have hqW : Below wq.heap.size wq (wf0.alloc (.cells #[] 9)) := hqf.alloc hqf.size _
              have row0 := World.ownsRow_lit (e := 9) (size := 1) (base := wq.heap.size) wf0 #[] 0 hqf.size (by unfold maxLen; omega) (by simp)
              have hrf := hrf0.below ((Below.refl wf0.heap.size wf0).alloc (Nat.le_refl _) (.cells #[] 9))
              refine hK.out _ _ ⟨HCq.out _ (hqW), far.out _ (fr _ (hqW))⟩ (fun hS9 => ?_)
              obtain ⟨i0, hi0, hz0, hz1, hz2⟩ := info_parts Try.infoStr
              obtain ⟨v5, w5, hrun, ho5, hg5, _⟩ := run_appG (P := Try.prog) (wf0.alloc (.cells #[] 9)) 35 wq.heap.size 9 i0 _ 1 16 Try.underlying35 hi0 hz0 hz1 hz2 rfl (by decide) _ 0 _ row0 (wf0.alloc (.cells #[] 9)).heap.size (allL L).length _ _ (StrsR.at_ hsf hrf HF1.out).1 (strs_one _) (by have := hl1; unfold maxLen; omega) (by have := hl1; omega) hqW.size
              obtain ⟨A5, c5, rfl, _, _⟩ := (Sl.of_own ho5).form
              have hq5 : Below wq.heap.size wq w5 := hqW.grown hg5 hqW.size (own_lt row0)
              have hsl5 := (HLl.out _ hq5)
              have HRun := hid hrun
              refine wpAnyH_ready (rs := [13]) (by kernel_rfl) (by simp) ?_
              refine AllReadyH.cons (o := ?oi157) ?hi157 (fun K hK => ?step157) AllReadyH.nil
              case hi157 => simp only [List.getElem?_toArray, List.getElem?_cons_succ, List.getElem?_cons_zero]; rfl
              rw [if_pos (by rfl)]
              refine wp_app rfl (by rfl) (by rfl) HRun.out ?_
              refine hK.out _ _ ⟨HCq.out _ (hq5), far.out _ (fr _ (hq5))⟩ (fun hS9 => ?_)
              simp only [Act.put, List.setIfInBounds_toArray, List.set_cons_zero, List.set_cons_succ]
              obtain ⟨v6, w6, hrun6, ho6, hg6, _⟩ := run_appG (P := Try.prog) w5 35 wq.heap.size 9 i0 _ 1 16 Try.underlying35 hi0 hz0 hz1 hz2 rfl (by decide) _ (0 + (allL L).length) _ ho5 w5.heap.size l.length _ _ hsl5.1 (strs_one l) (by have := hl1; have := hnl13; have := hnl.out; unfold maxLen; omega) (by have := hl1; have := hnl13; have := hnl.out; omega) hq5.size
              obtain ⟨A6, c6, rfl, _, _⟩ := (Sl.of_own ho6).form
              have hq6 : Below wq.heap.size wq w6 := hq5.grown hg6 hq5.size (own_lt ho5)
              have HRun6 := hid hrun6
              refine wpAnyH_ready (rs := [15]) (by kernel_rfl) (by simp) ?_
              refine AllReadyH.cons (o := ?oi158) ?hi158 (fun K hK => ?step158) AllReadyH.nil
              case hi158 => simp only [List.getElem?_toArray, List.getElem?_cons_succ, List.getElem?_cons_zero]; rfl
              rw [if_pos (by rfl)]
              refine wp_app rfl (by rfl) (by rfl) HRun6.out ?_
              refine hK.out _ _ ⟨HCq.out _ (hq6), far.out _ (fr _ (hq6))⟩ (fun hS9 => ?_)
              simp only [Act.put, List.setIfInBounds_toArray, List.set_cons_zero, List.set_cons_succ]
              have HO6 := hid (show StrsR [⟨9, 1, (allL L ++ l).length, .slice A6 (0 + (allL L).length + l.length) c6, (allL L ++ l).map txt⟩] (.slice A6 (0 + (allL L).length + l.length) c6) (allL L ++ l) ∧ Rows w6 wq.heap.size [⟨9, 1, (allL L ++ l).length, .slice A6 (0 + (allL L).length + l.length) c6, (allL L ++ l).map txt⟩] from ⟨rfl, Rows.one (show World.ownsRow w6 wq.heap.size 9 1 (.slice A6 (0 + (allL L).length + l.length) c6) (allL L ++ l).length ((allL L ++ l).map txt) from by have h9 := ho6; rw [List.length_append]; simpa [List.map_append] using h9)⟩)
              refine wpAnyH_ready (rs := [17]) (by kernel_rfl) (by simp) ?_
              refine AllReadyH.cons (o := ?oi159) ?hi159 (fun K hK => ?step159) AllReadyH.nil
              case hi159 => simp only [List.getElem?_toArray, List.getElem?_cons_succ, List.getElem?_cons_zero]; rfl
              rw [if_pos (by rfl)]
              go_simp
              go_at_call 31
              refine (CAx.out _ (fr _ hq6)).mono ?_
              rintro e w7 ⟨yx, rsx, rfl, hsx, hrx, hb⟩
              obtain ⟨Ax, nx, cx, rfl⟩ := hsx.form hrx
              have hq7 : Below wq.heap.size wq w7 := hq6.trans (hb.mono hq6.size)
              have CN := hid (endsWith_c (StrsR.at_ HO6.out.1 (HO6.out.2.below hb) HF12.out) (StrsR.at_ hsx hrx HF2.out) (by rw [List.length_append]; have := hl1; have := hnl13; have := hnl.out; omega) hl2)
              rw [HSuf.out] at CN
              rw [Nat.zero_add] at CN
              refine hK.out _ _ ⟨HCq.out _ (hq7), far.out _ (fr _ (hq7))⟩ (fun hS9 => ?_)
              refine wpAnyH_ready (rs := [18]) (by kernel_rfl) (by simp) ?_
              refine AllReadyH.cons (o := ?oi160) ?hi160 (fun K hK => ?step160) AllReadyH.nil
              case hi160 => simp only [List.getElem?_toArray, List.getElem?_cons_succ, List.getElem?_cons_zero]; rfl
              rw [if_pos (by rfl)]
              go_simp
              go_at_call 34
              refine CN.out.mono ?_
              rintro e w8 ⟨rfl, hb8⟩
              have hq8 : Below wq.heap.size wq w8 := hq7.trans (hb8.mono hq7.size)
              refine hK.out _ _ ⟨HCq.out _ (hq8), far.out _ (fr _ (hq8))⟩ (fun hS9 => ?_)
              refine wpAnyH_take (i := 19) (oi := ?oi161) (v := ?v161) ?hi161 (by kernel_rfl) ?hf161 ?hr161 ?hQ161 (Or.inl ⟨?hw161, ?hy161⟩) (by assumption) ?rest161
              case hi161 => simp only [List.getElem?_toArray, List.getElem?_cons_succ, List.getElem?_cons_zero]; rfl
              case hf161 => kernel_rfl
              case hr161 => kernel_rfl
              case hw161 => rfl
              case hy161 => (intro w hSw; (try dsimp only at hSw); go_simp; all_goals (first | done | with_reducible rfl))
              case hQ161 => exact fun _ _ _ h => h
              simp only [Act.put, List.setIfInBounds_toArray, List.set_cons_zero, List.set_cons_succ]
              refine wpAnyH_take (i := 20) (oi := ?oi162) (v := ?v162) ?hi162 (by kernel_rfl) ?hf162 ?hr162 ?hQ162 (Or.inl ⟨?hw162, ?hy162⟩) (by assumption) ?rest162
              case hi162 => simp only [List.getElem?_toArray, List.getElem?_cons_succ, List.getElem?_cons_zero]; rfl
              case hf162 => kernel_rfl
              case hr162 => kernel_rfl
              case hw162 => rfl
              case hy162 => (intro w hSw; (try dsimp only at hSw); go_simp; all_goals (first | done | with_reducible rfl))
              case hQ162 => exact fun _ _ _ h => h
              simp only [Act.put, List.setIfInBounds_toArray, List.set_cons_zero, List.set_cons_succ]
              refine wpAnyH_done (by kernel_rfl) ?_ _
              have HBz := hid (HBb.out.trans ((fr _ hq8).mono HBb.out.size))
              clear hS hS9
              go_wp2_with fail
              go_ret
              exact ⟨rfl, HBz.out⟩
      · have s2 : (0 : Int) ≤ (cl : Int) := by omega
        rcases Al with _ | ⟨gl, ol, fl⟩
        · have hzz : True := trivial
          obtain ⟨M, hM1, hM2⟩ := lines_split 0 HEq.out
          have hMok := (linesX_ok hM1).2.2.2
          obtain ⟨mm, mk, ml⟩ := M
          have HSrc := hid (fun (W : World) (hW : Below wz.heap.size wz W) => FilR.at_ HS.out (HRb.out.right.right.right.left.below (hqz.out.trans (hW.mono hqz.out.size))) HF.out)
          have CW := hid (fun (W : World) (v v2 : Value) (h : FilIn W W.heap.size v ⟨mo, ke, L⟩) (h2 : StrsIn W W.heap.size v2 (l.take 0)) => (show Calls Try.prog 24 #[v, v2] W (FilPostO W ⟨mm, mk, ml⟩ true) from by have h9 := implWriteLines_c h h2 (Nat.le_refl _); rw [hM1] at h9; exact h9))
          have CW2 := hid (fun (W : World) (v v2 : Value) (h : FilIn W W.heap.size v ⟨mm, mk, ml⟩) (h2 : StrsIn W W.heap.size v2 (l.drop 0)) => (show Calls Try.prog 24 #[v, v2] W (FilPostO W ⟨mo, ke, xl⟩ true) from by have h9 := implWriteLines_c h h2 (Nat.le_refl _); rw [hM2] at h9; exact h9))
          have HLl := hid (fun (W : World) (hW : Below wz.heap.size wz W) => StrsR.at_ HSl.out (HRb.out.right.right.right.right.below (hqz.out.trans (hW.mono hqz.out.size))) HFl.out)
          have HCl := hid (fun (W : World) (hW : Below wz.heap.size wz W) => (far.out W (hqz.out.trans (hW.mono hqz.out.size))).2.2.2)
          have HMf := hid (fil_fit hMok)
          clear hM1 hM2 hMok o0 o1 o2 f0 f1 f2
          go_wp2_with fail
          go_cut [10, 11] from 14 (fun s10 s11 wc => ∃ (bm : Nat) (Am : Option Addr) (nm cm : Nat) (rsm : List Row), s10 = .pointer (some ⟨bm, 0, none⟩) ∧ s11 = .bool true ∧ Hid (FilR rsm (.agg #[.int .i64 mm, .int .i64 mk, .slice Am nm cm]) ⟨mm, mk, ml⟩) ∧ Hid (Rows wc wz.heap.size ([bxRow 26 3 bm [.int .i64 mm, .int .i64 mk, .slice Am nm cm]] ++ rsm)) ∧ Hid (Below wz.heap.size wz wc))
          case first =>
            have hq9 : Below wz.heap.size wz wz := Below.refl _ _
            have c0 := (HCl.out _ hq9).1
            have c1 := (HCl.out _ hq9).2.1
            have c2 := (HCl.out _ hq9).2.2
            refine wp_region_held_drew (S := (fun w' : World => w'.cell? ⟨w1.heap.size, 0, none⟩ = some (.int .i64 mo) ∧ w'.cell? ⟨w1.heap.size, 1, none⟩ = some (.int .i64 ke) ∧ w'.cell? ⟨w1.heap.size, 2, none⟩ = some (.slice A n c))) (by kernel_rfl) ⟨c0, c1, c2⟩ (fun hS => ?_)
            have hq0 : Below wz.heap.size wz wz.drew := hq9.drew
            clear c0 c1 c2
            have c0 := (HCl.out _ hq0).1
            have c1 := (HCl.out _ hq0).2.1
            have c2 := (HCl.out _ hq0).2.2
            refine wpAnyH_take (i := 0) (oi := ?oi163) (v := ?v163) ?hi163 (by kernel_rfl) ?hf163 ?hr163 ?hQ163 (Or.inl ⟨?hw163, ?hy163⟩) (by assumption) ?rest163
            case hi163 => simp only [List.getElem?_toArray, List.getElem?_cons_succ, List.getElem?_cons_zero]; rfl
            case hf163 => kernel_rfl
            case hr163 => kernel_rfl
            case hw163 => rfl
            case hy163 => (intro w hSw; (try dsimp only at hSw); go_simp; all_goals (first | done | with_reducible rfl))
            case hQ163 => exact fun _ _ _ h => h
            simp only [Act.put, List.setIfInBounds_toArray, List.set_cons_zero, List.set_cons_succ]
            refine wpAnyH_take (i := 1) (oi := ?oi164) (v := ?v164) ?hi164 (by kernel_rfl) ?hf164 ?hr164 ?hQ164 (Or.inl ⟨?hw164, ?hy164⟩) (by assumption) ?rest164
            case hi164 => simp only [List.getElem?_toArray, List.getElem?_cons_succ, List.getElem?_cons_zero]; rfl
            case hf164 => kernel_rfl
            case hr164 => kernel_rfl
            case hw164 => rfl
            case hy164 => (intro w hSw; (try dsimp only at hSw); go_simp; all_goals (first | done | with_reducible rfl))
            case hQ164 => exact fun _ _ _ h => h
            simp only [Act.put, List.setIfInBounds_toArray, List.set_cons_zero, List.set_cons_succ]
            refine wpAnyH_take (i := 2) (oi := ?oi165) (v := ?v165) ?hi165 (by kernel_rfl) ?hf165 ?hr165 ?hQ165 (Or.inl ⟨?hw165, ?hy165⟩) (by assumption) ?rest165
            case hi165 => simp only [List.getElem?_toArray, List.getElem?_cons_succ, List.getElem?_cons_zero]; rfl
            case hf165 => kernel_rfl
            case hr165 => kernel_rfl
            case hw165 => rfl
            case hy165 => (intro w hSw; (try dsimp only at hSw); go_simp; all_goals (first | done | with_reducible rfl))
            case hQ165 => exact fun _ _ _ h => h
            simp only [Act.put, List.setIfInBounds_toArray, List.set_cons_zero, List.set_cons_succ]
            refine wpAnyH_take (i := 3) (oi := ?oi166) (v := ?v166) ?hi166 (by kernel_rfl) ?hf166 ?hr166 ?hQ166 (Or.inl ⟨?hw166, ?hy166⟩) (by assumption) ?rest166
            case hi166 => simp only [List.getElem?_toArray, List.getElem?_cons_succ, List.getElem?_cons_zero]; rfl
            case hf166 => kernel_rfl
            case hr166 => kernel_rfl
            case hw166 => rfl
            case hy166 => (intro w hSw; (try dsimp only at hSw); go_simp; all_goals (first | done | with_reducible rfl))
            case hQ166 => exact fun _ _ _ h => h
            simp only [Act.put, List.setIfInBounds_toArray, List.set_cons_zero, List.set_cons_succ]
            clear hq9
            generalize wz.drew = wx at *
            refine wpAnyH_ready (rs := [4, 8]) (by kernel_rfl) (by simp) ?_
            refine AllReadyH.cons (o := ?oi167) ?hi167 (fun K hK => ?stepA167) (AllReadyH.cons (o := ?oj167) ?hj167 (fun K hK => ?stepB167) AllReadyH.nil)
            case hi167 => simp only [List.getElem?_toArray, List.getElem?_cons_succ, List.getElem?_cons_zero]; rfl
            case hj167 => simp only [List.getElem?_toArray, List.getElem?_cons_succ, List.getElem?_cons_zero]; rfl
            all_goals rw [if_pos (by rfl)]
            all_goals go_simp
            · go_at_call 24
              refine (CW.out _ _ _ (HSrc.out _ hq0) (HL.out _ hq0)).mono ?_
              rintro e wa ⟨um, rsm, rfl, hsm, hrm, hb⟩
              obtain ⟨Am, nm, cm, rfl⟩ := hsm.form hrm
              have hqa : Below wz.heap.size wz wa := hq0.trans (hb.mono hq0.size)
              clear c0 c1 c2
              have c0 := (HCl.out _ hqa).1
              have c1 := (HCl.out _ hqa).2.1
              have c2 := (HCl.out _ hqa).2.2
              refine hK.out _ _ ⟨c0, c1, c2⟩ (fun hS9 => ?_)
              refine wpAnyH_take (i := 5) (oi := ?oi168) (v := ?v168) ?hi168 (by kernel_rfl) ?hf168 ?hr168 ?hQ168 (Or.inl ⟨?hw168, ?hy168⟩) (by assumption) ?rest168
              case hi168 => simp only [List.getElem?_toArray, List.getElem?_cons_succ, List.getElem?_cons_zero]; rfl
              case hf168 => kernel_rfl
              case hr168 => kernel_rfl
              case hw168 => rfl
              case hy168 => (intro w hSw; (try dsimp only at hSw); go_simp; all_goals (first | done | with_reducible rfl))
              case hQ168 => exact fun _ _ _ h => h
              simp only [Act.put, List.setIfInBounds_toArray, List.set_cons_zero, List.set_cons_succ]
              refine wpAnyH_take (i := 6) (oi := ?oi169) (v := ?v169) ?hi169 (by kernel_rfl) ?hf169 ?hr169 ?hQ169 (Or.inl ⟨?hw169, ?hy169⟩) (by assumption) ?rest169
              case hi169 => simp only [List.getElem?_toArray, List.getElem?_cons_succ, List.getElem?_cons_zero]; rfl
              case hf169 => kernel_rfl
              case hr169 => kernel_rfl
              case hw169 => rfl
              case hy169 => (intro w hSw; (try dsimp only at hSw); go_simp; all_goals (first | done | with_reducible rfl))
              case hQ169 => exact fun _ _ _ h => h
              simp only [Act.put, List.setIfInBounds_toArray, List.set_cons_zero, List.set_cons_succ]
              refine wpAnyH_take (i := 7) (oi := ?oi170) (v := ?v170) ?hi170 (by kernel_rfl) ?hf170 ?hr170 ?hQ170 (Or.inl ⟨?hw170, ?hy170⟩) (by assumption) ?rest170
              case hi170 => simp only [List.getElem?_toArray, List.getElem?_cons_succ, List.getElem?_cons_zero]; rfl
              case hf170 => kernel_rfl
              case hr170 => kernel_rfl
              case hw170 => rfl
              case hy170 => (intro w hSw; (try dsimp only at hSw); go_simp; all_goals (first | done | with_reducible rfl))
              case hQ170 => exact fun _ _ _ h => h
              simp only [Act.put, List.setIfInBounds_toArray, List.set_cons_zero, List.set_cons_succ]
              refine wpAnyH_ready (rs := [8]) (by kernel_rfl) (by simp) ?_
              refine AllReadyH.cons (o := ?oi171) ?hi171 (fun K hK => ?step171) AllReadyH.nil
              case hi171 => simp only [List.getElem?_toArray, List.getElem?_cons_succ, List.getElem?_cons_zero]; rfl
              rw [if_pos (by rfl)]
              go_simp
              have hqn : Below wz.heap.size wz (wa.alloc (.cells #[.int .i64 0, .int .i64 0, .slice none 0 0] 26)) := hqa.alloc hqa.size _
              have hbne : wa.heap.size ≠ w1.heap.size := Nat.ne_of_gt (World.block_lt_of_cell? wa _ c0)
              have hbnl : wz.heap.size ≤ wa.heap.size := hqa.size
              have HRn := (hrm.base hq0.size).bx hqa.size #[.int .i64 0, .int .i64 0, .slice none 0 0] 26 3 rfl
              clear c0 c1 c2 hb
              have c0 := (HCl.out _ hqn).1
              have c1 := (HCl.out _ hqn).2.1
              have c2 := (HCl.out _ hqn).2.2
              refine hK.out _ _ ⟨c0, c1, c2⟩ (fun hS9 => ?_)
              generalize wa.alloc (.cells #[.int .i64 0, .int .i64 0, .slice none 0 0] 26) = wn at *
              generalize wa.heap.size = bn at *
              obtain ⟨z0, y0, _⟩ := Rows.bcell2 (pre := []) (q := 0) HRn rfl
              obtain ⟨z1, y1, _⟩ := Rows.bcell2 (pre := []) (q := 1) HRn rfl
              obtain ⟨z2, y2, _⟩ := Rows.bcell2 (pre := []) (q := 2) HRn rfl
              refine wpAnyH_ready (rs := [9]) (by kernel_rfl) (by simp) ?_
              refine AllReadyH.cons (o := ?oi172) ?hi172 (fun K hK => ?step172) AllReadyH.nil
              case hi172 => simp only [List.getElem?_toArray, List.getElem?_cons_succ, List.getElem?_cons_zero]; rfl
              rw [if_pos (by rfl)]
              go_simp
              have far9 : ∀ (W : World) (q q' : Nat) (u u' : Value), W.cell? ⟨w1.heap.size, q, none⟩ = some u → (W.setCell ⟨bn, q', none⟩ u').cell? ⟨w1.heap.size, q, none⟩ = some u := fun W q q' u u' h => (World.cell?_setCell_far _ _ _ _ hbne).trans h
              refine hK.out _ _ ⟨far9 _ _ _ _ _ (far9 _ _ _ _ _ (far9 _ _ _ _ _ c0)), far9 _ _ _ _ _ (far9 _ _ _ _ _ (far9 _ _ _ _ _ c1)), far9 _ _ _ _ _ (far9 _ _ _ _ _ (far9 _ _ _ _ _ c2))⟩ (fun hS9 => ?_)
              refine wpAnyH_take (i := 10) (oi := ?oi173) (v := ?v173) ?hi173 (by kernel_rfl) ?hf173 ?hr173 ?hQ173 (Or.inl ⟨?hw173, ?hy173⟩) (by assumption) ?rest173
              case hi173 => simp only [List.getElem?_toArray, List.getElem?_cons_succ, List.getElem?_cons_zero]; rfl
              case hf173 => kernel_rfl
              case hr173 => kernel_rfl
              case hw173 => rfl
              case hy173 => (intro w hSw; (try dsimp only at hSw); go_simp; all_goals (first | done | with_reducible rfl))
              case hQ173 => exact fun _ _ _ h => h
              simp only [Act.put, List.setIfInBounds_toArray, List.set_cons_zero, List.set_cons_succ]
              refine wpAnyH_done (by kernel_rfl) ?_ _
              have Y0 := Rows.boxset (pre := []) (j := 0) (u := .int .i64 mm) HRn
              have Y1 := Rows.boxset (pre := []) (j := 1) (u := .int .i64 mk) Y0
              have Y2 := hid (Rows.boxset (pre := []) (j := 2) (u := .slice Am nm cm) Y1)
              have HBn := hid (((hqn.setCell (p := ⟨bn, 0, none⟩) hbnl (.int .i64 mm)).setCell (p := ⟨bn, 1, none⟩) hbnl (.int .i64 mk)).setCell (p := ⟨bn, 2, none⟩) hbnl (.slice Am nm cm))
              have HSM9 := hid hsm
              clear hS hS9 far9 Y0 Y1 z0 z1 z2 y0 y1 y2 c0 c1 c2 HRn hsm hrm
              go_wp2_with fail
              go_meet
              case rel => exact ⟨bn, Am, nm, cm, rsm, rfl, rfl, HSM9.out, Y2.out, HBn.out⟩
            · have hqn : Below wz.heap.size wz (wx.alloc (.cells #[.int .i64 0, .int .i64 0, .slice none 0 0] 26)) := hq0.alloc hq0.size _
              have hbne : wx.heap.size ≠ w1.heap.size := Nat.ne_of_gt (World.block_lt_of_cell? wx _ c0)
              have hbnl : wz.heap.size ≤ wx.heap.size := hq0.size
              have HR0 := (Rows.box wx #[.int .i64 0, .int .i64 0, .slice none 0 0] 26 3 rfl).base hq0.size
              clear c0 c1 c2
              have c0 := (HCl.out _ hqn).1
              have c1 := (HCl.out _ hqn).2.1
              have c2 := (HCl.out _ hqn).2.2
              refine hK.out _ _ ⟨c0, c1, c2⟩ (fun hS9 => ?_)
              refine wpAnyH_ready (rs := [4]) (by kernel_rfl) (by simp) ?_
              refine AllReadyH.cons (o := ?oi174) ?hi174 (fun K hK => ?step174) AllReadyH.nil
              case hi174 => simp only [List.getElem?_toArray, List.getElem?_cons_succ, List.getElem?_cons_zero]; rfl
              rw [if_pos (by rfl)]
              go_simp
              generalize wx.alloc (.cells #[.int .i64 0, .int .i64 0, .slice none 0 0] 26) = wn at *
              generalize wx.heap.size = bn at *
              go_at_call 24
              refine (CW.out _ _ _ (HSrc.out _ hqn) (HL.out _ hqn)).mono ?_
              rintro e wa ⟨um, rsm, rfl, hsm, hrm, hb⟩
              obtain ⟨Am, nm, cm, rfl⟩ := hsm.form hrm
              have hqa : Below wz.heap.size wz wa := hqn.trans (hb.mono hqn.size)
              have HRn := (HR0.newer hb hrm hqn.size).perm List.perm_append_comm
              clear hb c0 c1 c2 HR0
              have c0 := (HCl.out _ hqa).1
              have c1 := (HCl.out _ hqa).2.1
              have c2 := (HCl.out _ hqa).2.2
              refine hK.out _ _ ⟨c0, c1, c2⟩ (fun hS9 => ?_)
              refine wpAnyH_take (i := 5) (oi := ?oi175) (v := ?v175) ?hi175 (by kernel_rfl) ?hf175 ?hr175 ?hQ175 (Or.inl ⟨?hw175, ?hy175⟩) (by assumption) ?rest175
              case hi175 => simp only [List.getElem?_toArray, List.getElem?_cons_succ, List.getElem?_cons_zero]; rfl
              case hf175 => kernel_rfl
              case hr175 => kernel_rfl
              case hw175 => rfl
              case hy175 => (intro w hSw; (try dsimp only at hSw); go_simp; all_goals (first | done | with_reducible rfl))
              case hQ175 => exact fun _ _ _ h => h
              simp only [Act.put, List.setIfInBounds_toArray, List.set_cons_zero, List.set_cons_succ]
              refine wpAnyH_take (i := 6) (oi := ?oi176) (v := ?v176) ?hi176 (by kernel_rfl) ?hf176 ?hr176 ?hQ176 (Or.inl ⟨?hw176, ?hy176⟩) (by assumption) ?rest176
              case hi176 => simp only [List.getElem?_toArray, List.getElem?_cons_succ, List.getElem?_cons_zero]; rfl
              case hf176 => kernel_rfl
              case hr176 => kernel_rfl
              case hw176 => rfl
              case hy176 => (intro w hSw; (try dsimp only at hSw); go_simp; all_goals (first | done | with_reducible rfl))
              case hQ176 => exact fun _ _ _ h => h
              simp only [Act.put, List.setIfInBounds_toArray, List.set_cons_zero, List.set_cons_succ]
              refine wpAnyH_take (i := 7) (oi := ?oi177) (v := ?v177) ?hi177 (by kernel_rfl) ?hf177 ?hr177 ?hQ177 (Or.inl ⟨?hw177, ?hy177⟩) (by assumption) ?rest177
              case hi177 => simp only [List.getElem?_toArray, List.getElem?_cons_succ, List.getElem?_cons_zero]; rfl
              case hf177 => kernel_rfl
              case hr177 => kernel_rfl
              case hw177 => rfl
              case hy177 => (intro w hSw; (try dsimp only at hSw); go_simp; all_goals (first | done | with_reducible rfl))
              case hQ177 => exact fun _ _ _ h => h
              simp only [Act.put, List.setIfInBounds_toArray, List.set_cons_zero, List.set_cons_succ]
              obtain ⟨z0, y0, _⟩ := Rows.bcell2 (pre := []) (q := 0) HRn rfl
              obtain ⟨z1, y1, _⟩ := Rows.bcell2 (pre := []) (q := 1) HRn rfl
              obtain ⟨z2, y2, _⟩ := Rows.bcell2 (pre := []) (q := 2) HRn rfl
              refine wpAnyH_ready (rs := [9]) (by kernel_rfl) (by simp) ?_
              refine AllReadyH.cons (o := ?oi178) ?hi178 (fun K hK => ?step178) AllReadyH.nil
              case hi178 => simp only [List.getElem?_toArray, List.getElem?_cons_succ, List.getElem?_cons_zero]; rfl
              rw [if_pos (by rfl)]
              go_simp
              have far9 : ∀ (W : World) (q q' : Nat) (u u' : Value), W.cell? ⟨w1.heap.size, q, none⟩ = some u → (W.setCell ⟨bn, q', none⟩ u').cell? ⟨w1.heap.size, q, none⟩ = some u := fun W q q' u u' h => (World.cell?_setCell_far _ _ _ _ hbne).trans h
              refine hK.out _ _ ⟨far9 _ _ _ _ _ (far9 _ _ _ _ _ (far9 _ _ _ _ _ c0)), far9 _ _ _ _ _ (far9 _ _ _ _ _ (far9 _ _ _ _ _ c1)), far9 _ _ _ _ _ (far9 _ _ _ _ _ (far9 _ _ _ _ _ c2))⟩ (fun hS9 => ?_)
              refine wpAnyH_take (i := 10) (oi := ?oi179) (v := ?v179) ?hi179 (by kernel_rfl) ?hf179 ?hr179 ?hQ179 (Or.inl ⟨?hw179, ?hy179⟩) (by assumption) ?rest179
              case hi179 => simp only [List.getElem?_toArray, List.getElem?_cons_succ, List.getElem?_cons_zero]; rfl
              case hf179 => kernel_rfl
              case hr179 => kernel_rfl
              case hw179 => rfl
              case hy179 => (intro w hSw; (try dsimp only at hSw); go_simp; all_goals (first | done | with_reducible rfl))
              case hQ179 => exact fun _ _ _ h => h
              simp only [Act.put, List.setIfInBounds_toArray, List.set_cons_zero, List.set_cons_succ]
              refine wpAnyH_done (by kernel_rfl) ?_ _
              have Y0 := Rows.boxset (pre := []) (j := 0) (u := .int .i64 mm) HRn
              have Y1 := Rows.boxset (pre := []) (j := 1) (u := .int .i64 mk) Y0
              have Y2 := hid (Rows.boxset (pre := []) (j := 2) (u := .slice Am nm cm) Y1)
              have HBn := hid (((hqa.setCell (p := ⟨bn, 0, none⟩) hbnl (.int .i64 mm)).setCell (p := ⟨bn, 1, none⟩) hbnl (.int .i64 mk)).setCell (p := ⟨bn, 2, none⟩) hbnl (.slice Am nm cm))
              have HSM9 := hid hsm
              clear hS hS9 far9 Y0 Y1 z0 z1 z2 y0 y1 y2 c0 c1 c2 HRn hsm hrm
              go_wp2_with fail
              go_meet
              case rel => exact ⟨bn, Am, nm, cm, rsm, rfl, rfl, HSM9.out, Y2.out, HBn.out⟩
          case rest =>
            obtain ⟨bm, Am, nm, cm, rsm, rfl, rfl, HSm, HRm, HBm⟩ := hcut
            rename World => wm
            clear HSrc CW HCl HL
            have HSrc := hid (fun (W : World) (hW : Below wm.heap.size wm W) => FilR.at_ HSm.out (HRm.out.right.below hW) HMf.out)
            have HCl := hid (fun (W : World) (hW : Below wm.heap.size wm W) => And.intro ((hW.cell (p := ⟨bm, 0, none⟩) (Rows.bc HRm.out.left 0 rfl).2).trans (Rows.bc HRm.out.left 0 rfl).1) (And.intro ((hW.cell (p := ⟨bm, 1, none⟩) (Rows.bc HRm.out.left 1 rfl).2).trans (Rows.bc HRm.out.left 1 rfl).1) ((hW.cell (p := ⟨bm, 2, none⟩) (Rows.bc HRm.out.left 2 rfl).2).trans (Rows.bc HRm.out.left 2 rfl).1)))
            have HL := hid (fun (W : World) (hW : Below wm.heap.size wm W) => HL2.out W (HBm.out.trans (hW.mono HBm.out.size)))
            have HLm := hid (fun (W : World) (hW : Below wm.heap.size wm W) => HLl.out W (HBm.out.trans (hW.mono HBm.out.size)))
            have hqm := hid (hqz.out.trans (HBm.out.mono hqz.out.size))
            have CW := hid CW2.out
            clear HL2 CW2 HLl hqz HBm
            go_wp2_with fail
            go_cut [12, 13] from 14 (fun s12 s13 wc => ∃ (bm : Nat) (Am : Option Addr) (nm cm : Nat) (rsm : List Row), s12 = .pointer (some ⟨bm, 0, none⟩) ∧ s13 = .bool true ∧ Hid (FilR rsm (.agg #[.int .i64 mo, .int .i64 ke, .slice Am nm cm]) ⟨mo, ke, xl⟩) ∧ Hid (Rows wc wm.heap.size ([bxRow 26 3 bm [.int .i64 mo, .int .i64 ke, .slice Am nm cm]] ++ rsm)) ∧ Hid (Below wm.heap.size wm wc))
            case first =>
              have hq9 : Below wm.heap.size wm wm := Below.refl _ _
              have c0 := (HCl.out _ hq9).1
              have c1 := (HCl.out _ hq9).2.1
              have c2 := (HCl.out _ hq9).2.2
              refine wp_region_held_drew (S := (fun w' : World => w'.cell? ⟨bm, 0, none⟩ = some (.int .i64 mm) ∧ w'.cell? ⟨bm, 1, none⟩ = some (.int .i64 mk) ∧ w'.cell? ⟨bm, 2, none⟩ = some (.slice Am nm cm))) (by kernel_rfl) ⟨c0, c1, c2⟩ (fun hS => ?_)
              have hq0 : Below wm.heap.size wm wm.drew := hq9.drew
              clear c0 c1 c2
              have c0 := (HCl.out _ hq0).1
              have c1 := (HCl.out _ hq0).2.1
              have c2 := (HCl.out _ hq0).2.2
              refine wpAnyH_take (i := 0) (oi := ?oi180) (v := ?v180) ?hi180 (by kernel_rfl) ?hf180 ?hr180 ?hQ180 (Or.inl ⟨?hw180, ?hy180⟩) (by assumption) ?rest180
              case hi180 => simp only [List.getElem?_toArray, List.getElem?_cons_succ, List.getElem?_cons_zero]; rfl
              case hf180 => kernel_rfl
              case hr180 => kernel_rfl
              case hw180 => rfl
              case hy180 => (intro w hSw; (try dsimp only at hSw); go_simp; all_goals (first | done | with_reducible rfl))
              case hQ180 => exact fun _ _ _ h => h
              simp only [Act.put, List.setIfInBounds_toArray, List.set_cons_zero, List.set_cons_succ]
              refine wpAnyH_take (i := 1) (oi := ?oi181) (v := ?v181) ?hi181 (by kernel_rfl) ?hf181 ?hr181 ?hQ181 (Or.inl ⟨?hw181, ?hy181⟩) (by assumption) ?rest181
              case hi181 => simp only [List.getElem?_toArray, List.getElem?_cons_succ, List.getElem?_cons_zero]; rfl
              case hf181 => kernel_rfl
              case hr181 => kernel_rfl
              case hw181 => rfl
              case hy181 => (intro w hSw; (try dsimp only at hSw); go_simp; all_goals (first | done | with_reducible rfl))
              case hQ181 => exact fun _ _ _ h => h
              simp only [Act.put, List.setIfInBounds_toArray, List.set_cons_zero, List.set_cons_succ]
              refine wpAnyH_take (i := 2) (oi := ?oi182) (v := ?v182) ?hi182 (by kernel_rfl) ?hf182 ?hr182 ?hQ182 (Or.inl ⟨?hw182, ?hy182⟩) (by assumption) ?rest182
              case hi182 => simp only [List.getElem?_toArray, List.getElem?_cons_succ, List.getElem?_cons_zero]; rfl
              case hf182 => kernel_rfl
              case hr182 => kernel_rfl
              case hw182 => rfl
              case hy182 => (intro w hSw; (try dsimp only at hSw); go_simp; all_goals (first | done | with_reducible rfl))
              case hQ182 => exact fun _ _ _ h => h
              simp only [Act.put, List.setIfInBounds_toArray, List.set_cons_zero, List.set_cons_succ]
              refine wpAnyH_take (i := 3) (oi := ?oi183) (v := ?v183) ?hi183 (by kernel_rfl) ?hf183 ?hr183 ?hQ183 (Or.inl ⟨?hw183, ?hy183⟩) (by assumption) ?rest183
              case hi183 => simp only [List.getElem?_toArray, List.getElem?_cons_succ, List.getElem?_cons_zero]; rfl
              case hf183 => kernel_rfl
              case hr183 => kernel_rfl
              case hw183 => rfl
              case hy183 => (intro w hSw; (try dsimp only at hSw); go_simp; all_goals (first | done | with_reducible rfl))
              case hQ183 => exact fun _ _ _ h => h
              simp only [Act.put, List.setIfInBounds_toArray, List.set_cons_zero, List.set_cons_succ]
              clear hq9
              generalize wm.drew = wx at *
              refine wpAnyH_ready (rs := [4, 8]) (by kernel_rfl) (by simp) ?_
              refine AllReadyH.cons (o := ?oi184) ?hi184 (fun K hK => ?stepA184) (AllReadyH.cons (o := ?oj184) ?hj184 (fun K hK => ?stepB184) AllReadyH.nil)
              case hi184 => simp only [List.getElem?_toArray, List.getElem?_cons_succ, List.getElem?_cons_zero]; rfl
              case hj184 => simp only [List.getElem?_toArray, List.getElem?_cons_succ, List.getElem?_cons_zero]; rfl
              all_goals rw [if_pos (by rfl)]
              all_goals go_simp
              · go_at_call 24
                refine (CW.out _ _ _ (HSrc.out _ hq0) (HL.out _ hq0)).mono ?_
                rintro e wa ⟨um, rsm, rfl, hsm, hrm, hb⟩
                obtain ⟨Am, nm, cm, rfl⟩ := hsm.form hrm
                have hqa : Below wm.heap.size wm wa := hq0.trans (hb.mono hq0.size)
                clear c0 c1 c2
                have c0 := (HCl.out _ hqa).1
                have c1 := (HCl.out _ hqa).2.1
                have c2 := (HCl.out _ hqa).2.2
                refine hK.out _ _ ⟨c0, c1, c2⟩ (fun hS9 => ?_)
                refine wpAnyH_take (i := 5) (oi := ?oi185) (v := ?v185) ?hi185 (by kernel_rfl) ?hf185 ?hr185 ?hQ185 (Or.inl ⟨?hw185, ?hy185⟩) (by assumption) ?rest185
                case hi185 => simp only [List.getElem?_toArray, List.getElem?_cons_succ, List.getElem?_cons_zero]; rfl
                case hf185 => kernel_rfl
                case hr185 => kernel_rfl
                case hw185 => rfl
                case hy185 => (intro w hSw; (try dsimp only at hSw); go_simp; all_goals (first | done | with_reducible rfl))
                case hQ185 => exact fun _ _ _ h => h
                simp only [Act.put, List.setIfInBounds_toArray, List.set_cons_zero, List.set_cons_succ]
                refine wpAnyH_take (i := 6) (oi := ?oi186) (v := ?v186) ?hi186 (by kernel_rfl) ?hf186 ?hr186 ?hQ186 (Or.inl ⟨?hw186, ?hy186⟩) (by assumption) ?rest186
                case hi186 => simp only [List.getElem?_toArray, List.getElem?_cons_succ, List.getElem?_cons_zero]; rfl
                case hf186 => kernel_rfl
                case hr186 => kernel_rfl
                case hw186 => rfl
                case hy186 => (intro w hSw; (try dsimp only at hSw); go_simp; all_goals (first | done | with_reducible rfl))
                case hQ186 => exact fun _ _ _ h => h
                simp only [Act.put, List.setIfInBounds_toArray, List.set_cons_zero, List.set_cons_succ]
                refine wpAnyH_take (i := 7) (oi := ?oi187) (v := ?v187) ?hi187 (by kernel_rfl) ?hf187 ?hr187 ?hQ187 (Or.inl ⟨?hw187, ?hy187⟩) (by assumption) ?rest187
                case hi187 => simp only [List.getElem?_toArray, List.getElem?_cons_succ, List.getElem?_cons_zero]; rfl
                case hf187 => kernel_rfl
                case hr187 => kernel_rfl
                case hw187 => rfl
                case hy187 => (intro w hSw; (try dsimp only at hSw); go_simp; all_goals (first | done | with_reducible rfl))
                case hQ187 => exact fun _ _ _ h => h
                simp only [Act.put, List.setIfInBounds_toArray, List.set_cons_zero, List.set_cons_succ]
                refine wpAnyH_ready (rs := [8]) (by kernel_rfl) (by simp) ?_
                refine AllReadyH.cons (o := ?oi188) ?hi188 (fun K hK => ?step188) AllReadyH.nil
                case hi188 => simp only [List.getElem?_toArray, List.getElem?_cons_succ, List.getElem?_cons_zero]; rfl
                rw [if_pos (by rfl)]
                go_simp
                have hqn : Below wm.heap.size wm (wa.alloc (.cells #[.int .i64 0, .int .i64 0, .slice none 0 0] 26)) := hqa.alloc hqa.size _
                have hbne : wa.heap.size ≠ bm := Nat.ne_of_gt (World.block_lt_of_cell? wa _ c0)
                have hbnl : wm.heap.size ≤ wa.heap.size := hqa.size
                have HRn := (hrm.base hq0.size).bx hqa.size #[.int .i64 0, .int .i64 0, .slice none 0 0] 26 3 rfl
                clear c0 c1 c2 hb
                have c0 := (HCl.out _ hqn).1
                have c1 := (HCl.out _ hqn).2.1
                have c2 := (HCl.out _ hqn).2.2
                refine hK.out _ _ ⟨c0, c1, c2⟩ (fun hS9 => ?_)
                generalize wa.alloc (.cells #[.int .i64 0, .int .i64 0, .slice none 0 0] 26) = wn at *
                generalize wa.heap.size = bn at *
                obtain ⟨z0, y0, _⟩ := Rows.bcell2 (pre := []) (q := 0) HRn rfl
                obtain ⟨z1, y1, _⟩ := Rows.bcell2 (pre := []) (q := 1) HRn rfl
                obtain ⟨z2, y2, _⟩ := Rows.bcell2 (pre := []) (q := 2) HRn rfl
                refine wpAnyH_ready (rs := [9]) (by kernel_rfl) (by simp) ?_
                refine AllReadyH.cons (o := ?oi189) ?hi189 (fun K hK => ?step189) AllReadyH.nil
                case hi189 => simp only [List.getElem?_toArray, List.getElem?_cons_succ, List.getElem?_cons_zero]; rfl
                rw [if_pos (by rfl)]
                go_simp
                have far9 : ∀ (W : World) (q q' : Nat) (u u' : Value), W.cell? ⟨bm, q, none⟩ = some u → (W.setCell ⟨bn, q', none⟩ u').cell? ⟨bm, q, none⟩ = some u := fun W q q' u u' h => (World.cell?_setCell_far _ _ _ _ hbne).trans h
                refine hK.out _ _ ⟨far9 _ _ _ _ _ (far9 _ _ _ _ _ (far9 _ _ _ _ _ c0)), far9 _ _ _ _ _ (far9 _ _ _ _ _ (far9 _ _ _ _ _ c1)), far9 _ _ _ _ _ (far9 _ _ _ _ _ (far9 _ _ _ _ _ c2))⟩ (fun hS9 => ?_)
                refine wpAnyH_take (i := 10) (oi := ?oi190) (v := ?v190) ?hi190 (by kernel_rfl) ?hf190 ?hr190 ?hQ190 (Or.inl ⟨?hw190, ?hy190⟩) (by assumption) ?rest190
                case hi190 => simp only [List.getElem?_toArray, List.getElem?_cons_succ, List.getElem?_cons_zero]; rfl
                case hf190 => kernel_rfl
                case hr190 => kernel_rfl
                case hw190 => rfl
                case hy190 => (intro w hSw; (try dsimp only at hSw); go_simp; all_goals (first | done | with_reducible rfl))
                case hQ190 => exact fun _ _ _ h => h
                simp only [Act.put, List.setIfInBounds_toArray, List.set_cons_zero, List.set_cons_succ]
                refine wpAnyH_done (by kernel_rfl) ?_ _
                have Y0 := Rows.boxset (pre := []) (j := 0) (u := .int .i64 mo) HRn
                have Y1 := Rows.boxset (pre := []) (j := 1) (u := .int .i64 ke) Y0
                have Y2 := hid (Rows.boxset (pre := []) (j := 2) (u := .slice Am nm cm) Y1)
                have HBn := hid (((hqn.setCell (p := ⟨bn, 0, none⟩) hbnl (.int .i64 mo)).setCell (p := ⟨bn, 1, none⟩) hbnl (.int .i64 ke)).setCell (p := ⟨bn, 2, none⟩) hbnl (.slice Am nm cm))
                have HSM9 := hid hsm
                clear hS hS9 far9 Y0 Y1 z0 z1 z2 y0 y1 y2 c0 c1 c2 HRn hsm hrm
                go_wp2_with fail
                go_meet
                case rel => exact ⟨bn, Am, nm, cm, rsm, rfl, rfl, HSM9.out, Y2.out, HBn.out⟩
              · have hqn : Below wm.heap.size wm (wx.alloc (.cells #[.int .i64 0, .int .i64 0, .slice none 0 0] 26)) := hq0.alloc hq0.size _
                have hbne : wx.heap.size ≠ bm := Nat.ne_of_gt (World.block_lt_of_cell? wx _ c0)
                have hbnl : wm.heap.size ≤ wx.heap.size := hq0.size
                have HR0 := (Rows.box wx #[.int .i64 0, .int .i64 0, .slice none 0 0] 26 3 rfl).base hq0.size
                clear c0 c1 c2
                have c0 := (HCl.out _ hqn).1
                have c1 := (HCl.out _ hqn).2.1
                have c2 := (HCl.out _ hqn).2.2
                refine hK.out _ _ ⟨c0, c1, c2⟩ (fun hS9 => ?_)
                refine wpAnyH_ready (rs := [4]) (by kernel_rfl) (by simp) ?_
                refine AllReadyH.cons (o := ?oi191) ?hi191 (fun K hK => ?step191) AllReadyH.nil
                case hi191 => simp only [List.getElem?_toArray, List.getElem?_cons_succ, List.getElem?_cons_zero]; rfl
                rw [if_pos (by rfl)]
                go_simp
                generalize wx.alloc (.cells #[.int .i64 0, .int .i64 0, .slice none 0 0] 26) = wn at *
                generalize wx.heap.size = bn at *
                go_at_call 24
                refine (CW.out _ _ _ (HSrc.out _ hqn) (HL.out _ hqn)).mono ?_
                rintro e wa ⟨um, rsm, rfl, hsm, hrm, hb⟩
                obtain ⟨Am, nm, cm, rfl⟩ := hsm.form hrm
                have hqa : Below wm.heap.size wm wa := hqn.trans (hb.mono hqn.size)
                have HRn := (HR0.newer hb hrm hqn.size).perm List.perm_append_comm
                clear hb c0 c1 c2 HR0
                have c0 := (HCl.out _ hqa).1
                have c1 := (HCl.out _ hqa).2.1
                have c2 := (HCl.out _ hqa).2.2
                refine hK.out _ _ ⟨c0, c1, c2⟩ (fun hS9 => ?_)
                refine wpAnyH_take (i := 5) (oi := ?oi192) (v := ?v192) ?hi192 (by kernel_rfl) ?hf192 ?hr192 ?hQ192 (Or.inl ⟨?hw192, ?hy192⟩) (by assumption) ?rest192
                case hi192 => simp only [List.getElem?_toArray, List.getElem?_cons_succ, List.getElem?_cons_zero]; rfl
                case hf192 => kernel_rfl
                case hr192 => kernel_rfl
                case hw192 => rfl
                case hy192 => (intro w hSw; (try dsimp only at hSw); go_simp; all_goals (first | done | with_reducible rfl))
                case hQ192 => exact fun _ _ _ h => h
                simp only [Act.put, List.setIfInBounds_toArray, List.set_cons_zero, List.set_cons_succ]
                refine wpAnyH_take (i := 6) (oi := ?oi193) (v := ?v193) ?hi193 (by kernel_rfl) ?hf193 ?hr193 ?hQ193 (Or.inl ⟨?hw193, ?hy193⟩) (by assumption) ?rest193
                case hi193 => simp only [List.getElem?_toArray, List.getElem?_cons_succ, List.getElem?_cons_zero]; rfl
                case hf193 => kernel_rfl
                case hr193 => kernel_rfl
                case hw193 => rfl
                case hy193 => (intro w hSw; (try dsimp only at hSw); go_simp; all_goals (first | done | with_reducible rfl))
                case hQ193 => exact fun _ _ _ h => h
                simp only [Act.put, List.setIfInBounds_toArray, List.set_cons_zero, List.set_cons_succ]
                refine wpAnyH_take (i := 7) (oi := ?oi194) (v := ?v194) ?hi194 (by kernel_rfl) ?hf194 ?hr194 ?hQ194 (Or.inl ⟨?hw194, ?hy194⟩) (by assumption) ?rest194
                case hi194 => simp only [List.getElem?_toArray, List.getElem?_cons_succ, List.getElem?_cons_zero]; rfl
                case hf194 => kernel_rfl
                case hr194 => kernel_rfl
                case hw194 => rfl
                case hy194 => (intro w hSw; (try dsimp only at hSw); go_simp; all_goals (first | done | with_reducible rfl))
                case hQ194 => exact fun _ _ _ h => h
                simp only [Act.put, List.setIfInBounds_toArray, List.set_cons_zero, List.set_cons_succ]
                obtain ⟨z0, y0, _⟩ := Rows.bcell2 (pre := []) (q := 0) HRn rfl
                obtain ⟨z1, y1, _⟩ := Rows.bcell2 (pre := []) (q := 1) HRn rfl
                obtain ⟨z2, y2, _⟩ := Rows.bcell2 (pre := []) (q := 2) HRn rfl
                refine wpAnyH_ready (rs := [9]) (by kernel_rfl) (by simp) ?_
                refine AllReadyH.cons (o := ?oi195) ?hi195 (fun K hK => ?step195) AllReadyH.nil
                case hi195 => simp only [List.getElem?_toArray, List.getElem?_cons_succ, List.getElem?_cons_zero]; rfl
                rw [if_pos (by rfl)]
                go_simp
                have far9 : ∀ (W : World) (q q' : Nat) (u u' : Value), W.cell? ⟨bm, q, none⟩ = some u → (W.setCell ⟨bn, q', none⟩ u').cell? ⟨bm, q, none⟩ = some u := fun W q q' u u' h => (World.cell?_setCell_far _ _ _ _ hbne).trans h
                refine hK.out _ _ ⟨far9 _ _ _ _ _ (far9 _ _ _ _ _ (far9 _ _ _ _ _ c0)), far9 _ _ _ _ _ (far9 _ _ _ _ _ (far9 _ _ _ _ _ c1)), far9 _ _ _ _ _ (far9 _ _ _ _ _ (far9 _ _ _ _ _ c2))⟩ (fun hS9 => ?_)
                refine wpAnyH_take (i := 10) (oi := ?oi196) (v := ?v196) ?hi196 (by kernel_rfl) ?hf196 ?hr196 ?hQ196 (Or.inl ⟨?hw196, ?hy196⟩) (by assumption) ?rest196
                case hi196 => simp only [List.getElem?_toArray, List.getElem?_cons_succ, List.getElem?_cons_zero]; rfl
                case hf196 => kernel_rfl
                case hr196 => kernel_rfl
                case hw196 => rfl
                case hy196 => (intro w hSw; (try dsimp only at hSw); go_simp; all_goals (first | done | with_reducible rfl))
                case hQ196 => exact fun _ _ _ h => h
                simp only [Act.put, List.setIfInBounds_toArray, List.set_cons_zero, List.set_cons_succ]
                refine wpAnyH_done (by kernel_rfl) ?_ _
                have Y0 := Rows.boxset (pre := []) (j := 0) (u := .int .i64 mo) HRn
                have Y1 := Rows.boxset (pre := []) (j := 1) (u := .int .i64 ke) Y0
                have Y2 := hid (Rows.boxset (pre := []) (j := 2) (u := .slice Am nm cm) Y1)
                have HBn := hid (((hqa.setCell (p := ⟨bn, 0, none⟩) hbnl (.int .i64 mo)).setCell (p := ⟨bn, 1, none⟩) hbnl (.int .i64 ke)).setCell (p := ⟨bn, 2, none⟩) hbnl (.slice Am nm cm))
                have HSM9 := hid hsm
                clear hS hS9 far9 Y0 Y1 z0 z1 z2 y0 y1 y2 c0 c1 c2 HRn hsm hrm
                go_wp2_with fail
                go_meet
                case rel => exact ⟨bn, Am, nm, cm, rsm, rfl, rfl, HSM9.out, Y2.out, HBn.out⟩
            case rest =>
              obtain ⟨bq, Aq, nq, cq, rsq, rfl, rfl, HSq, HRq, HBq⟩ := hcut
              rename World => wq
              clear HSrc CW HCl HL
              have HCq := hid (fun (W : World) (hW : Below wq.heap.size wq W) => And.intro ((hW.cell (p := ⟨bq, 0, none⟩) (Rows.bc HRq.out.left 0 rfl).2).trans (Rows.bc HRq.out.left 0 rfl).1) (And.intro ((hW.cell (p := ⟨bq, 1, none⟩) (Rows.bc HRq.out.left 1 rfl).2).trans (Rows.bc HRq.out.left 1 rfl).1) ((hW.cell (p := ⟨bq, 2, none⟩) (Rows.bc HRq.out.left 2 rfl).2).trans (Rows.bc HRq.out.left 2 rfl).1)))
              have hqq := hid (hqm.out.trans (HBq.out.mono hqm.out.size))
              have fr : ∀ (W : World), Below wq.heap.size wq W → Below w3.heap.size w3 W := fun W hW => hqq.out.trans (hW.mono hqq.out.size)
              have HLl := hid (fun (W : World) (hW : Below wq.heap.size wq W) => HLm.out W (HBq.out.trans (hW.mono HBq.out.size)))
              have CE := hid (fun (W : World) (hW : Below wq.heap.size wq W) => equalFiles_c (FilR.at_ HSq.out (HRq.out.right.below hW) HFit.out) (FilR.at_ Su2.out (HRb.out.right.left.below (fr _ hW)) HFit.out) HLe.out)
              have CAf := hid (fun (W : World) (hW : Below w3.heap.size w3 W) => implAllLines_c (FilR.at_ HS.out (HRb.out.right.right.right.left.below hW) HF.out) (Nat.le_refl _))
              have CAx := hid (fun (W : World) (hW : Below w3.heap.size w3 W) => implAllLines_c (FilR.at_ Su2.out (HRb.out.right.left.below hW) HFit.out) (Nat.le_refl _))
              rw [HAf.out] at CAf
              rw [HAx.out] at CAx
              have HF1 := hid (show StrsFit (allL L) by have h9 := allX_fit (d := ⟨mo, ke, L⟩); rwa [HAf.out] at h9)
              have HF2 := hid (show StrsFit (allL xl) by have h9 := allX_fit (d := ⟨mo, ke, xl⟩); rwa [HAx.out] at h9)
              have hl1 : (allL L).length ≤ 60 := by have := allL_len L 12 (fil_small HZz.out).2; have h4 : L.length ≤ 4 := (fil_small HZz.out).1; omega
              have hl2 : (allL xl).length ≤ 1000 := by have := allL_len xl 12 (fil_small HE.out).2; have h4 : xl.length ≤ 4 := (fil_small HE.out).1; omega
              have HF12 := hid (show StrsFit (allL L ++ l) from ⟨by rw [List.length_append]; have := hnl.out; unfold maxTxt; omega, fun t ht => by rcases List.mem_append.1 ht with h | h; exact HF1.out.2 t h; exact HFl.out.2 t h⟩)
              clear HLm hqm HBq
              have hq9 : Below wq.heap.size wq wq := Below.refl _ _
              go_wp2_with fail
              refine wp_region_held_drew (S := (fun w' : World => (w'.cell? ⟨bq, 0, none⟩ = some (.int .i64 mo) ∧ w'.cell? ⟨bq, 1, none⟩ = some (.int .i64 ke) ∧ w'.cell? ⟨bq, 2, none⟩ = some (.slice Aq nq cq)) ∧ (w'.cell? ⟨bx, 0, none⟩ = some (.int .i64 mo) ∧ w'.cell? ⟨bx, 1, none⟩ = some (.int .i64 ke) ∧ w'.cell? ⟨bx, 2, none⟩ = some (.slice Au nu cu) ∧ w'.cell? ⟨w1.heap.size, 0, none⟩ = some (.int .i64 mo) ∧ w'.cell? ⟨w1.heap.size, 1, none⟩ = some (.int .i64 ke) ∧ w'.cell? ⟨w1.heap.size, 2, none⟩ = some (.slice A n c)))) (by kernel_rfl) ⟨HCq.out _ hq9.drew, far.out _ (fr _ hq9.drew)⟩ (fun hS => ?_)
              have hq0 : Below wq.heap.size wq wq.drew := hq9.drew
              refine wpAnyH_take (i := 0) (oi := ?oi197) (v := ?v197) ?hi197 (by kernel_rfl) ?hf197 ?hr197 ?hQ197 (Or.inl ⟨?hw197, ?hy197⟩) (by assumption) ?rest197
              case hi197 => simp only [List.getElem?_toArray, List.getElem?_cons_succ, List.getElem?_cons_zero]; rfl
              case hf197 => kernel_rfl
              case hr197 => kernel_rfl
              case hw197 => rfl
              case hy197 => (intro w hSw; (try dsimp only at hSw); go_simp; all_goals (first | done | with_reducible rfl))
              case hQ197 => exact fun _ _ _ h => h
              simp only [Act.put, List.setIfInBounds_toArray, List.set_cons_zero, List.set_cons_succ]
              refine wpAnyH_take (i := 1) (oi := ?oi198) (v := ?v198) ?hi198 (by kernel_rfl) ?hf198 ?hr198 ?hQ198 (Or.inl ⟨?hw198, ?hy198⟩) (by assumption) ?rest198
              case hi198 => simp only [List.getElem?_toArray, List.getElem?_cons_succ, List.getElem?_cons_zero]; rfl
              case hf198 => kernel_rfl
              case hr198 => kernel_rfl
              case hw198 => rfl
              case hy198 => (intro w hSw; (try dsimp only at hSw); go_simp; all_goals (first | done | with_reducible rfl))
              case hQ198 => exact fun _ _ _ h => h
              simp only [Act.put, List.setIfInBounds_toArray, List.set_cons_zero, List.set_cons_succ]
              refine wpAnyH_take (i := 2) (oi := ?oi199) (v := ?v199) ?hi199 (by kernel_rfl) ?hf199 ?hr199 ?hQ199 (Or.inl ⟨?hw199, ?hy199⟩) (by assumption) ?rest199
              case hi199 => simp only [List.getElem?_toArray, List.getElem?_cons_succ, List.getElem?_cons_zero]; rfl
              case hf199 => kernel_rfl
              case hr199 => kernel_rfl
              case hw199 => rfl
              case hy199 => (intro w hSw; (try dsimp only at hSw); go_simp; all_goals (first | done | with_reducible rfl))
              case hQ199 => exact fun _ _ _ h => h
              simp only [Act.put, List.setIfInBounds_toArray, List.set_cons_zero, List.set_cons_succ]
              refine wpAnyH_take (i := 3) (oi := ?oi200) (v := ?v200) ?hi200 (by kernel_rfl) ?hf200 ?hr200 ?hQ200 (Or.inl ⟨?hw200, ?hy200⟩) (by assumption) ?rest200
              case hi200 => simp only [List.getElem?_toArray, List.getElem?_cons_succ, List.getElem?_cons_zero]; rfl
              case hf200 => kernel_rfl
              case hr200 => kernel_rfl
              case hw200 => rfl
              case hy200 => (intro w hSw; (try dsimp only at hSw); go_simp; all_goals (first | done | with_reducible rfl))
              case hQ200 => exact fun _ _ _ h => h
              simp only [Act.put, List.setIfInBounds_toArray, List.set_cons_zero, List.set_cons_succ]
              refine wpAnyH_take (i := 4) (oi := ?oi201) (v := ?v201) ?hi201 (by kernel_rfl) ?hf201 ?hr201 ?hQ201 (Or.inl ⟨?hw201, ?hy201⟩) (by assumption) ?rest201
              case hi201 => simp only [List.getElem?_toArray, List.getElem?_cons_succ, List.getElem?_cons_zero]; rfl
              case hf201 => kernel_rfl
              case hr201 => kernel_rfl
              case hw201 => rfl
              case hy201 => (intro w hSw; (try dsimp only at hSw); go_simp; all_goals (first | done | with_reducible rfl))
              case hQ201 => exact fun _ _ _ h => h
              simp only [Act.put, List.setIfInBounds_toArray, List.set_cons_zero, List.set_cons_succ]
              refine wpAnyH_take (i := 5) (oi := ?oi202) (v := ?v202) ?hi202 (by kernel_rfl) ?hf202 ?hr202 ?hQ202 (Or.inl ⟨?hw202, ?hy202⟩) (by assumption) ?rest202
              case hi202 => simp only [List.getElem?_toArray, List.getElem?_cons_succ, List.getElem?_cons_zero]; rfl
              case hf202 => kernel_rfl
              case hr202 => kernel_rfl
              case hw202 => rfl
              case hy202 => (intro w hSw; (try dsimp only at hSw); go_simp; all_goals (first | done | with_reducible rfl))
              case hQ202 => exact fun _ _ _ h => h
              simp only [Act.put, List.setIfInBounds_toArray, List.set_cons_zero, List.set_cons_succ]
              refine wpAnyH_take (i := 6) (oi := ?oi203) (v := ?v203) ?hi203 (by kernel_rfl) ?hf203 ?hr203 ?hQ203 (Or.inl ⟨?hw203, ?hy203⟩) (by assumption) ?rest203
              case hi203 => simp only [List.getElem?_toArray, List.getElem?_cons_succ, List.getElem?_cons_zero]; rfl
              case hf203 => kernel_rfl
              case hr203 => kernel_rfl
              case hw203 => rfl
              case hy203 => (intro w hSw; (try dsimp only at hSw); go_simp; all_goals (first | done | with_reducible rfl))
              case hQ203 => exact fun _ _ _ h => h
              simp only [Act.put, List.setIfInBounds_toArray, List.set_cons_zero, List.set_cons_succ]
              refine wpAnyH_ready (rs := [7]) (by kernel_rfl) (by simp) ?_
              refine AllReadyH.cons (o := ?oi204) ?hi204 (fun K hK => ?step204) AllReadyH.nil
              case hi204 => simp only [List.getElem?_toArray, List.getElem?_cons_succ, List.getElem?_cons_zero]; rfl
              rw [if_pos (by rfl)]
              go_simp
              go_at_call 40
              refine (CE.out _ hq0).mono ?_
              rintro e we ⟨rfl, hb⟩
              have hqe : Below wq.heap.size wq we := hq0.trans (hb.mono hq0.size)
              clear hb hq0 hq9
              refine hK.out _ _ ⟨HCq.out _ (hqe), far.out _ (fr _ (hqe))⟩ (fun hS9 => ?_)
              refine wpAnyH_take (i := 8) (oi := ?oi205) (v := ?v205) ?hi205 (by kernel_rfl) ?hf205 ?hr205 ?hQ205 (Or.inl ⟨?hw205, ?hy205⟩) (by assumption) ?rest205
              case hi205 => simp only [List.getElem?_toArray, List.getElem?_cons_succ, List.getElem?_cons_zero]; rfl
              case hf205 => kernel_rfl
              case hr205 => kernel_rfl
              case hw205 => rfl
              case hy205 => (intro w hSw; (try dsimp only at hSw); go_simp; all_goals (first | done | with_reducible rfl))
              case hQ205 => exact fun _ _ _ h => h
              simp only [Act.put, List.setIfInBounds_toArray, List.set_cons_zero, List.set_cons_succ]
              refine wpAnyH_take (i := 9) (oi := ?oi206) (v := ?v206) ?hi206 (by kernel_rfl) ?hf206 ?hr206 ?hQ206 (Or.inl ⟨?hw206, ?hy206⟩) (by assumption) ?rest206
              case hi206 => simp only [List.getElem?_toArray, List.getElem?_cons_succ, List.getElem?_cons_zero]; rfl
              case hf206 => kernel_rfl
              case hr206 => kernel_rfl
              case hw206 => rfl
              case hy206 => (intro w hSw; (try dsimp only at hSw); go_simp; all_goals (first | done | with_reducible rfl))
              case hQ206 => exact fun _ _ _ h => h
              simp only [Act.put, List.setIfInBounds_toArray, List.set_cons_zero, List.set_cons_succ]
              refine wpAnyH_take (i := 11) (oi := ?oi207) (v := ?v207) ?hi207 (by kernel_rfl) ?hf207 ?hr207 ?hQ207 (Or.inl ⟨?hw207, ?hy207⟩) (by assumption) ?rest207
              case hi207 => simp only [List.getElem?_toArray, List.getElem?_cons_succ, List.getElem?_cons_zero]; rfl
              case hf207 => kernel_rfl
              case hr207 => kernel_rfl
              case hw207 => rfl
              case hy207 => (intro w hSw; (try dsimp only at hSw); go_simp; all_goals (first | done | with_reducible rfl))
              case hQ207 => exact fun _ _ _ h => h
              simp only [Act.put, List.setIfInBounds_toArray, List.set_cons_zero, List.set_cons_succ]
              refine wpAnyH_take (i := 14) (oi := ?oi208) (v := ?v208) ?hi208 (by kernel_rfl) ?hf208 ?hr208 ?hQ208 (Or.inl ⟨?hw208, ?hy208⟩) (by assumption) ?rest208
              case hi208 => simp only [List.getElem?_toArray, List.getElem?_cons_succ, List.getElem?_cons_zero]; rfl
              case hf208 => kernel_rfl
              case hr208 => kernel_rfl
              case hw208 => rfl
              case hy208 => (intro w hSw; (try dsimp only at hSw); go_simp; all_goals (first | done | with_reducible rfl))
              case hQ208 => exact fun _ _ _ h => h
              simp only [Act.put, List.setIfInBounds_toArray, List.set_cons_zero, List.set_cons_succ]
              refine wpAnyH_take (i := 16) (oi := ?oi209) (v := ?v209) ?hi209 (by kernel_rfl) ?hf209 ?hr209 ?hQ209 (Or.inl ⟨?hw209, ?hy209⟩) (by assumption) ?rest209
              case hi209 => simp only [List.getElem?_toArray, List.getElem?_cons_succ, List.getElem?_cons_zero]; rfl
              case hf209 => kernel_rfl
              case hr209 => kernel_rfl
              case hw209 => rfl
              case hy209 => (intro w hSw; (try dsimp only at hSw); go_simp; all_goals (first | done | with_reducible rfl))
              case hQ209 => exact fun _ _ _ h => h
              simp only [Act.put, List.setIfInBounds_toArray, List.set_cons_zero, List.set_cons_succ]
              refine wpAnyH_ready (rs := [10, 12]) (by kernel_rfl) (by simp) ?_
              refine AllReadyH.cons (o := ?oi210) ?hi210 (fun K hK => ?stepA210) (AllReadyH.cons (o := ?oj210) ?hj210 (fun K hK => ?stepB210) AllReadyH.nil)
              case hi210 => simp only [List.getElem?_toArray, List.getElem?_cons_succ, List.getElem?_cons_zero]; rfl
              case hj210 => simp only [List.getElem?_toArray, List.getElem?_cons_succ, List.getElem?_cons_zero]; rfl
              all_goals rw [if_pos (by rfl)]
              all_goals go_simp
              · have hqv : Below wq.heap.size wq (we.alloc (.cells #[] 9)) := hqe.alloc hqe.size _
                have row := World.ownsRow_lit (e := 9) (size := 1) (base := wq.heap.size) we #[] 0 hqe.size (by unfold maxLen; omega) (by simp)
                refine hK.out _ _ ⟨HCq.out _ (hqv), far.out _ (fr _ (hqv))⟩ (fun hS9 => ?_)
                refine wpAnyH_ready (rs := [12]) (by kernel_rfl) (by simp) ?_
                refine AllReadyH.cons (o := ?oi211) ?hi211 (fun K hK => ?step211) AllReadyH.nil
                case hi211 => simp only [List.getElem?_toArray, List.getElem?_cons_succ, List.getElem?_cons_zero]; rfl
                rw [if_pos (by rfl)]
                go_simp
                go_at_call 31
                refine (CAf.out _ (fr _ hqv)).mono ?_
                rintro e wf ⟨yf, rsf, rfl, hsf, hrf, hb⟩
                obtain ⟨Af, nf, cf, rfl⟩ := hsf.form hrf
                have hqW : Below wq.heap.size wq wf := hqv.trans (hb.mono hqv.size)
                have row0 := own_below row hb
                clear hb row
                refine hK.out _ _ ⟨HCq.out _ (hqW), far.out _ (fr _ (hqW))⟩ (fun hS9 => ?_)
                obtain ⟨i0, hi0, hz0, hz1, hz2⟩ := info_parts Try.infoStr
                obtain ⟨v5, w5, hrun, ho5, hg5, _⟩ := run_appG (P := Try.prog) wf 35 wq.heap.size 9 i0 _ 1 16 Try.underlying35 hi0 hz0 hz1 hz2 rfl (by decide) _ 0 _ row0 wf.heap.size (allL L).length _ _ (StrsR.at_ hsf hrf HF1.out).1 (strs_one _) (by have := hl1; unfold maxLen; omega) (by have := hl1; omega) hqW.size
                obtain ⟨A5, c5, rfl, _, _⟩ := (Sl.of_own ho5).form
                have hq5 : Below wq.heap.size wq w5 := hqW.grown hg5 hqW.size (own_lt row0)
                have hsl5 := (HLl.out _ hq5)
                have HRun := hid hrun
                refine wpAnyH_ready (rs := [13]) (by kernel_rfl) (by simp) ?_
                refine AllReadyH.cons (o := ?oi212) ?hi212 (fun K hK => ?step212) AllReadyH.nil
                case hi212 => simp only [List.getElem?_toArray, List.getElem?_cons_succ, List.getElem?_cons_zero]; rfl
                rw [if_pos (by rfl)]
                refine wp_app rfl (by rfl) (by rfl) HRun.out ?_
                refine hK.out _ _ ⟨HCq.out _ (hq5), far.out _ (fr _ (hq5))⟩ (fun hS9 => ?_)
                simp only [Act.put, List.setIfInBounds_toArray, List.set_cons_zero, List.set_cons_succ]
                obtain ⟨v6, w6, hrun6, ho6, hg6, _⟩ := run_appG (P := Try.prog) w5 35 wq.heap.size 9 i0 _ 1 16 Try.underlying35 hi0 hz0 hz1 hz2 rfl (by decide) _ (0 + (allL L).length) _ ho5 w5.heap.size l.length _ _ hsl5.1 (strs_one l) (by have := hl1; have := hnl13; have := hnl.out; unfold maxLen; omega) (by have := hl1; have := hnl13; have := hnl.out; omega) hq5.size
                obtain ⟨A6, c6, rfl, _, _⟩ := (Sl.of_own ho6).form
                have hq6 : Below wq.heap.size wq w6 := hq5.grown hg6 hq5.size (own_lt ho5)
                have HRun6 := hid hrun6
                refine wpAnyH_ready (rs := [15]) (by kernel_rfl) (by simp) ?_
                refine AllReadyH.cons (o := ?oi213) ?hi213 (fun K hK => ?step213) AllReadyH.nil
                case hi213 => simp only [List.getElem?_toArray, List.getElem?_cons_succ, List.getElem?_cons_zero]; rfl
                rw [if_pos (by rfl)]
                refine wp_app rfl (by rfl) (by rfl) HRun6.out ?_
                refine hK.out _ _ ⟨HCq.out _ (hq6), far.out _ (fr _ (hq6))⟩ (fun hS9 => ?_)
                simp only [Act.put, List.setIfInBounds_toArray, List.set_cons_zero, List.set_cons_succ]
                have HO6 := hid (show StrsR [⟨9, 1, (allL L ++ l).length, .slice A6 (0 + (allL L).length + l.length) c6, (allL L ++ l).map txt⟩] (.slice A6 (0 + (allL L).length + l.length) c6) (allL L ++ l) ∧ Rows w6 wq.heap.size [⟨9, 1, (allL L ++ l).length, .slice A6 (0 + (allL L).length + l.length) c6, (allL L ++ l).map txt⟩] from ⟨rfl, Rows.one (show World.ownsRow w6 wq.heap.size 9 1 (.slice A6 (0 + (allL L).length + l.length) c6) (allL L ++ l).length ((allL L ++ l).map txt) from by have h9 := ho6; rw [List.length_append]; simpa [List.map_append] using h9)⟩)
                refine wpAnyH_ready (rs := [17]) (by kernel_rfl) (by simp) ?_
                refine AllReadyH.cons (o := ?oi214) ?hi214 (fun K hK => ?step214) AllReadyH.nil
                case hi214 => simp only [List.getElem?_toArray, List.getElem?_cons_succ, List.getElem?_cons_zero]; rfl
                rw [if_pos (by rfl)]
                go_simp
                go_at_call 31
                refine (CAx.out _ (fr _ hq6)).mono ?_
                rintro e w7 ⟨yx, rsx, rfl, hsx, hrx, hb⟩
                obtain ⟨Ax, nx, cx, rfl⟩ := hsx.form hrx
                have hq7 : Below wq.heap.size wq w7 := hq6.trans (hb.mono hq6.size)
                have CN := hid (endsWith_c (StrsR.at_ HO6.out.1 (HO6.out.2.below hb) HF12.out) (StrsR.at_ hsx hrx HF2.out) (by rw [List.length_append]; have := hl1; have := hnl13; have := hnl.out; omega) hl2)
                rw [HSuf.out] at CN
                rw [Nat.zero_add] at CN
                refine hK.out _ _ ⟨HCq.out _ (hq7), far.out _ (fr _ (hq7))⟩ (fun hS9 => ?_)
                refine wpAnyH_ready (rs := [18]) (by kernel_rfl) (by simp) ?_
                refine AllReadyH.cons (o := ?oi215) ?hi215 (fun K hK => ?step215) AllReadyH.nil
                case hi215 => simp only [List.getElem?_toArray, List.getElem?_cons_succ, List.getElem?_cons_zero]; rfl
                rw [if_pos (by rfl)]
                go_simp
                go_at_call 34
                refine CN.out.mono ?_
                rintro e w8 ⟨rfl, hb8⟩
                have hq8 : Below wq.heap.size wq w8 := hq7.trans (hb8.mono hq7.size)
                refine hK.out _ _ ⟨HCq.out _ (hq8), far.out _ (fr _ (hq8))⟩ (fun hS9 => ?_)
                refine wpAnyH_take (i := 19) (oi := ?oi216) (v := ?v216) ?hi216 (by kernel_rfl) ?hf216 ?hr216 ?hQ216 (Or.inl ⟨?hw216, ?hy216⟩) (by assumption) ?rest216
                case hi216 => simp only [List.getElem?_toArray, List.getElem?_cons_succ, List.getElem?_cons_zero]; rfl
                case hf216 => kernel_rfl
                case hr216 => kernel_rfl
                case hw216 => rfl
                case hy216 => (intro w hSw; (try dsimp only at hSw); go_simp; all_goals (first | done | with_reducible rfl))
                case hQ216 => exact fun _ _ _ h => h
                simp only [Act.put, List.setIfInBounds_toArray, List.set_cons_zero, List.set_cons_succ]
                refine wpAnyH_take (i := 20) (oi := ?oi217) (v := ?v217) ?hi217 (by kernel_rfl) ?hf217 ?hr217 ?hQ217 (Or.inl ⟨?hw217, ?hy217⟩) (by assumption) ?rest217
                case hi217 => simp only [List.getElem?_toArray, List.getElem?_cons_succ, List.getElem?_cons_zero]; rfl
                case hf217 => kernel_rfl
                case hr217 => kernel_rfl
                case hw217 => rfl
                case hy217 => (intro w hSw; (try dsimp only at hSw); go_simp; all_goals (first | done | with_reducible rfl))
                case hQ217 => exact fun _ _ _ h => h
                simp only [Act.put, List.setIfInBounds_toArray, List.set_cons_zero, List.set_cons_succ]
                refine wpAnyH_done (by kernel_rfl) ?_ _
                have HBz := hid (HBb.out.trans ((fr _ hq8).mono HBb.out.size))
                clear hS hS9
                go_wp2_with fail
                go_ret
                exact ⟨rfl, HBz.out⟩
              · go_at_call 31
                refine (CAf.out _ (fr _ hqe)).mono ?_
                rintro e wf0 ⟨yf, rsf, rfl, hsf, hrf0, hb⟩
                obtain ⟨Af, nf, cf, rfl⟩ := hsf.form hrf0
                have hqf : Below wq.heap.size wq wf0 := hqe.trans (hb.mono hqe.size)
                clear hb
                refine hK.out _ _ ⟨HCq.out _ (hqf), far.out _ (fr _ (hqf))⟩ (fun hS9 => ?_)
                refine wpAnyH_ready (rs := [10]) (by kernel_rfl) (by simp) ?_
                refine AllReadyH.cons (o := ?oi218) ?hi218 (fun K hK => ?step218) AllReadyH.nil
                case hi218 => simp only [List.getElem?_toArray, List.getElem?_cons_succ, List.getElem?_cons_zero]; rfl
                rw [if_pos (by rfl)]
                go_simp
                have hqW : Below wq.heap.size wq (wf0.alloc (.cells #[] 9)) := hqf.alloc hqf.size _
                have row0 := World.ownsRow_lit (e := 9) (size := 1) (base := wq.heap.size) wf0 #[] 0 hqf.size (by unfold maxLen; omega) (by simp)
                have hrf := hrf0.below ((Below.refl wf0.heap.size wf0).alloc (Nat.le_refl _) (.cells #[] 9))
                refine hK.out _ _ ⟨HCq.out _ (hqW), far.out _ (fr _ (hqW))⟩ (fun hS9 => ?_)
                obtain ⟨i0, hi0, hz0, hz1, hz2⟩ := info_parts Try.infoStr
                obtain ⟨v5, w5, hrun, ho5, hg5, _⟩ := run_appG (P := Try.prog) (wf0.alloc (.cells #[] 9)) 35 wq.heap.size 9 i0 _ 1 16 Try.underlying35 hi0 hz0 hz1 hz2 rfl (by decide) _ 0 _ row0 (wf0.alloc (.cells #[] 9)).heap.size (allL L).length _ _ (StrsR.at_ hsf hrf HF1.out).1 (strs_one _) (by have := hl1; unfold maxLen; omega) (by have := hl1; omega) hqW.size
                obtain ⟨A5, c5, rfl, _, _⟩ := (Sl.of_own ho5).form
                have hq5 : Below wq.heap.size wq w5 := hqW.grown hg5 hqW.size (own_lt row0)
                have hsl5 := (HLl.out _ hq5)
                have HRun := hid hrun
                refine wpAnyH_ready (rs := [13]) (by kernel_rfl) (by simp) ?_
                refine AllReadyH.cons (o := ?oi219) ?hi219 (fun K hK => ?step219) AllReadyH.nil
                case hi219 => simp only [List.getElem?_toArray, List.getElem?_cons_succ, List.getElem?_cons_zero]; rfl
                rw [if_pos (by rfl)]
                refine wp_app rfl (by rfl) (by rfl) HRun.out ?_
                refine hK.out _ _ ⟨HCq.out _ (hq5), far.out _ (fr _ (hq5))⟩ (fun hS9 => ?_)
                simp only [Act.put, List.setIfInBounds_toArray, List.set_cons_zero, List.set_cons_succ]
                obtain ⟨v6, w6, hrun6, ho6, hg6, _⟩ := run_appG (P := Try.prog) w5 35 wq.heap.size 9 i0 _ 1 16 Try.underlying35 hi0 hz0 hz1 hz2 rfl (by decide) _ (0 + (allL L).length) _ ho5 w5.heap.size l.length _ _ hsl5.1 (strs_one l) (by have := hl1; have := hnl13; have := hnl.out; unfold maxLen; omega) (by have := hl1; have := hnl13; have := hnl.out; omega) hq5.size
                obtain ⟨A6, c6, rfl, _, _⟩ := (Sl.of_own ho6).form
                have hq6 : Below wq.heap.size wq w6 := hq5.grown hg6 hq5.size (own_lt ho5)
                have HRun6 := hid hrun6
                refine wpAnyH_ready (rs := [15]) (by kernel_rfl) (by simp) ?_
                refine AllReadyH.cons (o := ?oi220) ?hi220 (fun K hK => ?step220) AllReadyH.nil
                case hi220 => simp only [List.getElem?_toArray, List.getElem?_cons_succ, List.getElem?_cons_zero]; rfl
                rw [if_pos (by rfl)]
                refine wp_app rfl (by rfl) (by rfl) HRun6.out ?_
                refine hK.out _ _ ⟨HCq.out _ (hq6), far.out _ (fr _ (hq6))⟩ (fun hS9 => ?_)
                simp only [Act.put, List.setIfInBounds_toArray, List.set_cons_zero, List.set_cons_succ]
                have HO6 := hid (show StrsR [⟨9, 1, (allL L ++ l).length, .slice A6 (0 + (allL L).length + l.length) c6, (allL L ++ l).map txt⟩] (.slice A6 (0 + (allL L).length + l.length) c6) (allL L ++ l) ∧ Rows w6 wq.heap.size [⟨9, 1, (allL L ++ l).length, .slice A6 (0 + (allL L).length + l.length) c6, (allL L ++ l).map txt⟩] from ⟨rfl, Rows.one (show World.ownsRow w6 wq.heap.size 9 1 (.slice A6 (0 + (allL L).length + l.length) c6) (allL L ++ l).length ((allL L ++ l).map txt) from by have h9 := ho6; rw [List.length_append]; simpa [List.map_append] using h9)⟩)
                refine wpAnyH_ready (rs := [17]) (by kernel_rfl) (by simp) ?_
                refine AllReadyH.cons (o := ?oi221) ?hi221 (fun K hK => ?step221) AllReadyH.nil
                case hi221 => simp only [List.getElem?_toArray, List.getElem?_cons_succ, List.getElem?_cons_zero]; rfl
                rw [if_pos (by rfl)]
                go_simp
                go_at_call 31
                refine (CAx.out _ (fr _ hq6)).mono ?_
                rintro e w7 ⟨yx, rsx, rfl, hsx, hrx, hb⟩
                obtain ⟨Ax, nx, cx, rfl⟩ := hsx.form hrx
                have hq7 : Below wq.heap.size wq w7 := hq6.trans (hb.mono hq6.size)
                have CN := hid (endsWith_c (StrsR.at_ HO6.out.1 (HO6.out.2.below hb) HF12.out) (StrsR.at_ hsx hrx HF2.out) (by rw [List.length_append]; have := hl1; have := hnl13; have := hnl.out; omega) hl2)
                rw [HSuf.out] at CN
                rw [Nat.zero_add] at CN
                refine hK.out _ _ ⟨HCq.out _ (hq7), far.out _ (fr _ (hq7))⟩ (fun hS9 => ?_)
                refine wpAnyH_ready (rs := [18]) (by kernel_rfl) (by simp) ?_
                refine AllReadyH.cons (o := ?oi222) ?hi222 (fun K hK => ?step222) AllReadyH.nil
                case hi222 => simp only [List.getElem?_toArray, List.getElem?_cons_succ, List.getElem?_cons_zero]; rfl
                rw [if_pos (by rfl)]
                go_simp
                go_at_call 34
                refine CN.out.mono ?_
                rintro e w8 ⟨rfl, hb8⟩
                have hq8 : Below wq.heap.size wq w8 := hq7.trans (hb8.mono hq7.size)
                refine hK.out _ _ ⟨HCq.out _ (hq8), far.out _ (fr _ (hq8))⟩ (fun hS9 => ?_)
                refine wpAnyH_take (i := 19) (oi := ?oi223) (v := ?v223) ?hi223 (by kernel_rfl) ?hf223 ?hr223 ?hQ223 (Or.inl ⟨?hw223, ?hy223⟩) (by assumption) ?rest223
                case hi223 => simp only [List.getElem?_toArray, List.getElem?_cons_succ, List.getElem?_cons_zero]; rfl
                case hf223 => kernel_rfl
                case hr223 => kernel_rfl
                case hw223 => rfl
                case hy223 => (intro w hSw; (try dsimp only at hSw); go_simp; all_goals (first | done | with_reducible rfl))
                case hQ223 => exact fun _ _ _ h => h
                simp only [Act.put, List.setIfInBounds_toArray, List.set_cons_zero, List.set_cons_succ]
                refine wpAnyH_take (i := 20) (oi := ?oi224) (v := ?v224) ?hi224 (by kernel_rfl) ?hf224 ?hr224 ?hQ224 (Or.inl ⟨?hw224, ?hy224⟩) (by assumption) ?rest224
                case hi224 => simp only [List.getElem?_toArray, List.getElem?_cons_succ, List.getElem?_cons_zero]; rfl
                case hf224 => kernel_rfl
                case hr224 => kernel_rfl
                case hw224 => rfl
                case hy224 => (intro w hSw; (try dsimp only at hSw); go_simp; all_goals (first | done | with_reducible rfl))
                case hQ224 => exact fun _ _ _ h => h
                simp only [Act.put, List.setIfInBounds_toArray, List.set_cons_zero, List.set_cons_succ]
                refine wpAnyH_done (by kernel_rfl) ?_ _
                have HBz := hid (HBb.out.trans ((fr _ hq8).mono HBb.out.size))
                clear hS hS9
                go_wp2_with fail
                go_ret
                exact ⟨rfl, HBz.out⟩
        · have hzz : True := trivial
          obtain ⟨M, hM1, hM2⟩ := lines_split 0 HEq.out
          have hMok := (linesX_ok hM1).2.2.2
          obtain ⟨mm, mk, ml⟩ := M
          have HSrc := hid (fun (W : World) (hW : Below wz.heap.size wz W) => FilR.at_ HS.out (HRb.out.right.right.right.left.below (hqz.out.trans (hW.mono hqz.out.size))) HF.out)
          have CW := hid (fun (W : World) (v v2 : Value) (h : FilIn W W.heap.size v ⟨mo, ke, L⟩) (h2 : StrsIn W W.heap.size v2 (l.take 0)) => (show Calls Try.prog 24 #[v, v2] W (FilPostO W ⟨mm, mk, ml⟩ true) from by have h9 := implWriteLines_c h h2 (Nat.le_refl _); rw [hM1] at h9; exact h9))
          have CW2 := hid (fun (W : World) (v v2 : Value) (h : FilIn W W.heap.size v ⟨mm, mk, ml⟩) (h2 : StrsIn W W.heap.size v2 (l.drop 0)) => (show Calls Try.prog 24 #[v, v2] W (FilPostO W ⟨mo, ke, xl⟩ true) from by have h9 := implWriteLines_c h h2 (Nat.le_refl _); rw [hM2] at h9; exact h9))
          have HLl := hid (fun (W : World) (hW : Below wz.heap.size wz W) => StrsR.at_ HSl.out (HRb.out.right.right.right.right.below (hqz.out.trans (hW.mono hqz.out.size))) HFl.out)
          have HCl := hid (fun (W : World) (hW : Below wz.heap.size wz W) => (far.out W (hqz.out.trans (hW.mono hqz.out.size))).2.2.2)
          have HMf := hid (fil_fit hMok)
          clear hM1 hM2 hMok o0 o1 o2 f0 f1 f2
          go_wp2_with fail
          go_cut [10, 11] from 14 (fun s10 s11 wc => ∃ (bm : Nat) (Am : Option Addr) (nm cm : Nat) (rsm : List Row), s10 = .pointer (some ⟨bm, 0, none⟩) ∧ s11 = .bool true ∧ Hid (FilR rsm (.agg #[.int .i64 mm, .int .i64 mk, .slice Am nm cm]) ⟨mm, mk, ml⟩) ∧ Hid (Rows wc wz.heap.size ([bxRow 26 3 bm [.int .i64 mm, .int .i64 mk, .slice Am nm cm]] ++ rsm)) ∧ Hid (Below wz.heap.size wz wc))
          case first =>
            have hq9 : Below wz.heap.size wz wz := Below.refl _ _
            have c0 := (HCl.out _ hq9).1
            have c1 := (HCl.out _ hq9).2.1
            have c2 := (HCl.out _ hq9).2.2
            refine wp_region_held_drew (S := (fun w' : World => w'.cell? ⟨w1.heap.size, 0, none⟩ = some (.int .i64 mo) ∧ w'.cell? ⟨w1.heap.size, 1, none⟩ = some (.int .i64 ke) ∧ w'.cell? ⟨w1.heap.size, 2, none⟩ = some (.slice A n c))) (by kernel_rfl) ⟨c0, c1, c2⟩ (fun hS => ?_)
            have hq0 : Below wz.heap.size wz wz.drew := hq9.drew
            clear c0 c1 c2
            have c0 := (HCl.out _ hq0).1
            have c1 := (HCl.out _ hq0).2.1
            have c2 := (HCl.out _ hq0).2.2
            refine wpAnyH_take (i := 0) (oi := ?oi225) (v := ?v225) ?hi225 (by kernel_rfl) ?hf225 ?hr225 ?hQ225 (Or.inl ⟨?hw225, ?hy225⟩) (by assumption) ?rest225
            case hi225 => simp only [List.getElem?_toArray, List.getElem?_cons_succ, List.getElem?_cons_zero]; rfl
            case hf225 => kernel_rfl
            case hr225 => kernel_rfl
            case hw225 => rfl
            case hy225 => (intro w hSw; (try dsimp only at hSw); go_simp; all_goals (first | done | with_reducible rfl))
            case hQ225 => exact fun _ _ _ h => h
            simp only [Act.put, List.setIfInBounds_toArray, List.set_cons_zero, List.set_cons_succ]
            refine wpAnyH_take (i := 1) (oi := ?oi226) (v := ?v226) ?hi226 (by kernel_rfl) ?hf226 ?hr226 ?hQ226 (Or.inl ⟨?hw226, ?hy226⟩) (by assumption) ?rest226
            case hi226 => simp only [List.getElem?_toArray, List.getElem?_cons_succ, List.getElem?_cons_zero]; rfl
            case hf226 => kernel_rfl
            case hr226 => kernel_rfl
            case hw226 => rfl
            case hy226 => (intro w hSw; (try dsimp only at hSw); go_simp; all_goals (first | done | with_reducible rfl))
            case hQ226 => exact fun _ _ _ h => h
            simp only [Act.put, List.setIfInBounds_toArray, List.set_cons_zero, List.set_cons_succ]
            refine wpAnyH_take (i := 2) (oi := ?oi227) (v := ?v227) ?hi227 (by kernel_rfl) ?hf227 ?hr227 ?hQ227 (Or.inl ⟨?hw227, ?hy227⟩) (by assumption) ?rest227
            case hi227 => simp only [List.getElem?_toArray, List.getElem?_cons_succ, List.getElem?_cons_zero]; rfl
            case hf227 => kernel_rfl
            case hr227 => kernel_rfl
            case hw227 => rfl
            case hy227 => (intro w hSw; (try dsimp only at hSw); go_simp; all_goals (first | done | with_reducible rfl))
            case hQ227 => exact fun _ _ _ h => h
            simp only [Act.put, List.setIfInBounds_toArray, List.set_cons_zero, List.set_cons_succ]
            refine wpAnyH_take (i := 3) (oi := ?oi228) (v := ?v228) ?hi228 (by kernel_rfl) ?hf228 ?hr228 ?hQ228 (Or.inl ⟨?hw228, ?hy228⟩) (by assumption) ?rest228
            case hi228 => simp only [List.getElem?_toArray, List.getElem?_cons_succ, List.getElem?_cons_zero]; rfl
            case hf228 => kernel_rfl
            case hr228 => kernel_rfl
            case hw228 => rfl
            case hy228 => (intro w hSw; (try dsimp only at hSw); go_simp; all_goals (first | done | with_reducible rfl))
            case hQ228 => exact fun _ _ _ h => h
            simp only [Act.put, List.setIfInBounds_toArray, List.set_cons_zero, List.set_cons_succ]
            clear hq9
            generalize wz.drew = wx at *
            refine wpAnyH_ready (rs := [4, 8]) (by kernel_rfl) (by simp) ?_
            refine AllReadyH.cons (o := ?oi229) ?hi229 (fun K hK => ?stepA229) (AllReadyH.cons (o := ?oj229) ?hj229 (fun K hK => ?stepB229) AllReadyH.nil)
            case hi229 => simp only [List.getElem?_toArray, List.getElem?_cons_succ, List.getElem?_cons_zero]; rfl
            case hj229 => simp only [List.getElem?_toArray, List.getElem?_cons_succ, List.getElem?_cons_zero]; rfl
            all_goals rw [if_pos (by rfl)]
            all_goals go_simp
            · go_at_call 24
              refine (CW.out _ _ _ (HSrc.out _ hq0) (HL.out _ hq0)).mono ?_
              rintro e wa ⟨um, rsm, rfl, hsm, hrm, hb⟩
              obtain ⟨Am, nm, cm, rfl⟩ := hsm.form hrm
              have hqa : Below wz.heap.size wz wa := hq0.trans (hb.mono hq0.size)
              clear c0 c1 c2
              have c0 := (HCl.out _ hqa).1
              have c1 := (HCl.out _ hqa).2.1
              have c2 := (HCl.out _ hqa).2.2
              refine hK.out _ _ ⟨c0, c1, c2⟩ (fun hS9 => ?_)
              refine wpAnyH_take (i := 5) (oi := ?oi230) (v := ?v230) ?hi230 (by kernel_rfl) ?hf230 ?hr230 ?hQ230 (Or.inl ⟨?hw230, ?hy230⟩) (by assumption) ?rest230
              case hi230 => simp only [List.getElem?_toArray, List.getElem?_cons_succ, List.getElem?_cons_zero]; rfl
              case hf230 => kernel_rfl
              case hr230 => kernel_rfl
              case hw230 => rfl
              case hy230 => (intro w hSw; (try dsimp only at hSw); go_simp; all_goals (first | done | with_reducible rfl))
              case hQ230 => exact fun _ _ _ h => h
              simp only [Act.put, List.setIfInBounds_toArray, List.set_cons_zero, List.set_cons_succ]
              refine wpAnyH_take (i := 6) (oi := ?oi231) (v := ?v231) ?hi231 (by kernel_rfl) ?hf231 ?hr231 ?hQ231 (Or.inl ⟨?hw231, ?hy231⟩) (by assumption) ?rest231
              case hi231 => simp only [List.getElem?_toArray, List.getElem?_cons_succ, List.getElem?_cons_zero]; rfl
              case hf231 => kernel_rfl
              case hr231 => kernel_rfl
              case hw231 => rfl
              case hy231 => (intro w hSw; (try dsimp only at hSw); go_simp; all_goals (first | done | with_reducible rfl))
              case hQ231 => exact fun _ _ _ h => h
              simp only [Act.put, List.setIfInBounds_toArray, List.set_cons_zero, List.set_cons_succ]
              refine wpAnyH_take (i := 7) (oi := ?oi232) (v := ?v232) ?hi232 (by kernel_rfl) ?hf232 ?hr232 ?hQ232 (Or.inl ⟨?hw232, ?hy232⟩) (by assumption) ?rest232
              case hi232 => simp only [List.getElem?_toArray, List.getElem?_cons_succ, List.getElem?_cons_zero]; rfl
              case hf232 => kernel_rfl
              case hr232 => kernel_rfl
              case hw232 => rfl
              case hy232 => (intro w hSw; (try dsimp only at hSw); go_simp; all_goals (first | done | with_reducible rfl))
              case hQ232 => exact fun _ _ _ h => h
              simp only [Act.put, List.setIfInBounds_toArray, List.set_cons_zero, List.set_cons_succ]
              refine wpAnyH_ready (rs := [8]) (by kernel_rfl) (by simp) ?_
              refine AllReadyH.cons (o := ?oi233) ?hi233 (fun K hK => ?step233) AllReadyH.nil
              case hi233 => simp only [List.getElem?_toArray, List.getElem?_cons_succ, List.getElem?_cons_zero]; rfl
              rw [if_pos (by rfl)]
              go_simp
              have hqn : Below wz.heap.size wz (wa.alloc (.cells #[.int .i64 0, .int .i64 0, .slice none 0 0] 26)) := hqa.alloc hqa.size _
              have hbne : wa.heap.size ≠ w1.heap.size := Nat.ne_of_gt (World.block_lt_of_cell? wa _ c0)
              have hbnl : wz.heap.size ≤ wa.heap.size := hqa.size
              have HRn := (hrm.base hq0.size).bx hqa.size #[.int .i64 0, .int .i64 0, .slice none 0 0] 26 3 rfl
              clear c0 c1 c2 hb
              have c0 := (HCl.out _ hqn).1
              have c1 := (HCl.out _ hqn).2.1
              have c2 := (HCl.out _ hqn).2.2
              refine hK.out _ _ ⟨c0, c1, c2⟩ (fun hS9 => ?_)
              generalize wa.alloc (.cells #[.int .i64 0, .int .i64 0, .slice none 0 0] 26) = wn at *
              generalize wa.heap.size = bn at *
              obtain ⟨z0, y0, _⟩ := Rows.bcell2 (pre := []) (q := 0) HRn rfl
              obtain ⟨z1, y1, _⟩ := Rows.bcell2 (pre := []) (q := 1) HRn rfl
              obtain ⟨z2, y2, _⟩ := Rows.bcell2 (pre := []) (q := 2) HRn rfl
              refine wpAnyH_ready (rs := [9]) (by kernel_rfl) (by simp) ?_
              refine AllReadyH.cons (o := ?oi234) ?hi234 (fun K hK => ?step234) AllReadyH.nil
              case hi234 => simp only [List.getElem?_toArray, List.getElem?_cons_succ, List.getElem?_cons_zero]; rfl
              rw [if_pos (by rfl)]
              go_simp
              have far9 : ∀ (W : World) (q q' : Nat) (u u' : Value), W.cell? ⟨w1.heap.size, q, none⟩ = some u → (W.setCell ⟨bn, q', none⟩ u').cell? ⟨w1.heap.size, q, none⟩ = some u := fun W q q' u u' h => (World.cell?_setCell_far _ _ _ _ hbne).trans h
              refine hK.out _ _ ⟨far9 _ _ _ _ _ (far9 _ _ _ _ _ (far9 _ _ _ _ _ c0)), far9 _ _ _ _ _ (far9 _ _ _ _ _ (far9 _ _ _ _ _ c1)), far9 _ _ _ _ _ (far9 _ _ _ _ _ (far9 _ _ _ _ _ c2))⟩ (fun hS9 => ?_)
              refine wpAnyH_take (i := 10) (oi := ?oi235) (v := ?v235) ?hi235 (by kernel_rfl) ?hf235 ?hr235 ?hQ235 (Or.inl ⟨?hw235, ?hy235⟩) (by assumption) ?rest235
              case hi235 => simp only [List.getElem?_toArray, List.getElem?_cons_succ, List.getElem?_cons_zero]; rfl
              case hf235 => kernel_rfl
              case hr235 => kernel_rfl
              case hw235 => rfl
              case hy235 => (intro w hSw; (try dsimp only at hSw); go_simp; all_goals (first | done | with_reducible rfl))
              case hQ235 => exact fun _ _ _ h => h
              simp only [Act.put, List.setIfInBounds_toArray, List.set_cons_zero, List.set_cons_succ]
              refine wpAnyH_done (by kernel_rfl) ?_ _
              have Y0 := Rows.boxset (pre := []) (j := 0) (u := .int .i64 mm) HRn
              have Y1 := Rows.boxset (pre := []) (j := 1) (u := .int .i64 mk) Y0
              have Y2 := hid (Rows.boxset (pre := []) (j := 2) (u := .slice Am nm cm) Y1)
              have HBn := hid (((hqn.setCell (p := ⟨bn, 0, none⟩) hbnl (.int .i64 mm)).setCell (p := ⟨bn, 1, none⟩) hbnl (.int .i64 mk)).setCell (p := ⟨bn, 2, none⟩) hbnl (.slice Am nm cm))
              have HSM9 := hid hsm
              clear hS hS9 far9 Y0 Y1 z0 z1 z2 y0 y1 y2 c0 c1 c2 HRn hsm hrm
              go_wp2_with fail
              go_meet
              case rel => exact ⟨bn, Am, nm, cm, rsm, rfl, rfl, HSM9.out, Y2.out, HBn.out⟩
            · have hqn : Below wz.heap.size wz (wx.alloc (.cells #[.int .i64 0, .int .i64 0, .slice none 0 0] 26)) := hq0.alloc hq0.size _
              have hbne : wx.heap.size ≠ w1.heap.size := Nat.ne_of_gt (World.block_lt_of_cell? wx _ c0)
              have hbnl : wz.heap.size ≤ wx.heap.size := hq0.size
              have HR0 := (Rows.box wx #[.int .i64 0, .int .i64 0, .slice none 0 0] 26 3 rfl).base hq0.size
              clear c0 c1 c2
              have c0 := (HCl.out _ hqn).1
              have c1 := (HCl.out _ hqn).2.1
              have c2 := (HCl.out _ hqn).2.2
              refine hK.out _ _ ⟨c0, c1, c2⟩ (fun hS9 => ?_)
              refine wpAnyH_ready (rs := [4]) (by kernel_rfl) (by simp) ?_
              refine AllReadyH.cons (o := ?oi236) ?hi236 (fun K hK => ?step236) AllReadyH.nil
              case hi236 => simp only [List.getElem?_toArray, List.getElem?_cons_succ, List.getElem?_cons_zero]; rfl
              rw [if_pos (by rfl)]
              go_simp
              generalize wx.alloc (.cells #[.int .i64 0, .int .i64 0, .slice none 0 0] 26) = wn at *
              generalize wx.heap.size = bn at *
              go_at_call 24
              refine (CW.out _ _ _ (HSrc.out _ hqn) (HL.out _ hqn)).mono ?_
              rintro e wa ⟨um, rsm, rfl, hsm, hrm, hb⟩
              obtain ⟨Am, nm, cm, rfl⟩ := hsm.form hrm
              have hqa : Below wz.heap.size wz wa := hqn.trans (hb.mono hqn.size)
              have HRn := (HR0.newer hb hrm hqn.size).perm List.perm_append_comm
              clear hb c0 c1 c2 HR0
              have c0 := (HCl.out _ hqa).1
              have c1 := (HCl.out _ hqa).2.1
              have c2 := (HCl.out _ hqa).2.2
              refine hK.out _ _ ⟨c0, c1, c2⟩ (fun hS9 => ?_)
              refine wpAnyH_take (i := 5) (oi := ?oi237) (v := ?v237) ?hi237 (by kernel_rfl) ?hf237 ?hr237 ?hQ237 (Or.inl ⟨?hw237, ?hy237⟩) (by assumption) ?rest237
              case hi237 => simp only [List.getElem?_toArray, List.getElem?_cons_succ, List.getElem?_cons_zero]; rfl
              case hf237 => kernel_rfl
              case hr237 => kernel_rfl
              case hw237 => rfl
              case hy237 => (intro w hSw; (try dsimp only at hSw); go_simp; all_goals (first | done | with_reducible rfl))
              case hQ237 => exact fun _ _ _ h => h
              simp only [Act.put, List.setIfInBounds_toArray, List.set_cons_zero, List.set_cons_succ]
              refine wpAnyH_take (i := 6) (oi := ?oi238) (v := ?v238) ?hi238 (by kernel_rfl) ?hf238 ?hr238 ?hQ238 (Or.inl ⟨?hw238, ?hy238⟩) (by assumption) ?rest238
              case hi238 => simp only [List.getElem?_toArray, List.getElem?_cons_succ, List.getElem?_cons_zero]; rfl
              case hf238 => kernel_rfl
              case hr238 => kernel_rfl
              case hw238 => rfl
              case hy238 => (intro w hSw; (try dsimp only at hSw); go_simp; all_goals (first | done | with_reducible rfl))
              case hQ238 => exact fun _ _ _ h => h
              simp only [Act.put, List.setIfInBounds_toArray, List.set_cons_zero, List.set_cons_succ]
              refine wpAnyH_take (i := 7) (oi := ?oi239) (v := ?v239) ?hi239 (by kernel_rfl) ?hf239 ?hr239 ?hQ239 (Or.inl ⟨?hw239, ?hy239⟩) (by assumption) ?rest239
              case hi239 => simp only [List.getElem?_toArray, List.getElem?_cons_succ, List.getElem?_cons_zero]; rfl
              case hf239 => kernel_rfl
              case hr239 => kernel_rfl
              case hw239 => rfl
              case hy239 => (intro w hSw; (try dsimp only at hSw); go_simp; all_goals (first | done | with_reducible rfl))
              case hQ239 => exact fun _ _ _ h => h
              simp only [Act.put, List.setIfInBounds_toArray, List.set_cons_zero, List.set_cons_succ]
              obtain ⟨z0, y0, _⟩ := Rows.bcell2 (pre := []) (q := 0) HRn rfl
              obtain ⟨z1, y1, _⟩ := Rows.bcell2 (pre := []) (q := 1) HRn rfl
              obtain ⟨z2, y2, _⟩ := Rows.bcell2 (pre := []) (q := 2) HRn rfl
              refine wpAnyH_ready (rs := [9]) (by kernel_rfl) (by simp) ?_
              refine AllReadyH.cons (o := ?oi240) ?hi240 (fun K hK => ?step240) AllReadyH.nil
              case hi240 => simp only [List.getElem?_toArray, List.getElem?_cons_succ, List.getElem?_cons_zero]; rfl
              rw [if_pos (by rfl)]
              go_simp
              have far9 : ∀ (W : World) (q q' : Nat) (u u' : Value), W.cell? ⟨w1.heap.size, q, none⟩ = some u → (W.setCell ⟨bn, q', none⟩ u').cell? ⟨w1.heap.size, q, none⟩ = some u := fun W q q' u u' h => (World.cell?_setCell_far _ _ _ _ hbne).trans h
              refine hK.out _ _ ⟨far9 _ _ _ _ _ (far9 _ _ _ _ _ (far9 _ _ _ _ _ c0)), far9 _ _ _ _ _ (far9 _ _ _ _ _ (far9 _ _ _ _ _ c1)), far9 _ _ _ _ _ (far9 _ _ _ _ _ (far9 _ _ _ _ _ c2))⟩ (fun hS9 => ?_)
              refine wpAnyH_take (i := 10) (oi := ?oi241) (v := ?v241) ?hi241 (by kernel_rfl) ?hf241 ?hr241 ?hQ241 (Or.inl ⟨?hw241, ?hy241⟩) (by assumption) ?rest241
              case hi241 => simp only [List.getElem?_toArray, List.getElem?_cons_succ, List.getElem?_cons_zero]; rfl
              case hf241 => kernel_rfl
              case hr241 => kernel_rfl
              case hw241 => rfl
              case hy241 => (intro w hSw; (try dsimp only at hSw); go_simp; all_goals (first | done | with_reducible rfl))
              case hQ241 => exact fun _ _ _ h => h
              simp only [Act.put, List.setIfInBounds_toArray, List.set_cons_zero, List.set_cons_succ]
              refine wpAnyH_done (by kernel_rfl) ?_ _
              have Y0 := Rows.boxset (pre := []) (j := 0) (u := .int .i64 mm) HRn
              have Y1 := Rows.boxset (pre := []) (j := 1) (u := .int .i64 mk) Y0
              have Y2 := hid (Rows.boxset (pre := []) (j := 2) (u := .slice Am nm cm) Y1)
              have HBn := hid (((hqa.setCell (p := ⟨bn, 0, none⟩) hbnl (.int .i64 mm)).setCell (p := ⟨bn, 1, none⟩) hbnl (.int .i64 mk)).setCell (p := ⟨bn, 2, none⟩) hbnl (.slice Am nm cm))
              have HSM9 := hid hsm
              clear hS hS9 far9 Y0 Y1 z0 z1 z2 y0 y1 y2 c0 c1 c2 HRn hsm hrm
              go_wp2_with fail
              go_meet
              case rel => exact ⟨bn, Am, nm, cm, rsm, rfl, rfl, HSM9.out, Y2.out, HBn.out⟩
          case rest =>
            obtain ⟨bm, Am, nm, cm, rsm, rfl, rfl, HSm, HRm, HBm⟩ := hcut
            rename World => wm
            clear HSrc CW HCl HL
            have HSrc := hid (fun (W : World) (hW : Below wm.heap.size wm W) => FilR.at_ HSm.out (HRm.out.right.below hW) HMf.out)
            have HCl := hid (fun (W : World) (hW : Below wm.heap.size wm W) => And.intro ((hW.cell (p := ⟨bm, 0, none⟩) (Rows.bc HRm.out.left 0 rfl).2).trans (Rows.bc HRm.out.left 0 rfl).1) (And.intro ((hW.cell (p := ⟨bm, 1, none⟩) (Rows.bc HRm.out.left 1 rfl).2).trans (Rows.bc HRm.out.left 1 rfl).1) ((hW.cell (p := ⟨bm, 2, none⟩) (Rows.bc HRm.out.left 2 rfl).2).trans (Rows.bc HRm.out.left 2 rfl).1)))
            have HL := hid (fun (W : World) (hW : Below wm.heap.size wm W) => HL2.out W (HBm.out.trans (hW.mono HBm.out.size)))
            have HLm := hid (fun (W : World) (hW : Below wm.heap.size wm W) => HLl.out W (HBm.out.trans (hW.mono HBm.out.size)))
            have hqm := hid (hqz.out.trans (HBm.out.mono hqz.out.size))
            have CW := hid CW2.out
            clear HL2 CW2 HLl hqz HBm
            go_wp2_with fail
            go_cut [12, 13] from 14 (fun s12 s13 wc => ∃ (bm : Nat) (Am : Option Addr) (nm cm : Nat) (rsm : List Row), s12 = .pointer (some ⟨bm, 0, none⟩) ∧ s13 = .bool true ∧ Hid (FilR rsm (.agg #[.int .i64 mo, .int .i64 ke, .slice Am nm cm]) ⟨mo, ke, xl⟩) ∧ Hid (Rows wc wm.heap.size ([bxRow 26 3 bm [.int .i64 mo, .int .i64 ke, .slice Am nm cm]] ++ rsm)) ∧ Hid (Below wm.heap.size wm wc))
            case first =>
              have hq9 : Below wm.heap.size wm wm := Below.refl _ _
              have c0 := (HCl.out _ hq9).1
              have c1 := (HCl.out _ hq9).2.1
              have c2 := (HCl.out _ hq9).2.2
              refine wp_region_held_drew (S := (fun w' : World => w'.cell? ⟨bm, 0, none⟩ = some (.int .i64 mm) ∧ w'.cell? ⟨bm, 1, none⟩ = some (.int .i64 mk) ∧ w'.cell? ⟨bm, 2, none⟩ = some (.slice Am nm cm))) (by kernel_rfl) ⟨c0, c1, c2⟩ (fun hS => ?_)
              have hq0 : Below wm.heap.size wm wm.drew := hq9.drew
              clear c0 c1 c2
              have c0 := (HCl.out _ hq0).1
              have c1 := (HCl.out _ hq0).2.1
              have c2 := (HCl.out _ hq0).2.2
              refine wpAnyH_take (i := 0) (oi := ?oi242) (v := ?v242) ?hi242 (by kernel_rfl) ?hf242 ?hr242 ?hQ242 (Or.inl ⟨?hw242, ?hy242⟩) (by assumption) ?rest242
              case hi242 => simp only [List.getElem?_toArray, List.getElem?_cons_succ, List.getElem?_cons_zero]; rfl
              case hf242 => kernel_rfl
              case hr242 => kernel_rfl
              case hw242 => rfl
              case hy242 => (intro w hSw; (try dsimp only at hSw); go_simp; all_goals (first | done | with_reducible rfl))
              case hQ242 => exact fun _ _ _ h => h
              simp only [Act.put, List.setIfInBounds_toArray, List.set_cons_zero, List.set_cons_succ]
              refine wpAnyH_take (i := 1) (oi := ?oi243) (v := ?v243) ?hi243 (by kernel_rfl) ?hf243 ?hr243 ?hQ243 (Or.inl ⟨?hw243, ?hy243⟩) (by assumption) ?rest243
              case hi243 => simp only [List.getElem?_toArray, List.getElem?_cons_succ, List.getElem?_cons_zero]; rfl
              case hf243 => kernel_rfl
              case hr243 => kernel_rfl
              case hw243 => rfl
              case hy243 => (intro w hSw; (try dsimp only at hSw); go_simp; all_goals (first | done | with_reducible rfl))
              case hQ243 => exact fun _ _ _ h => h
              simp only [Act.put, List.setIfInBounds_toArray, List.set_cons_zero, List.set_cons_succ]
              refine wpAnyH_take (i := 2) (oi := ?oi244) (v := ?v244) ?hi244 (by kernel_rfl) ?hf244 ?hr244 ?hQ244 (Or.inl ⟨?hw244, ?hy244⟩) (by assumption) ?rest244
              case hi244 => simp only [List.getElem?_toArray, List.getElem?_cons_succ, List.getElem?_cons_zero]; rfl
              case hf244 => kernel_rfl
              case hr244 => kernel_rfl
              case hw244 => rfl
              case hy244 => (intro w hSw; (try dsimp only at hSw); go_simp; all_goals (first | done | with_reducible rfl))
              case hQ244 => exact fun _ _ _ h => h
              simp only [Act.put, List.setIfInBounds_toArray, List.set_cons_zero, List.set_cons_succ]
              refine wpAnyH_take (i := 3) (oi := ?oi245) (v := ?v245) ?hi245 (by kernel_rfl) ?hf245 ?hr245 ?hQ245 (Or.inl ⟨?hw245, ?hy245⟩) (by assumption) ?rest245
              case hi245 => simp only [List.getElem?_toArray, List.getElem?_cons_succ, List.getElem?_cons_zero]; rfl
              case hf245 => kernel_rfl
              case hr245 => kernel_rfl
              case hw245 => rfl
              case hy245 => (intro w hSw; (try dsimp only at hSw); go_simp; all_goals (first | done | with_reducible rfl))
              case hQ245 => exact fun _ _ _ h => h
              simp only [Act.put, List.setIfInBounds_toArray, List.set_cons_zero, List.set_cons_succ]
              clear hq9
              generalize wm.drew = wx at *
              refine wpAnyH_ready (rs := [4, 8]) (by kernel_rfl) (by simp) ?_
              refine AllReadyH.cons (o := ?oi246) ?hi246 (fun K hK => ?stepA246) (AllReadyH.cons (o := ?oj246) ?hj246 (fun K hK => ?stepB246) AllReadyH.nil)
              case hi246 => simp only [List.getElem?_toArray, List.getElem?_cons_succ, List.getElem?_cons_zero]; rfl
              case hj246 => simp only [List.getElem?_toArray, List.getElem?_cons_succ, List.getElem?_cons_zero]; rfl
              all_goals rw [if_pos (by rfl)]
              all_goals go_simp
              · go_at_call 24
                refine (CW.out _ _ _ (HSrc.out _ hq0) (HL.out _ hq0)).mono ?_
                rintro e wa ⟨um, rsm, rfl, hsm, hrm, hb⟩
                obtain ⟨Am, nm, cm, rfl⟩ := hsm.form hrm
                have hqa : Below wm.heap.size wm wa := hq0.trans (hb.mono hq0.size)
                clear c0 c1 c2
                have c0 := (HCl.out _ hqa).1
                have c1 := (HCl.out _ hqa).2.1
                have c2 := (HCl.out _ hqa).2.2
                refine hK.out _ _ ⟨c0, c1, c2⟩ (fun hS9 => ?_)
                refine wpAnyH_take (i := 5) (oi := ?oi247) (v := ?v247) ?hi247 (by kernel_rfl) ?hf247 ?hr247 ?hQ247 (Or.inl ⟨?hw247, ?hy247⟩) (by assumption) ?rest247
                case hi247 => simp only [List.getElem?_toArray, List.getElem?_cons_succ, List.getElem?_cons_zero]; rfl
                case hf247 => kernel_rfl
                case hr247 => kernel_rfl
                case hw247 => rfl
                case hy247 => (intro w hSw; (try dsimp only at hSw); go_simp; all_goals (first | done | with_reducible rfl))
                case hQ247 => exact fun _ _ _ h => h
                simp only [Act.put, List.setIfInBounds_toArray, List.set_cons_zero, List.set_cons_succ]
                refine wpAnyH_take (i := 6) (oi := ?oi248) (v := ?v248) ?hi248 (by kernel_rfl) ?hf248 ?hr248 ?hQ248 (Or.inl ⟨?hw248, ?hy248⟩) (by assumption) ?rest248
                case hi248 => simp only [List.getElem?_toArray, List.getElem?_cons_succ, List.getElem?_cons_zero]; rfl
                case hf248 => kernel_rfl
                case hr248 => kernel_rfl
                case hw248 => rfl
                case hy248 => (intro w hSw; (try dsimp only at hSw); go_simp; all_goals (first | done | with_reducible rfl))
                case hQ248 => exact fun _ _ _ h => h
                simp only [Act.put, List.setIfInBounds_toArray, List.set_cons_zero, List.set_cons_succ]
                refine wpAnyH_take (i := 7) (oi := ?oi249) (v := ?v249) ?hi249 (by kernel_rfl) ?hf249 ?hr249 ?hQ249 (Or.inl ⟨?hw249, ?hy249⟩) (by assumption) ?rest249
                case hi249 => simp only [List.getElem?_toArray, List.getElem?_cons_succ, List.getElem?_cons_zero]; rfl
                case hf249 => kernel_rfl
                case hr249 => kernel_rfl
                case hw249 => rfl
                case hy249 => (intro w hSw; (try dsimp only at hSw); go_simp; all_goals (first | done | with_reducible rfl))
                case hQ249 => exact fun _ _ _ h => h
                simp only [Act.put, List.setIfInBounds_toArray, List.set_cons_zero, List.set_cons_succ]
                refine wpAnyH_ready (rs := [8]) (by kernel_rfl) (by simp) ?_
                refine AllReadyH.cons (o := ?oi250) ?hi250 (fun K hK => ?step250) AllReadyH.nil
                case hi250 => simp only [List.getElem?_toArray, List.getElem?_cons_succ, List.getElem?_cons_zero]; rfl
                rw [if_pos (by rfl)]
                go_simp
                have hqn : Below wm.heap.size wm (wa.alloc (.cells #[.int .i64 0, .int .i64 0, .slice none 0 0] 26)) := hqa.alloc hqa.size _
                have hbne : wa.heap.size ≠ bm := Nat.ne_of_gt (World.block_lt_of_cell? wa _ c0)
                have hbnl : wm.heap.size ≤ wa.heap.size := hqa.size
                have HRn := (hrm.base hq0.size).bx hqa.size #[.int .i64 0, .int .i64 0, .slice none 0 0] 26 3 rfl
                clear c0 c1 c2 hb
                have c0 := (HCl.out _ hqn).1
                have c1 := (HCl.out _ hqn).2.1
                have c2 := (HCl.out _ hqn).2.2
                refine hK.out _ _ ⟨c0, c1, c2⟩ (fun hS9 => ?_)
                generalize wa.alloc (.cells #[.int .i64 0, .int .i64 0, .slice none 0 0] 26) = wn at *
                generalize wa.heap.size = bn at *
                obtain ⟨z0, y0, _⟩ := Rows.bcell2 (pre := []) (q := 0) HRn rfl
                obtain ⟨z1, y1, _⟩ := Rows.bcell2 (pre := []) (q := 1) HRn rfl
                obtain ⟨z2, y2, _⟩ := Rows.bcell2 (pre := []) (q := 2) HRn rfl
                refine wpAnyH_ready (rs := [9]) (by kernel_rfl) (by simp) ?_
                refine AllReadyH.cons (o := ?oi251) ?hi251 (fun K hK => ?step251) AllReadyH.nil
                case hi251 => simp only [List.getElem?_toArray, List.getElem?_cons_succ, List.getElem?_cons_zero]; rfl
                rw [if_pos (by rfl)]
                go_simp
                have far9 : ∀ (W : World) (q q' : Nat) (u u' : Value), W.cell? ⟨bm, q, none⟩ = some u → (W.setCell ⟨bn, q', none⟩ u').cell? ⟨bm, q, none⟩ = some u := fun W q q' u u' h => (World.cell?_setCell_far _ _ _ _ hbne).trans h
                refine hK.out _ _ ⟨far9 _ _ _ _ _ (far9 _ _ _ _ _ (far9 _ _ _ _ _ c0)), far9 _ _ _ _ _ (far9 _ _ _ _ _ (far9 _ _ _ _ _ c1)), far9 _ _ _ _ _ (far9 _ _ _ _ _ (far9 _ _ _ _ _ c2))⟩ (fun hS9 => ?_)
                refine wpAnyH_take (i := 10) (oi := ?oi252) (v := ?v252) ?hi252 (by kernel_rfl) ?hf252 ?hr252 ?hQ252 (Or.inl ⟨?hw252, ?hy252⟩) (by assumption) ?rest252
                case hi252 => simp only [List.getElem?_toArray, List.getElem?_cons_succ, List.getElem?_cons_zero]; rfl
                case hf252 => kernel_rfl
                case hr252 => kernel_rfl
                case hw252 => rfl
                case hy252 => (intro w hSw; (try dsimp only at hSw); go_simp; all_goals (first | done | with_reducible rfl))
                case hQ252 => exact fun _ _ _ h => h
                simp only [Act.put, List.setIfInBounds_toArray, List.set_cons_zero, List.set_cons_succ]
                refine wpAnyH_done (by kernel_rfl) ?_ _
                have Y0 := Rows.boxset (pre := []) (j := 0) (u := .int .i64 mo) HRn
                have Y1 := Rows.boxset (pre := []) (j := 1) (u := .int .i64 ke) Y0
                have Y2 := hid (Rows.boxset (pre := []) (j := 2) (u := .slice Am nm cm) Y1)
                have HBn := hid (((hqn.setCell (p := ⟨bn, 0, none⟩) hbnl (.int .i64 mo)).setCell (p := ⟨bn, 1, none⟩) hbnl (.int .i64 ke)).setCell (p := ⟨bn, 2, none⟩) hbnl (.slice Am nm cm))
                have HSM9 := hid hsm
                clear hS hS9 far9 Y0 Y1 z0 z1 z2 y0 y1 y2 c0 c1 c2 HRn hsm hrm
                go_wp2_with fail
                go_meet
                case rel => exact ⟨bn, Am, nm, cm, rsm, rfl, rfl, HSM9.out, Y2.out, HBn.out⟩
              · have hqn : Below wm.heap.size wm (wx.alloc (.cells #[.int .i64 0, .int .i64 0, .slice none 0 0] 26)) := hq0.alloc hq0.size _
                have hbne : wx.heap.size ≠ bm := Nat.ne_of_gt (World.block_lt_of_cell? wx _ c0)
                have hbnl : wm.heap.size ≤ wx.heap.size := hq0.size
                have HR0 := (Rows.box wx #[.int .i64 0, .int .i64 0, .slice none 0 0] 26 3 rfl).base hq0.size
                clear c0 c1 c2
                have c0 := (HCl.out _ hqn).1
                have c1 := (HCl.out _ hqn).2.1
                have c2 := (HCl.out _ hqn).2.2
                refine hK.out _ _ ⟨c0, c1, c2⟩ (fun hS9 => ?_)
                refine wpAnyH_ready (rs := [4]) (by kernel_rfl) (by simp) ?_
                refine AllReadyH.cons (o := ?oi253) ?hi253 (fun K hK => ?step253) AllReadyH.nil
                case hi253 => simp only [List.getElem?_toArray, List.getElem?_cons_succ, List.getElem?_cons_zero]; rfl
                rw [if_pos (by rfl)]
                go_simp
                generalize wx.alloc (.cells #[.int .i64 0, .int .i64 0, .slice none 0 0] 26) = wn at *
                generalize wx.heap.size = bn at *
                go_at_call 24
                refine (CW.out _ _ _ (HSrc.out _ hqn) (HL.out _ hqn)).mono ?_
                rintro e wa ⟨um, rsm, rfl, hsm, hrm, hb⟩
                obtain ⟨Am, nm, cm, rfl⟩ := hsm.form hrm
                have hqa : Below wm.heap.size wm wa := hqn.trans (hb.mono hqn.size)
                have HRn := (HR0.newer hb hrm hqn.size).perm List.perm_append_comm
                clear hb c0 c1 c2 HR0
                have c0 := (HCl.out _ hqa).1
                have c1 := (HCl.out _ hqa).2.1
                have c2 := (HCl.out _ hqa).2.2
                refine hK.out _ _ ⟨c0, c1, c2⟩ (fun hS9 => ?_)
                refine wpAnyH_take (i := 5) (oi := ?oi254) (v := ?v254) ?hi254 (by kernel_rfl) ?hf254 ?hr254 ?hQ254 (Or.inl ⟨?hw254, ?hy254⟩) (by assumption) ?rest254
                case hi254 => simp only [List.getElem?_toArray, List.getElem?_cons_succ, List.getElem?_cons_zero]; rfl
                case hf254 => kernel_rfl
                case hr254 => kernel_rfl
                case hw254 => rfl
                case hy254 => (intro w hSw; (try dsimp only at hSw); go_simp; all_goals (first | done | with_reducible rfl))
                case hQ254 => exact fun _ _ _ h => h
                simp only [Act.put, List.setIfInBounds_toArray, List.set_cons_zero, List.set_cons_succ]
                refine wpAnyH_take (i := 6) (oi := ?oi255) (v := ?v255) ?hi255 (by kernel_rfl) ?hf255 ?hr255 ?hQ255 (Or.inl ⟨?hw255, ?hy255⟩) (by assumption) ?rest255
                case hi255 => simp only [List.getElem?_toArray, List.getElem?_cons_succ, List.getElem?_cons_zero]; rfl
                case hf255 => kernel_rfl
                case hr255 => kernel_rfl
                case hw255 => rfl
                case hy255 => (intro w hSw; (try dsimp only at hSw); go_simp; all_goals (first | done | with_reducible rfl))
                case hQ255 => exact fun _ _ _ h => h
                simp only [Act.put, List.setIfInBounds_toArray, List.set_cons_zero, List.set_cons_succ]
                refine wpAnyH_take (i := 7) (oi := ?oi256) (v := ?v256) ?hi256 (by kernel_rfl) ?hf256 ?hr256 ?hQ256 (Or.inl ⟨?hw256, ?hy256⟩) (by assumption) ?rest256
                case hi256 => simp only [List.getElem?_toArray, List.getElem?_cons_succ, List.getElem?_cons_zero]; rfl
                case hf256 => kernel_rfl
                case hr256 => kernel_rfl
                case hw256 => rfl
                case hy256 => (intro w hSw; (try dsimp only at hSw); go_simp; all_goals (first | done | with_reducible rfl))
                case hQ256 => exact fun _ _ _ h => h
                simp only [Act.put, List.setIfInBounds_toArray, List.set_cons_zero, List.set_cons_succ]
                obtain ⟨z0, y0, _⟩ := Rows.bcell2 (pre := []) (q := 0) HRn rfl
                obtain ⟨z1, y1, _⟩ := Rows.bcell2 (pre := []) (q := 1) HRn rfl
                obtain ⟨z2, y2, _⟩ := Rows.bcell2 (pre := []) (q := 2) HRn rfl
                refine wpAnyH_ready (rs := [9]) (by kernel_rfl) (by simp) ?_
                refine AllReadyH.cons (o := ?oi257) ?hi257 (fun K hK => ?step257) AllReadyH.nil
                case hi257 => simp only [List.getElem?_toArray, List.getElem?_cons_succ, List.getElem?_cons_zero]; rfl
                rw [if_pos (by rfl)]
                go_simp
                have far9 : ∀ (W : World) (q q' : Nat) (u u' : Value), W.cell? ⟨bm, q, none⟩ = some u → (W.setCell ⟨bn, q', none⟩ u').cell? ⟨bm, q, none⟩ = some u := fun W q q' u u' h => (World.cell?_setCell_far _ _ _ _ hbne).trans h
                refine hK.out _ _ ⟨far9 _ _ _ _ _ (far9 _ _ _ _ _ (far9 _ _ _ _ _ c0)), far9 _ _ _ _ _ (far9 _ _ _ _ _ (far9 _ _ _ _ _ c1)), far9 _ _ _ _ _ (far9 _ _ _ _ _ (far9 _ _ _ _ _ c2))⟩ (fun hS9 => ?_)
                refine wpAnyH_take (i := 10) (oi := ?oi258) (v := ?v258) ?hi258 (by kernel_rfl) ?hf258 ?hr258 ?hQ258 (Or.inl ⟨?hw258, ?hy258⟩) (by assumption) ?rest258
                case hi258 => simp only [List.getElem?_toArray, List.getElem?_cons_succ, List.getElem?_cons_zero]; rfl
                case hf258 => kernel_rfl
                case hr258 => kernel_rfl
                case hw258 => rfl
                case hy258 => (intro w hSw; (try dsimp only at hSw); go_simp; all_goals (first | done | with_reducible rfl))
                case hQ258 => exact fun _ _ _ h => h
                simp only [Act.put, List.setIfInBounds_toArray, List.set_cons_zero, List.set_cons_succ]
                refine wpAnyH_done (by kernel_rfl) ?_ _
                have Y0 := Rows.boxset (pre := []) (j := 0) (u := .int .i64 mo) HRn
                have Y1 := Rows.boxset (pre := []) (j := 1) (u := .int .i64 ke) Y0
                have Y2 := hid (Rows.boxset (pre := []) (j := 2) (u := .slice Am nm cm) Y1)
                have HBn := hid (((hqa.setCell (p := ⟨bn, 0, none⟩) hbnl (.int .i64 mo)).setCell (p := ⟨bn, 1, none⟩) hbnl (.int .i64 ke)).setCell (p := ⟨bn, 2, none⟩) hbnl (.slice Am nm cm))
                have HSM9 := hid hsm
                clear hS hS9 far9 Y0 Y1 z0 z1 z2 y0 y1 y2 c0 c1 c2 HRn hsm hrm
                go_wp2_with fail
                go_meet
                case rel => exact ⟨bn, Am, nm, cm, rsm, rfl, rfl, HSM9.out, Y2.out, HBn.out⟩
            case rest =>
              obtain ⟨bq, Aq, nq, cq, rsq, rfl, rfl, HSq, HRq, HBq⟩ := hcut
              rename World => wq
              clear HSrc CW HCl HL
              have HCq := hid (fun (W : World) (hW : Below wq.heap.size wq W) => And.intro ((hW.cell (p := ⟨bq, 0, none⟩) (Rows.bc HRq.out.left 0 rfl).2).trans (Rows.bc HRq.out.left 0 rfl).1) (And.intro ((hW.cell (p := ⟨bq, 1, none⟩) (Rows.bc HRq.out.left 1 rfl).2).trans (Rows.bc HRq.out.left 1 rfl).1) ((hW.cell (p := ⟨bq, 2, none⟩) (Rows.bc HRq.out.left 2 rfl).2).trans (Rows.bc HRq.out.left 2 rfl).1)))
              have hqq := hid (hqm.out.trans (HBq.out.mono hqm.out.size))
              have fr : ∀ (W : World), Below wq.heap.size wq W → Below w3.heap.size w3 W := fun W hW => hqq.out.trans (hW.mono hqq.out.size)
              have HLl := hid (fun (W : World) (hW : Below wq.heap.size wq W) => HLm.out W (HBq.out.trans (hW.mono HBq.out.size)))
              have CE := hid (fun (W : World) (hW : Below wq.heap.size wq W) => equalFiles_c (FilR.at_ HSq.out (HRq.out.right.below hW) HFit.out) (FilR.at_ Su2.out (HRb.out.right.left.below (fr _ hW)) HFit.out) HLe.out)
              have CAf := hid (fun (W : World) (hW : Below w3.heap.size w3 W) => implAllLines_c (FilR.at_ HS.out (HRb.out.right.right.right.left.below hW) HF.out) (Nat.le_refl _))
              have CAx := hid (fun (W : World) (hW : Below w3.heap.size w3 W) => implAllLines_c (FilR.at_ Su2.out (HRb.out.right.left.below hW) HFit.out) (Nat.le_refl _))
              rw [HAf.out] at CAf
              rw [HAx.out] at CAx
              have HF1 := hid (show StrsFit (allL L) by have h9 := allX_fit (d := ⟨mo, ke, L⟩); rwa [HAf.out] at h9)
              have HF2 := hid (show StrsFit (allL xl) by have h9 := allX_fit (d := ⟨mo, ke, xl⟩); rwa [HAx.out] at h9)
              have hl1 : (allL L).length ≤ 60 := by have := allL_len L 12 (fil_small HZz.out).2; have h4 : L.length ≤ 4 := (fil_small HZz.out).1; omega
              have hl2 : (allL xl).length ≤ 1000 := by have := allL_len xl 12 (fil_small HE.out).2; have h4 : xl.length ≤ 4 := (fil_small HE.out).1; omega
              have HF12 := hid (show StrsFit (allL L ++ l) from ⟨by rw [List.length_append]; have := hnl.out; unfold maxTxt; omega, fun t ht => by rcases List.mem_append.1 ht with h | h; exact HF1.out.2 t h; exact HFl.out.2 t h⟩)
              clear HLm hqm HBq
              have hq9 : Below wq.heap.size wq wq := Below.refl _ _
              go_wp2_with fail
              refine wp_region_held_drew (S := (fun w' : World => (w'.cell? ⟨bq, 0, none⟩ = some (.int .i64 mo) ∧ w'.cell? ⟨bq, 1, none⟩ = some (.int .i64 ke) ∧ w'.cell? ⟨bq, 2, none⟩ = some (.slice Aq nq cq)) ∧ (w'.cell? ⟨bx, 0, none⟩ = some (.int .i64 mo) ∧ w'.cell? ⟨bx, 1, none⟩ = some (.int .i64 ke) ∧ w'.cell? ⟨bx, 2, none⟩ = some (.slice Au nu cu) ∧ w'.cell? ⟨w1.heap.size, 0, none⟩ = some (.int .i64 mo) ∧ w'.cell? ⟨w1.heap.size, 1, none⟩ = some (.int .i64 ke) ∧ w'.cell? ⟨w1.heap.size, 2, none⟩ = some (.slice A n c)))) (by kernel_rfl) ⟨HCq.out _ hq9.drew, far.out _ (fr _ hq9.drew)⟩ (fun hS => ?_)
              have hq0 : Below wq.heap.size wq wq.drew := hq9.drew
              refine wpAnyH_take (i := 0) (oi := ?oi259) (v := ?v259) ?hi259 (by kernel_rfl) ?hf259 ?hr259 ?hQ259 (Or.inl ⟨?hw259, ?hy259⟩) (by assumption) ?rest259
              case hi259 => simp only [List.getElem?_toArray, List.getElem?_cons_succ, List.getElem?_cons_zero]; rfl
              case hf259 => kernel_rfl
              case hr259 => kernel_rfl
              case hw259 => rfl
              case hy259 => (intro w hSw; (try dsimp only at hSw); go_simp; all_goals (first | done | with_reducible rfl))
              case hQ259 => exact fun _ _ _ h => h
              simp only [Act.put, List.setIfInBounds_toArray, List.set_cons_zero, List.set_cons_succ]
              refine wpAnyH_take (i := 1) (oi := ?oi260) (v := ?v260) ?hi260 (by kernel_rfl) ?hf260 ?hr260 ?hQ260 (Or.inl ⟨?hw260, ?hy260⟩) (by assumption) ?rest260
              case hi260 => simp only [List.getElem?_toArray, List.getElem?_cons_succ, List.getElem?_cons_zero]; rfl
              case hf260 => kernel_rfl
              case hr260 => kernel_rfl
              case hw260 => rfl
              case hy260 => (intro w hSw; (try dsimp only at hSw); go_simp; all_goals (first | done | with_reducible rfl))
              case hQ260 => exact fun _ _ _ h => h
              simp only [Act.put, List.setIfInBounds_toArray, List.set_cons_zero, List.set_cons_succ]
              refine wpAnyH_take (i := 2) (oi := ?oi261) (v := ?v261) ?hi261 (by kernel_rfl) ?hf261 ?hr261 ?hQ261 (Or.inl ⟨?hw261, ?hy261⟩) (by assumption) ?rest261
              case hi261 => simp only [List.getElem?_toArray, List.getElem?_cons_succ, List.getElem?_cons_zero]; rfl
              case hf261 => kernel_rfl
              case hr261 => kernel_rfl
              case hw261 => rfl
              case hy261 => (intro w hSw; (try dsimp only at hSw); go_simp; all_goals (first | done | with_reducible rfl))
              case hQ261 => exact fun _ _ _ h => h
              simp only [Act.put, List.setIfInBounds_toArray, List.set_cons_zero, List.set_cons_succ]
              refine wpAnyH_take (i := 3) (oi := ?oi262) (v := ?v262) ?hi262 (by kernel_rfl) ?hf262 ?hr262 ?hQ262 (Or.inl ⟨?hw262, ?hy262⟩) (by assumption) ?rest262
              case hi262 => simp only [List.getElem?_toArray, List.getElem?_cons_succ, List.getElem?_cons_zero]; rfl
              case hf262 => kernel_rfl
              case hr262 => kernel_rfl
              case hw262 => rfl
              case hy262 => (intro w hSw; (try dsimp only at hSw); go_simp; all_goals (first | done | with_reducible rfl))
              case hQ262 => exact fun _ _ _ h => h
              simp only [Act.put, List.setIfInBounds_toArray, List.set_cons_zero, List.set_cons_succ]
              refine wpAnyH_take (i := 4) (oi := ?oi263) (v := ?v263) ?hi263 (by kernel_rfl) ?hf263 ?hr263 ?hQ263 (Or.inl ⟨?hw263, ?hy263⟩) (by assumption) ?rest263
              case hi263 => simp only [List.getElem?_toArray, List.getElem?_cons_succ, List.getElem?_cons_zero]; rfl
              case hf263 => kernel_rfl
              case hr263 => kernel_rfl
              case hw263 => rfl
              case hy263 => (intro w hSw; (try dsimp only at hSw); go_simp; all_goals (first | done | with_reducible rfl))
              case hQ263 => exact fun _ _ _ h => h
              simp only [Act.put, List.setIfInBounds_toArray, List.set_cons_zero, List.set_cons_succ]
              refine wpAnyH_take (i := 5) (oi := ?oi264) (v := ?v264) ?hi264 (by kernel_rfl) ?hf264 ?hr264 ?hQ264 (Or.inl ⟨?hw264, ?hy264⟩) (by assumption) ?rest264
              case hi264 => simp only [List.getElem?_toArray, List.getElem?_cons_succ, List.getElem?_cons_zero]; rfl
              case hf264 => kernel_rfl
              case hr264 => kernel_rfl
              case hw264 => rfl
              case hy264 => (intro w hSw; (try dsimp only at hSw); go_simp; all_goals (first | done | with_reducible rfl))
              case hQ264 => exact fun _ _ _ h => h
              simp only [Act.put, List.setIfInBounds_toArray, List.set_cons_zero, List.set_cons_succ]
              refine wpAnyH_take (i := 6) (oi := ?oi265) (v := ?v265) ?hi265 (by kernel_rfl) ?hf265 ?hr265 ?hQ265 (Or.inl ⟨?hw265, ?hy265⟩) (by assumption) ?rest265
              case hi265 => simp only [List.getElem?_toArray, List.getElem?_cons_succ, List.getElem?_cons_zero]; rfl
              case hf265 => kernel_rfl
              case hr265 => kernel_rfl
              case hw265 => rfl
              case hy265 => (intro w hSw; (try dsimp only at hSw); go_simp; all_goals (first | done | with_reducible rfl))
              case hQ265 => exact fun _ _ _ h => h
              simp only [Act.put, List.setIfInBounds_toArray, List.set_cons_zero, List.set_cons_succ]
              refine wpAnyH_ready (rs := [7]) (by kernel_rfl) (by simp) ?_
              refine AllReadyH.cons (o := ?oi266) ?hi266 (fun K hK => ?step266) AllReadyH.nil
              case hi266 => simp only [List.getElem?_toArray, List.getElem?_cons_succ, List.getElem?_cons_zero]; rfl
              rw [if_pos (by rfl)]
              go_simp
              go_at_call 40
              refine (CE.out _ hq0).mono ?_
              rintro e we ⟨rfl, hb⟩
              have hqe : Below wq.heap.size wq we := hq0.trans (hb.mono hq0.size)
              clear hb hq0 hq9
              refine hK.out _ _ ⟨HCq.out _ (hqe), far.out _ (fr _ (hqe))⟩ (fun hS9 => ?_)
              refine wpAnyH_take (i := 8) (oi := ?oi267) (v := ?v267) ?hi267 (by kernel_rfl) ?hf267 ?hr267 ?hQ267 (Or.inl ⟨?hw267, ?hy267⟩) (by assumption) ?rest267
              case hi267 => simp only [List.getElem?_toArray, List.getElem?_cons_succ, List.getElem?_cons_zero]; rfl
              case hf267 => kernel_rfl
              case hr267 => kernel_rfl
              case hw267 => rfl
              case hy267 => (intro w hSw; (try dsimp only at hSw); go_simp; all_goals (first | done | with_reducible rfl))
              case hQ267 => exact fun _ _ _ h => h
              simp only [Act.put, List.setIfInBounds_toArray, List.set_cons_zero, List.set_cons_succ]
              refine wpAnyH_take (i := 9) (oi := ?oi268) (v := ?v268) ?hi268 (by kernel_rfl) ?hf268 ?hr268 ?hQ268 (Or.inl ⟨?hw268, ?hy268⟩) (by assumption) ?rest268
              case hi268 => simp only [List.getElem?_toArray, List.getElem?_cons_succ, List.getElem?_cons_zero]; rfl
              case hf268 => kernel_rfl
              case hr268 => kernel_rfl
              case hw268 => rfl
              case hy268 => (intro w hSw; (try dsimp only at hSw); go_simp; all_goals (first | done | with_reducible rfl))
              case hQ268 => exact fun _ _ _ h => h
              simp only [Act.put, List.setIfInBounds_toArray, List.set_cons_zero, List.set_cons_succ]
              refine wpAnyH_take (i := 11) (oi := ?oi269) (v := ?v269) ?hi269 (by kernel_rfl) ?hf269 ?hr269 ?hQ269 (Or.inl ⟨?hw269, ?hy269⟩) (by assumption) ?rest269
              case hi269 => simp only [List.getElem?_toArray, List.getElem?_cons_succ, List.getElem?_cons_zero]; rfl
              case hf269 => kernel_rfl
              case hr269 => kernel_rfl
              case hw269 => rfl
              case hy269 => (intro w hSw; (try dsimp only at hSw); go_simp; all_goals (first | done | with_reducible rfl))
              case hQ269 => exact fun _ _ _ h => h
              simp only [Act.put, List.setIfInBounds_toArray, List.set_cons_zero, List.set_cons_succ]
              refine wpAnyH_take (i := 14) (oi := ?oi270) (v := ?v270) ?hi270 (by kernel_rfl) ?hf270 ?hr270 ?hQ270 (Or.inl ⟨?hw270, ?hy270⟩) (by assumption) ?rest270
              case hi270 => simp only [List.getElem?_toArray, List.getElem?_cons_succ, List.getElem?_cons_zero]; rfl
              case hf270 => kernel_rfl
              case hr270 => kernel_rfl
              case hw270 => rfl
              case hy270 => (intro w hSw; (try dsimp only at hSw); go_simp; all_goals (first | done | with_reducible rfl))
              case hQ270 => exact fun _ _ _ h => h
              simp only [Act.put, List.setIfInBounds_toArray, List.set_cons_zero, List.set_cons_succ]
              refine wpAnyH_take (i := 16) (oi := ?oi271) (v := ?v271) ?hi271 (by kernel_rfl) ?hf271 ?hr271 ?hQ271 (Or.inl ⟨?hw271, ?hy271⟩) (by assumption) ?rest271
              case hi271 => simp only [List.getElem?_toArray, List.getElem?_cons_succ, List.getElem?_cons_zero]; rfl
              case hf271 => kernel_rfl
              case hr271 => kernel_rfl
              case hw271 => rfl
              case hy271 => (intro w hSw; (try dsimp only at hSw); go_simp; all_goals (first | done | with_reducible rfl))
              case hQ271 => exact fun _ _ _ h => h
              simp only [Act.put, List.setIfInBounds_toArray, List.set_cons_zero, List.set_cons_succ]
              refine wpAnyH_ready (rs := [10, 12]) (by kernel_rfl) (by simp) ?_
              refine AllReadyH.cons (o := ?oi272) ?hi272 (fun K hK => ?stepA272) (AllReadyH.cons (o := ?oj272) ?hj272 (fun K hK => ?stepB272) AllReadyH.nil)
              case hi272 => simp only [List.getElem?_toArray, List.getElem?_cons_succ, List.getElem?_cons_zero]; rfl
              case hj272 => simp only [List.getElem?_toArray, List.getElem?_cons_succ, List.getElem?_cons_zero]; rfl
              all_goals rw [if_pos (by rfl)]
              all_goals go_simp
              · have hqv : Below wq.heap.size wq (we.alloc (.cells #[] 9)) := hqe.alloc hqe.size _
                have row := World.ownsRow_lit (e := 9) (size := 1) (base := wq.heap.size) we #[] 0 hqe.size (by unfold maxLen; omega) (by simp)
                refine hK.out _ _ ⟨HCq.out _ (hqv), far.out _ (fr _ (hqv))⟩ (fun hS9 => ?_)
                refine wpAnyH_ready (rs := [12]) (by kernel_rfl) (by simp) ?_
                refine AllReadyH.cons (o := ?oi273) ?hi273 (fun K hK => ?step273) AllReadyH.nil
                case hi273 => simp only [List.getElem?_toArray, List.getElem?_cons_succ, List.getElem?_cons_zero]; rfl
                rw [if_pos (by rfl)]
                go_simp
                go_at_call 31
                refine (CAf.out _ (fr _ hqv)).mono ?_
                rintro e wf ⟨yf, rsf, rfl, hsf, hrf, hb⟩
                obtain ⟨Af, nf, cf, rfl⟩ := hsf.form hrf
                have hqW : Below wq.heap.size wq wf := hqv.trans (hb.mono hqv.size)
                have row0 := own_below row hb
                clear hb row
                refine hK.out _ _ ⟨HCq.out _ (hqW), far.out _ (fr _ (hqW))⟩ (fun hS9 => ?_)
                obtain ⟨i0, hi0, hz0, hz1, hz2⟩ := info_parts Try.infoStr
                obtain ⟨v5, w5, hrun, ho5, hg5, _⟩ := run_appG (P := Try.prog) wf 35 wq.heap.size 9 i0 _ 1 16 Try.underlying35 hi0 hz0 hz1 hz2 rfl (by decide) _ 0 _ row0 wf.heap.size (allL L).length _ _ (StrsR.at_ hsf hrf HF1.out).1 (strs_one _) (by have := hl1; unfold maxLen; omega) (by have := hl1; omega) hqW.size
                obtain ⟨A5, c5, rfl, _, _⟩ := (Sl.of_own ho5).form
                have hq5 : Below wq.heap.size wq w5 := hqW.grown hg5 hqW.size (own_lt row0)
                have hsl5 := (HLl.out _ hq5)
                have HRun := hid hrun
                refine wpAnyH_ready (rs := [13]) (by kernel_rfl) (by simp) ?_
                refine AllReadyH.cons (o := ?oi274) ?hi274 (fun K hK => ?step274) AllReadyH.nil
                case hi274 => simp only [List.getElem?_toArray, List.getElem?_cons_succ, List.getElem?_cons_zero]; rfl
                rw [if_pos (by rfl)]
                refine wp_app rfl (by rfl) (by rfl) HRun.out ?_
                refine hK.out _ _ ⟨HCq.out _ (hq5), far.out _ (fr _ (hq5))⟩ (fun hS9 => ?_)
                simp only [Act.put, List.setIfInBounds_toArray, List.set_cons_zero, List.set_cons_succ]
                obtain ⟨v6, w6, hrun6, ho6, hg6, _⟩ := run_appG (P := Try.prog) w5 35 wq.heap.size 9 i0 _ 1 16 Try.underlying35 hi0 hz0 hz1 hz2 rfl (by decide) _ (0 + (allL L).length) _ ho5 w5.heap.size l.length _ _ hsl5.1 (strs_one l) (by have := hl1; have := hnl13; have := hnl.out; unfold maxLen; omega) (by have := hl1; have := hnl13; have := hnl.out; omega) hq5.size
                obtain ⟨A6, c6, rfl, _, _⟩ := (Sl.of_own ho6).form
                have hq6 : Below wq.heap.size wq w6 := hq5.grown hg6 hq5.size (own_lt ho5)
                have HRun6 := hid hrun6
                refine wpAnyH_ready (rs := [15]) (by kernel_rfl) (by simp) ?_
                refine AllReadyH.cons (o := ?oi275) ?hi275 (fun K hK => ?step275) AllReadyH.nil
                case hi275 => simp only [List.getElem?_toArray, List.getElem?_cons_succ, List.getElem?_cons_zero]; rfl
                rw [if_pos (by rfl)]
                refine wp_app rfl (by rfl) (by rfl) HRun6.out ?_
                refine hK.out _ _ ⟨HCq.out _ (hq6), far.out _ (fr _ (hq6))⟩ (fun hS9 => ?_)
                simp only [Act.put, List.setIfInBounds_toArray, List.set_cons_zero, List.set_cons_succ]
                have HO6 := hid (show StrsR [⟨9, 1, (allL L ++ l).length, .slice A6 (0 + (allL L).length + l.length) c6, (allL L ++ l).map txt⟩] (.slice A6 (0 + (allL L).length + l.length) c6) (allL L ++ l) ∧ Rows w6 wq.heap.size [⟨9, 1, (allL L ++ l).length, .slice A6 (0 + (allL L).length + l.length) c6, (allL L ++ l).map txt⟩] from ⟨rfl, Rows.one (show World.ownsRow w6 wq.heap.size 9 1 (.slice A6 (0 + (allL L).length + l.length) c6) (allL L ++ l).length ((allL L ++ l).map txt) from by have h9 := ho6; rw [List.length_append]; simpa [List.map_append] using h9)⟩)
                refine wpAnyH_ready (rs := [17]) (by kernel_rfl) (by simp) ?_
                refine AllReadyH.cons (o := ?oi276) ?hi276 (fun K hK => ?step276) AllReadyH.nil
                case hi276 => simp only [List.getElem?_toArray, List.getElem?_cons_succ, List.getElem?_cons_zero]; rfl
                rw [if_pos (by rfl)]
                go_simp
                go_at_call 31
                refine (CAx.out _ (fr _ hq6)).mono ?_
                rintro e w7 ⟨yx, rsx, rfl, hsx, hrx, hb⟩
                obtain ⟨Ax, nx, cx, rfl⟩ := hsx.form hrx
                have hq7 : Below wq.heap.size wq w7 := hq6.trans (hb.mono hq6.size)
                have CN := hid (endsWith_c (StrsR.at_ HO6.out.1 (HO6.out.2.below hb) HF12.out) (StrsR.at_ hsx hrx HF2.out) (by rw [List.length_append]; have := hl1; have := hnl13; have := hnl.out; omega) hl2)
                rw [HSuf.out] at CN
                rw [Nat.zero_add] at CN
                refine hK.out _ _ ⟨HCq.out _ (hq7), far.out _ (fr _ (hq7))⟩ (fun hS9 => ?_)
                refine wpAnyH_ready (rs := [18]) (by kernel_rfl) (by simp) ?_
                refine AllReadyH.cons (o := ?oi277) ?hi277 (fun K hK => ?step277) AllReadyH.nil
                case hi277 => simp only [List.getElem?_toArray, List.getElem?_cons_succ, List.getElem?_cons_zero]; rfl
                rw [if_pos (by rfl)]
                go_simp
                go_at_call 34
                refine CN.out.mono ?_
                rintro e w8 ⟨rfl, hb8⟩
                have hq8 : Below wq.heap.size wq w8 := hq7.trans (hb8.mono hq7.size)
                refine hK.out _ _ ⟨HCq.out _ (hq8), far.out _ (fr _ (hq8))⟩ (fun hS9 => ?_)
                refine wpAnyH_take (i := 19) (oi := ?oi278) (v := ?v278) ?hi278 (by kernel_rfl) ?hf278 ?hr278 ?hQ278 (Or.inl ⟨?hw278, ?hy278⟩) (by assumption) ?rest278
                case hi278 => simp only [List.getElem?_toArray, List.getElem?_cons_succ, List.getElem?_cons_zero]; rfl
                case hf278 => kernel_rfl
                case hr278 => kernel_rfl
                case hw278 => rfl
                case hy278 => (intro w hSw; (try dsimp only at hSw); go_simp; all_goals (first | done | with_reducible rfl))
                case hQ278 => exact fun _ _ _ h => h
                simp only [Act.put, List.setIfInBounds_toArray, List.set_cons_zero, List.set_cons_succ]
                refine wpAnyH_take (i := 20) (oi := ?oi279) (v := ?v279) ?hi279 (by kernel_rfl) ?hf279 ?hr279 ?hQ279 (Or.inl ⟨?hw279, ?hy279⟩) (by assumption) ?rest279
                case hi279 => simp only [List.getElem?_toArray, List.getElem?_cons_succ, List.getElem?_cons_zero]; rfl
                case hf279 => kernel_rfl
                case hr279 => kernel_rfl
                case hw279 => rfl
                case hy279 => (intro w hSw; (try dsimp only at hSw); go_simp; all_goals (first | done | with_reducible rfl))
                case hQ279 => exact fun _ _ _ h => h
                simp only [Act.put, List.setIfInBounds_toArray, List.set_cons_zero, List.set_cons_succ]
                refine wpAnyH_done (by kernel_rfl) ?_ _
                have HBz := hid (HBb.out.trans ((fr _ hq8).mono HBb.out.size))
                clear hS hS9
                go_wp2_with fail
                go_ret
                exact ⟨rfl, HBz.out⟩
              · go_at_call 31
                refine (CAf.out _ (fr _ hqe)).mono ?_
                rintro e wf0 ⟨yf, rsf, rfl, hsf, hrf0, hb⟩
                obtain ⟨Af, nf, cf, rfl⟩ := hsf.form hrf0
                have hqf : Below wq.heap.size wq wf0 := hqe.trans (hb.mono hqe.size)
                clear hb
                refine hK.out _ _ ⟨HCq.out _ (hqf), far.out _ (fr _ (hqf))⟩ (fun hS9 => ?_)
                refine wpAnyH_ready (rs := [10]) (by kernel_rfl) (by simp) ?_
                refine AllReadyH.cons (o := ?oi280) ?hi280 (fun K hK => ?step280) AllReadyH.nil
                case hi280 => simp only [List.getElem?_toArray, List.getElem?_cons_succ, List.getElem?_cons_zero]; rfl
                rw [if_pos (by rfl)]
                go_simp
                have hqW : Below wq.heap.size wq (wf0.alloc (.cells #[] 9)) := hqf.alloc hqf.size _
                have row0 := World.ownsRow_lit (e := 9) (size := 1) (base := wq.heap.size) wf0 #[] 0 hqf.size (by unfold maxLen; omega) (by simp)
                have hrf := hrf0.below ((Below.refl wf0.heap.size wf0).alloc (Nat.le_refl _) (.cells #[] 9))
                refine hK.out _ _ ⟨HCq.out _ (hqW), far.out _ (fr _ (hqW))⟩ (fun hS9 => ?_)
                obtain ⟨i0, hi0, hz0, hz1, hz2⟩ := info_parts Try.infoStr
                obtain ⟨v5, w5, hrun, ho5, hg5, _⟩ := run_appG (P := Try.prog) (wf0.alloc (.cells #[] 9)) 35 wq.heap.size 9 i0 _ 1 16 Try.underlying35 hi0 hz0 hz1 hz2 rfl (by decide) _ 0 _ row0 (wf0.alloc (.cells #[] 9)).heap.size (allL L).length _ _ (StrsR.at_ hsf hrf HF1.out).1 (strs_one _) (by have := hl1; unfold maxLen; omega) (by have := hl1; omega) hqW.size
                obtain ⟨A5, c5, rfl, _, _⟩ := (Sl.of_own ho5).form
                have hq5 : Below wq.heap.size wq w5 := hqW.grown hg5 hqW.size (own_lt row0)
                have hsl5 := (HLl.out _ hq5)
                have HRun := hid hrun
                refine wpAnyH_ready (rs := [13]) (by kernel_rfl) (by simp) ?_
                refine AllReadyH.cons (o := ?oi281) ?hi281 (fun K hK => ?step281) AllReadyH.nil
                case hi281 => simp only [List.getElem?_toArray, List.getElem?_cons_succ, List.getElem?_cons_zero]; rfl
                rw [if_pos (by rfl)]
                refine wp_app rfl (by rfl) (by rfl) HRun.out ?_
                refine hK.out _ _ ⟨HCq.out _ (hq5), far.out _ (fr _ (hq5))⟩ (fun hS9 => ?_)
                simp only [Act.put, List.setIfInBounds_toArray, List.set_cons_zero, List.set_cons_succ]
                obtain ⟨v6, w6, hrun6, ho6, hg6, _⟩ := run_appG (P := Try.prog) w5 35 wq.heap.size 9 i0 _ 1 16 Try.underlying35 hi0 hz0 hz1 hz2 rfl (by decide) _ (0 + (allL L).length) _ ho5 w5.heap.size l.length _ _ hsl5.1 (strs_one l) (by have := hl1; have := hnl13; have := hnl.out; unfold maxLen; omega) (by have := hl1; have := hnl13; have := hnl.out; omega) hq5.size
                obtain ⟨A6, c6, rfl, _, _⟩ := (Sl.of_own ho6).form
                have hq6 : Below wq.heap.size wq w6 := hq5.grown hg6 hq5.size (own_lt ho5)
                have HRun6 := hid hrun6
                refine wpAnyH_ready (rs := [15]) (by kernel_rfl) (by simp) ?_
                refine AllReadyH.cons (o := ?oi282) ?hi282 (fun K hK => ?step282) AllReadyH.nil
                case hi282 => simp only [List.getElem?_toArray, List.getElem?_cons_succ, List.getElem?_cons_zero]; rfl
                rw [if_pos (by rfl)]
                refine wp_app rfl (by rfl) (by rfl) HRun6.out ?_
                refine hK.out _ _ ⟨HCq.out _ (hq6), far.out _ (fr _ (hq6))⟩ (fun hS9 => ?_)
                simp only [Act.put, List.setIfInBounds_toArray, List.set_cons_zero, List.set_cons_succ]
                have HO6 := hid (show StrsR [⟨9, 1, (allL L ++ l).length, .slice A6 (0 + (allL L).length + l.length) c6, (allL L ++ l).map txt⟩] (.slice A6 (0 + (allL L).length + l.length) c6) (allL L ++ l) ∧ Rows w6 wq.heap.size [⟨9, 1, (allL L ++ l).length, .slice A6 (0 + (allL L).length + l.length) c6, (allL L ++ l).map txt⟩] from ⟨rfl, Rows.one (show World.ownsRow w6 wq.heap.size 9 1 (.slice A6 (0 + (allL L).length + l.length) c6) (allL L ++ l).length ((allL L ++ l).map txt) from by have h9 := ho6; rw [List.length_append]; simpa [List.map_append] using h9)⟩)
                refine wpAnyH_ready (rs := [17]) (by kernel_rfl) (by simp) ?_
                refine AllReadyH.cons (o := ?oi283) ?hi283 (fun K hK => ?step283) AllReadyH.nil
                case hi283 => simp only [List.getElem?_toArray, List.getElem?_cons_succ, List.getElem?_cons_zero]; rfl
                rw [if_pos (by rfl)]
                go_simp
                go_at_call 31
                refine (CAx.out _ (fr _ hq6)).mono ?_
                rintro e w7 ⟨yx, rsx, rfl, hsx, hrx, hb⟩
                obtain ⟨Ax, nx, cx, rfl⟩ := hsx.form hrx
                have hq7 : Below wq.heap.size wq w7 := hq6.trans (hb.mono hq6.size)
                have CN := hid (endsWith_c (StrsR.at_ HO6.out.1 (HO6.out.2.below hb) HF12.out) (StrsR.at_ hsx hrx HF2.out) (by rw [List.length_append]; have := hl1; have := hnl13; have := hnl.out; omega) hl2)
                rw [HSuf.out] at CN
                rw [Nat.zero_add] at CN
                refine hK.out _ _ ⟨HCq.out _ (hq7), far.out _ (fr _ (hq7))⟩ (fun hS9 => ?_)
                refine wpAnyH_ready (rs := [18]) (by kernel_rfl) (by simp) ?_
                refine AllReadyH.cons (o := ?oi284) ?hi284 (fun K hK => ?step284) AllReadyH.nil
                case hi284 => simp only [List.getElem?_toArray, List.getElem?_cons_succ, List.getElem?_cons_zero]; rfl
                rw [if_pos (by rfl)]
                go_simp
                go_at_call 34
                refine CN.out.mono ?_
                rintro e w8 ⟨rfl, hb8⟩
                have hq8 : Below wq.heap.size wq w8 := hq7.trans (hb8.mono hq7.size)
                refine hK.out _ _ ⟨HCq.out _ (hq8), far.out _ (fr _ (hq8))⟩ (fun hS9 => ?_)
                refine wpAnyH_take (i := 19) (oi := ?oi285) (v := ?v285) ?hi285 (by kernel_rfl) ?hf285 ?hr285 ?hQ285 (Or.inl ⟨?hw285, ?hy285⟩) (by assumption) ?rest285
                case hi285 => simp only [List.getElem?_toArray, List.getElem?_cons_succ, List.getElem?_cons_zero]; rfl
                case hf285 => kernel_rfl
                case hr285 => kernel_rfl
                case hw285 => rfl
                case hy285 => (intro w hSw; (try dsimp only at hSw); go_simp; all_goals (first | done | with_reducible rfl))
                case hQ285 => exact fun _ _ _ h => h
                simp only [Act.put, List.setIfInBounds_toArray, List.set_cons_zero, List.set_cons_succ]
                refine wpAnyH_take (i := 20) (oi := ?oi286) (v := ?v286) ?hi286 (by kernel_rfl) ?hf286 ?hr286 ?hQ286 (Or.inl ⟨?hw286, ?hy286⟩) (by assumption) ?rest286
                case hi286 => simp only [List.getElem?_toArray, List.getElem?_cons_succ, List.getElem?_cons_zero]; rfl
                case hf286 => kernel_rfl
                case hr286 => kernel_rfl
                case hw286 => rfl
                case hy286 => (intro w hSw; (try dsimp only at hSw); go_simp; all_goals (first | done | with_reducible rfl))
                case hQ286 => exact fun _ _ _ h => h
                simp only [Act.put, List.setIfInBounds_toArray, List.set_cons_zero, List.set_cons_succ]
                refine wpAnyH_done (by kernel_rfl) ?_ _
                have HBz := hid (HBb.out.trans ((fr _ hq8).mono HBb.out.size))
                clear hS hS9
                go_wp2_with fail
                go_ret
                exact ⟨rfl, HBz.out⟩
    · have hkn : nl / 2 < nl := by omega
      have hkc : ((nl : Int) / 2) = ((nl / 2 : Nat) : Int) := by omega
      obtain ⟨gl, hgl⟩ := HAl.out h0
      subst hgl
      generalize hk : nl / 2 = k at *
      replace hk := hid hk
      have s1 : (k : Int) ≤ (nl : Int) := by omega
      have s2 : (k : Int) ≤ (cl : Int) := by omega
      have s3 : (0 : Int) ≤ (k : Int) := by omega
      have s4 : k ≤ nl := by omega
      have s5 : ¬ cl = k := by omega
      have s6 : k ≤ cl := by omega
      have s7 : ((k : Int)).toNat = k := by omega
      obtain ⟨M, hM1, hM2⟩ := lines_split k HEq.out
      have hMok := (linesX_ok hM1).2.2.2
      obtain ⟨mm, mk, ml⟩ := M
      have HSrc := hid (fun (W : World) (hW : Below wz.heap.size wz W) => FilR.at_ HS.out (HRb.out.right.right.right.left.below (hqz.out.trans (hW.mono hqz.out.size))) HF.out)
      have CW := hid (fun (W : World) (v v2 : Value) (h : FilIn W W.heap.size v ⟨mo, ke, L⟩) (h2 : StrsIn W W.heap.size v2 (l.take k)) => (show Calls Try.prog 24 #[v, v2] W (FilPostO W ⟨mm, mk, ml⟩ true) from by have h9 := implWriteLines_c h h2 (Nat.le_refl _); rw [hM1] at h9; exact h9))
      have CW2 := hid (fun (W : World) (v v2 : Value) (h : FilIn W W.heap.size v ⟨mm, mk, ml⟩) (h2 : StrsIn W W.heap.size v2 (l.drop k)) => (show Calls Try.prog 24 #[v, v2] W (FilPostO W ⟨mo, ke, xl⟩ true) from by have h9 := implWriteLines_c h h2 (Nat.le_refl _); rw [hM2] at h9; exact h9))
      have HLl := hid (fun (W : World) (hW : Below wz.heap.size wz W) => StrsR.at_ HSl.out (HRb.out.right.right.right.right.below (hqz.out.trans (hW.mono hqz.out.size))) HFl.out)
      have HL := hid (fun (W : World) (hW : Below wz.heap.size wz W) => (HLl.out W hW).cutF s4)
      have HL2 := hid (fun (W : World) (hW : Below wz.heap.size wz W) => (show StrsIn W W.heap.size (.slice (some ⟨gl, k, none⟩) (nl - k) (cl - k)) (l.drop k) from by simpa only [Nat.zero_add] using (HLl.out W hW).fromF s4))
      have HCl := hid (fun (W : World) (hW : Below wz.heap.size wz W) => (far.out W (hqz.out.trans (hW.mono hqz.out.size))).2.2.2)
      have HMf := hid (fil_fit hMok)
      clear hM1 hM2 hMok o0 o1 o2 f0 f1 f2
      go_wp2_with fail
      go_cut [10, 11] from 14 (fun s10 s11 wc => ∃ (bm : Nat) (Am : Option Addr) (nm cm : Nat) (rsm : List Row), s10 = .pointer (some ⟨bm, 0, none⟩) ∧ s11 = .bool true ∧ Hid (FilR rsm (.agg #[.int .i64 mm, .int .i64 mk, .slice Am nm cm]) ⟨mm, mk, ml⟩) ∧ Hid (Rows wc wz.heap.size ([bxRow 26 3 bm [.int .i64 mm, .int .i64 mk, .slice Am nm cm]] ++ rsm)) ∧ Hid (Below wz.heap.size wz wc))
      case first =>
        have hq9 : Below wz.heap.size wz wz := Below.refl _ _
        have c0 := (HCl.out _ hq9).1
        have c1 := (HCl.out _ hq9).2.1
        have c2 := (HCl.out _ hq9).2.2
        refine wp_region_held_drew (S := (fun w' : World => w'.cell? ⟨w1.heap.size, 0, none⟩ = some (.int .i64 mo) ∧ w'.cell? ⟨w1.heap.size, 1, none⟩ = some (.int .i64 ke) ∧ w'.cell? ⟨w1.heap.size, 2, none⟩ = some (.slice A n c))) (by kernel_rfl) ⟨c0, c1, c2⟩ (fun hS => ?_)
        have hq0 : Below wz.heap.size wz wz.drew := hq9.drew
        clear c0 c1 c2
        have c0 := (HCl.out _ hq0).1
        have c1 := (HCl.out _ hq0).2.1
        have c2 := (HCl.out _ hq0).2.2
        refine wpAnyH_take (i := 0) (oi := ?oi287) (v := ?v287) ?hi287 (by kernel_rfl) ?hf287 ?hr287 ?hQ287 (Or.inl ⟨?hw287, ?hy287⟩) (by assumption) ?rest287
        case hi287 => simp only [List.getElem?_toArray, List.getElem?_cons_succ, List.getElem?_cons_zero]; rfl
        case hf287 => kernel_rfl
        case hr287 => kernel_rfl
        case hw287 => rfl
        case hy287 => (intro w hSw; (try dsimp only at hSw); go_simp; all_goals (first | done | with_reducible rfl))
        case hQ287 => exact fun _ _ _ h => h
        simp only [Act.put, List.setIfInBounds_toArray, List.set_cons_zero, List.set_cons_succ]
        refine wpAnyH_take (i := 1) (oi := ?oi288) (v := ?v288) ?hi288 (by kernel_rfl) ?hf288 ?hr288 ?hQ288 (Or.inl ⟨?hw288, ?hy288⟩) (by assumption) ?rest288
        case hi288 => simp only [List.getElem?_toArray, List.getElem?_cons_succ, List.getElem?_cons_zero]; rfl
        case hf288 => kernel_rfl
        case hr288 => kernel_rfl
        case hw288 => rfl
        case hy288 => (intro w hSw; (try dsimp only at hSw); go_simp; all_goals (first | done | with_reducible rfl))
        case hQ288 => exact fun _ _ _ h => h
        simp only [Act.put, List.setIfInBounds_toArray, List.set_cons_zero, List.set_cons_succ]
        refine wpAnyH_take (i := 2) (oi := ?oi289) (v := ?v289) ?hi289 (by kernel_rfl) ?hf289 ?hr289 ?hQ289 (Or.inl ⟨?hw289, ?hy289⟩) (by assumption) ?rest289
        case hi289 => simp only [List.getElem?_toArray, List.getElem?_cons_succ, List.getElem?_cons_zero]; rfl
        case hf289 => kernel_rfl
        case hr289 => kernel_rfl
        case hw289 => rfl
        case hy289 => (intro w hSw; (try dsimp only at hSw); go_simp; all_goals (first | done | with_reducible rfl))
        case hQ289 => exact fun _ _ _ h => h
        simp only [Act.put, List.setIfInBounds_toArray, List.set_cons_zero, List.set_cons_succ]
        refine wpAnyH_take (i := 3) (oi := ?oi290) (v := ?v290) ?hi290 (by kernel_rfl) ?hf290 ?hr290 ?hQ290 (Or.inl ⟨?hw290, ?hy290⟩) (by assumption) ?rest290
        case hi290 => simp only [List.getElem?_toArray, List.getElem?_cons_succ, List.getElem?_cons_zero]; rfl
        case hf290 => kernel_rfl
        case hr290 => kernel_rfl
        case hw290 => rfl
        case hy290 => (intro w hSw; (try dsimp only at hSw); go_simp; all_goals (first | done | with_reducible rfl))
        case hQ290 => exact fun _ _ _ h => h
        simp only [Act.put, List.setIfInBounds_toArray, List.set_cons_zero, List.set_cons_succ]
        clear hq9
        generalize wz.drew = wx at *
        refine wpAnyH_ready (rs := [4, 8]) (by kernel_rfl) (by simp) ?_
        refine AllReadyH.cons (o := ?oi291) ?hi291 (fun K hK => ?stepA291) (AllReadyH.cons (o := ?oj291) ?hj291 (fun K hK => ?stepB291) AllReadyH.nil)
        case hi291 => simp only [List.getElem?_toArray, List.getElem?_cons_succ, List.getElem?_cons_zero]; rfl
        case hj291 => simp only [List.getElem?_toArray, List.getElem?_cons_succ, List.getElem?_cons_zero]; rfl
        all_goals rw [if_pos (by rfl)]
        all_goals go_simp
        · go_at_call 24
          refine (CW.out _ _ _ (HSrc.out _ hq0) (HL.out _ hq0)).mono ?_
          rintro e wa ⟨um, rsm, rfl, hsm, hrm, hb⟩
          obtain ⟨Am, nm, cm, rfl⟩ := hsm.form hrm
          have hqa : Below wz.heap.size wz wa := hq0.trans (hb.mono hq0.size)
          clear c0 c1 c2
          have c0 := (HCl.out _ hqa).1
          have c1 := (HCl.out _ hqa).2.1
          have c2 := (HCl.out _ hqa).2.2
          refine hK.out _ _ ⟨c0, c1, c2⟩ (fun hS9 => ?_)
          refine wpAnyH_take (i := 5) (oi := ?oi292) (v := ?v292) ?hi292 (by kernel_rfl) ?hf292 ?hr292 ?hQ292 (Or.inl ⟨?hw292, ?hy292⟩) (by assumption) ?rest292
          case hi292 => simp only [List.getElem?_toArray, List.getElem?_cons_succ, List.getElem?_cons_zero]; rfl
          case hf292 => kernel_rfl
          case hr292 => kernel_rfl
          case hw292 => rfl
          case hy292 => (intro w hSw; (try dsimp only at hSw); go_simp; all_goals (first | done | with_reducible rfl))
          case hQ292 => exact fun _ _ _ h => h
          simp only [Act.put, List.setIfInBounds_toArray, List.set_cons_zero, List.set_cons_succ]
          refine wpAnyH_take (i := 6) (oi := ?oi293) (v := ?v293) ?hi293 (by kernel_rfl) ?hf293 ?hr293 ?hQ293 (Or.inl ⟨?hw293, ?hy293⟩) (by assumption) ?rest293
          case hi293 => simp only [List.getElem?_toArray, List.getElem?_cons_succ, List.getElem?_cons_zero]; rfl
          case hf293 => kernel_rfl
          case hr293 => kernel_rfl
          case hw293 => rfl
          case hy293 => (intro w hSw; (try dsimp only at hSw); go_simp; all_goals (first | done | with_reducible rfl))
          case hQ293 => exact fun _ _ _ h => h
          simp only [Act.put, List.setIfInBounds_toArray, List.set_cons_zero, List.set_cons_succ]
          refine wpAnyH_take (i := 7) (oi := ?oi294) (v := ?v294) ?hi294 (by kernel_rfl) ?hf294 ?hr294 ?hQ294 (Or.inl ⟨?hw294, ?hy294⟩) (by assumption) ?rest294
          case hi294 => simp only [List.getElem?_toArray, List.getElem?_cons_succ, List.getElem?_cons_zero]; rfl
          case hf294 => kernel_rfl
          case hr294 => kernel_rfl
          case hw294 => rfl
          case hy294 => (intro w hSw; (try dsimp only at hSw); go_simp; all_goals (first | done | with_reducible rfl))
          case hQ294 => exact fun _ _ _ h => h
          simp only [Act.put, List.setIfInBounds_toArray, List.set_cons_zero, List.set_cons_succ]
          refine wpAnyH_ready (rs := [8]) (by kernel_rfl) (by simp) ?_
          refine AllReadyH.cons (o := ?oi295) ?hi295 (fun K hK => ?step295) AllReadyH.nil
          case hi295 => simp only [List.getElem?_toArray, List.getElem?_cons_succ, List.getElem?_cons_zero]; rfl
          rw [if_pos (by rfl)]
          go_simp
          have hqn : Below wz.heap.size wz (wa.alloc (.cells #[.int .i64 0, .int .i64 0, .slice none 0 0] 26)) := hqa.alloc hqa.size _
          have hbne : wa.heap.size ≠ w1.heap.size := Nat.ne_of_gt (World.block_lt_of_cell? wa _ c0)
          have hbnl : wz.heap.size ≤ wa.heap.size := hqa.size
          have HRn := (hrm.base hq0.size).bx hqa.size #[.int .i64 0, .int .i64 0, .slice none 0 0] 26 3 rfl
          clear c0 c1 c2 hb
          have c0 := (HCl.out _ hqn).1
          have c1 := (HCl.out _ hqn).2.1
          have c2 := (HCl.out _ hqn).2.2
          refine hK.out _ _ ⟨c0, c1, c2⟩ (fun hS9 => ?_)
          generalize wa.alloc (.cells #[.int .i64 0, .int .i64 0, .slice none 0 0] 26) = wn at *
          generalize wa.heap.size = bn at *
          obtain ⟨z0, y0, _⟩ := Rows.bcell2 (pre := []) (q := 0) HRn rfl
          obtain ⟨z1, y1, _⟩ := Rows.bcell2 (pre := []) (q := 1) HRn rfl
          obtain ⟨z2, y2, _⟩ := Rows.bcell2 (pre := []) (q := 2) HRn rfl
          refine wpAnyH_ready (rs := [9]) (by kernel_rfl) (by simp) ?_
          refine AllReadyH.cons (o := ?oi296) ?hi296 (fun K hK => ?step296) AllReadyH.nil
          case hi296 => simp only [List.getElem?_toArray, List.getElem?_cons_succ, List.getElem?_cons_zero]; rfl
          rw [if_pos (by rfl)]
          go_simp
          have far9 : ∀ (W : World) (q q' : Nat) (u u' : Value), W.cell? ⟨w1.heap.size, q, none⟩ = some u → (W.setCell ⟨bn, q', none⟩ u').cell? ⟨w1.heap.size, q, none⟩ = some u := fun W q q' u u' h => (World.cell?_setCell_far _ _ _ _ hbne).trans h
          refine hK.out _ _ ⟨far9 _ _ _ _ _ (far9 _ _ _ _ _ (far9 _ _ _ _ _ c0)), far9 _ _ _ _ _ (far9 _ _ _ _ _ (far9 _ _ _ _ _ c1)), far9 _ _ _ _ _ (far9 _ _ _ _ _ (far9 _ _ _ _ _ c2))⟩ (fun hS9 => ?_)
          refine wpAnyH_take (i := 10) (oi := ?oi297) (v := ?v297) ?hi297 (by kernel_rfl) ?hf297 ?hr297 ?hQ297 (Or.inl ⟨?hw297, ?hy297⟩) (by assumption) ?rest297
          case hi297 => simp only [List.getElem?_toArray, List.getElem?_cons_succ, List.getElem?_cons_zero]; rfl
          case hf297 => kernel_rfl
          case hr297 => kernel_rfl
          case hw297 => rfl
          case hy297 => (intro w hSw; (try dsimp only at hSw); go_simp; all_goals (first | done | with_reducible rfl))
          case hQ297 => exact fun _ _ _ h => h
          simp only [Act.put, List.setIfInBounds_toArray, List.set_cons_zero, List.set_cons_succ]
          refine wpAnyH_done (by kernel_rfl) ?_ _
          have Y0 := Rows.boxset (pre := []) (j := 0) (u := .int .i64 mm) HRn
          have Y1 := Rows.boxset (pre := []) (j := 1) (u := .int .i64 mk) Y0
          have Y2 := hid (Rows.boxset (pre := []) (j := 2) (u := .slice Am nm cm) Y1)
          have HBn := hid (((hqn.setCell (p := ⟨bn, 0, none⟩) hbnl (.int .i64 mm)).setCell (p := ⟨bn, 1, none⟩) hbnl (.int .i64 mk)).setCell (p := ⟨bn, 2, none⟩) hbnl (.slice Am nm cm))
          have HSM9 := hid hsm
          clear hS hS9 far9 Y0 Y1 z0 z1 z2 y0 y1 y2 c0 c1 c2 HRn hsm hrm
          go_wp2_with fail
          go_meet
          case rel => exact ⟨bn, Am, nm, cm, rsm, rfl, rfl, HSM9.out, Y2.out, HBn.out⟩
        · have hqn : Below wz.heap.size wz (wx.alloc (.cells #[.int .i64 0, .int .i64 0, .slice none 0 0] 26)) := hq0.alloc hq0.size _
          have hbne : wx.heap.size ≠ w1.heap.size := Nat.ne_of_gt (World.block_lt_of_cell? wx _ c0)
          have hbnl : wz.heap.size ≤ wx.heap.size := hq0.size
          have HR0 := (Rows.box wx #[.int .i64 0, .int .i64 0, .slice none 0 0] 26 3 rfl).base hq0.size
          clear c0 c1 c2
          have c0 := (HCl.out _ hqn).1
          have c1 := (HCl.out _ hqn).2.1
          have c2 := (HCl.out _ hqn).2.2
          refine hK.out _ _ ⟨c0, c1, c2⟩ (fun hS9 => ?_)
          refine wpAnyH_ready (rs := [4]) (by kernel_rfl) (by simp) ?_
          refine AllReadyH.cons (o := ?oi298) ?hi298 (fun K hK => ?step298) AllReadyH.nil
          case hi298 => simp only [List.getElem?_toArray, List.getElem?_cons_succ, List.getElem?_cons_zero]; rfl
          rw [if_pos (by rfl)]
          go_simp
          generalize wx.alloc (.cells #[.int .i64 0, .int .i64 0, .slice none 0 0] 26) = wn at *
          generalize wx.heap.size = bn at *
          go_at_call 24
          refine (CW.out _ _ _ (HSrc.out _ hqn) (HL.out _ hqn)).mono ?_
          rintro e wa ⟨um, rsm, rfl, hsm, hrm, hb⟩
          obtain ⟨Am, nm, cm, rfl⟩ := hsm.form hrm
          have hqa : Below wz.heap.size wz wa := hqn.trans (hb.mono hqn.size)
          have HRn := (HR0.newer hb hrm hqn.size).perm List.perm_append_comm
          clear hb c0 c1 c2 HR0
          have c0 := (HCl.out _ hqa).1
          have c1 := (HCl.out _ hqa).2.1
          have c2 := (HCl.out _ hqa).2.2
          refine hK.out _ _ ⟨c0, c1, c2⟩ (fun hS9 => ?_)
          refine wpAnyH_take (i := 5) (oi := ?oi299) (v := ?v299) ?hi299 (by kernel_rfl) ?hf299 ?hr299 ?hQ299 (Or.inl ⟨?hw299, ?hy299⟩) (by assumption) ?rest299
          case hi299 => simp only [List.getElem?_toArray, List.getElem?_cons_succ, List.getElem?_cons_zero]; rfl
          case hf299 => kernel_rfl
          case hr299 => kernel_rfl
          case hw299 => rfl
          case hy299 => (intro w hSw; (try dsimp only at hSw); go_simp; all_goals (first | done | with_reducible rfl))
          case hQ299 => exact fun _ _ _ h => h
          simp only [Act.put, List.setIfInBounds_toArray, List.set_cons_zero, List.set_cons_succ]
          refine wpAnyH_take (i := 6) (oi := ?oi300) (v := ?v300) ?hi300 (by kernel_rfl) ?hf300 ?hr300 ?hQ300 (Or.inl ⟨?hw300, ?hy300⟩) (by assumption) ?rest300
          case hi300 => simp only [List.getElem?_toArray, List.getElem?_cons_succ, List.getElem?_cons_zero]; rfl
          case hf300 => kernel_rfl
          case hr300 => kernel_rfl
          case hw300 => rfl
          case hy300 => (intro w hSw; (try dsimp only at hSw); go_simp; all_goals (first | done | with_reducible rfl))
          case hQ300 => exact fun _ _ _ h => h
          simp only [Act.put, List.setIfInBounds_toArray, List.set_cons_zero, List.set_cons_succ]
          refine wpAnyH_take (i := 7) (oi := ?oi301) (v := ?v301) ?hi301 (by kernel_rfl) ?hf301 ?hr301 ?hQ301 (Or.inl ⟨?hw301, ?hy301⟩) (by assumption) ?rest301
          case hi301 => simp only [List.getElem?_toArray, List.getElem?_cons_succ, List.getElem?_cons_zero]; rfl
          case hf301 => kernel_rfl
          case hr301 => kernel_rfl
          case hw301 => rfl
          case hy301 => (intro w hSw; (try dsimp only at hSw); go_simp; all_goals (first | done | with_reducible rfl))
          case hQ301 => exact fun _ _ _ h => h
          simp only [Act.put, List.setIfInBounds_toArray, List.set_cons_zero, List.set_cons_succ]
          obtain ⟨z0, y0, _⟩ := Rows.bcell2 (pre := []) (q := 0) HRn rfl
          obtain ⟨z1, y1, _⟩ := Rows.bcell2 (pre := []) (q := 1) HRn rfl
          obtain ⟨z2, y2, _⟩ := Rows.bcell2 (pre := []) (q := 2) HRn rfl
          refine wpAnyH_ready (rs := [9]) (by kernel_rfl) (by simp) ?_
          refine AllReadyH.cons (o := ?oi302) ?hi302 (fun K hK => ?step302) AllReadyH.nil
          case hi302 => simp only [List.getElem?_toArray, List.getElem?_cons_succ, List.getElem?_cons_zero]; rfl
          rw [if_pos (by rfl)]
          go_simp
          have far9 : ∀ (W : World) (q q' : Nat) (u u' : Value), W.cell? ⟨w1.heap.size, q, none⟩ = some u → (W.setCell ⟨bn, q', none⟩ u').cell? ⟨w1.heap.size, q, none⟩ = some u := fun W q q' u u' h => (World.cell?_setCell_far _ _ _ _ hbne).trans h
          refine hK.out _ _ ⟨far9 _ _ _ _ _ (far9 _ _ _ _ _ (far9 _ _ _ _ _ c0)), far9 _ _ _ _ _ (far9 _ _ _ _ _ (far9 _ _ _ _ _ c1)), far9 _ _ _ _ _ (far9 _ _ _ _ _ (far9 _ _ _ _ _ c2))⟩ (fun hS9 => ?_)
          refine wpAnyH_take (i := 10) (oi := ?oi303) (v := ?v303) ?hi303 (by kernel_rfl) ?hf303 ?hr303 ?hQ303 (Or.inl ⟨?hw303, ?hy303⟩) (by assumption) ?rest303
          case hi303 => simp only [List.getElem?_toArray, List.getElem?_cons_succ, List.getElem?_cons_zero]; rfl
          case hf303 => kernel_rfl
          case hr303 => kernel_rfl
          case hw303 => rfl
          case hy303 => (intro w hSw; (try dsimp only at hSw); go_simp; all_goals (first | done | with_reducible rfl))
          case hQ303 => exact fun _ _ _ h => h
          simp only [Act.put, List.setIfInBounds_toArray, List.set_cons_zero, List.set_cons_succ]
          refine wpAnyH_done (by kernel_rfl) ?_ _
          have Y0 := Rows.boxset (pre := []) (j := 0) (u := .int .i64 mm) HRn
          have Y1 := Rows.boxset (pre := []) (j := 1) (u := .int .i64 mk) Y0
          have Y2 := hid (Rows.boxset (pre := []) (j := 2) (u := .slice Am nm cm) Y1)
          have HBn := hid (((hqa.setCell (p := ⟨bn, 0, none⟩) hbnl (.int .i64 mm)).setCell (p := ⟨bn, 1, none⟩) hbnl (.int .i64 mk)).setCell (p := ⟨bn, 2, none⟩) hbnl (.slice Am nm cm))
          have HSM9 := hid hsm
          clear hS hS9 far9 Y0 Y1 z0 z1 z2 y0 y1 y2 c0 c1 c2 HRn hsm hrm
          go_wp2_with fail
          go_meet
          case rel => exact ⟨bn, Am, nm, cm, rsm, rfl, rfl, HSM9.out, Y2.out, HBn.out⟩
      case rest =>
        obtain ⟨bm, Am, nm, cm, rsm, rfl, rfl, HSm, HRm, HBm⟩ := hcut
        rename World => wm
        clear HSrc CW HCl HL
        have HSrc := hid (fun (W : World) (hW : Below wm.heap.size wm W) => FilR.at_ HSm.out (HRm.out.right.below hW) HMf.out)
        have HCl := hid (fun (W : World) (hW : Below wm.heap.size wm W) => And.intro ((hW.cell (p := ⟨bm, 0, none⟩) (Rows.bc HRm.out.left 0 rfl).2).trans (Rows.bc HRm.out.left 0 rfl).1) (And.intro ((hW.cell (p := ⟨bm, 1, none⟩) (Rows.bc HRm.out.left 1 rfl).2).trans (Rows.bc HRm.out.left 1 rfl).1) ((hW.cell (p := ⟨bm, 2, none⟩) (Rows.bc HRm.out.left 2 rfl).2).trans (Rows.bc HRm.out.left 2 rfl).1)))
        have HL := hid (fun (W : World) (hW : Below wm.heap.size wm W) => HL2.out W (HBm.out.trans (hW.mono HBm.out.size)))
        have HLm := hid (fun (W : World) (hW : Below wm.heap.size wm W) => HLl.out W (HBm.out.trans (hW.mono HBm.out.size)))
        have hqm := hid (hqz.out.trans (HBm.out.mono hqz.out.size))
        have CW := hid CW2.out
        clear HL2 CW2 HLl hqz HBm
        go_wp2_with fail
        go_cut [12, 13] from 14 (fun s12 s13 wc => ∃ (bm : Nat) (Am : Option Addr) (nm cm : Nat) (rsm : List Row), s12 = .pointer (some ⟨bm, 0, none⟩) ∧ s13 = .bool true ∧ Hid (FilR rsm (.agg #[.int .i64 mo, .int .i64 ke, .slice Am nm cm]) ⟨mo, ke, xl⟩) ∧ Hid (Rows wc wm.heap.size ([bxRow 26 3 bm [.int .i64 mo, .int .i64 ke, .slice Am nm cm]] ++ rsm)) ∧ Hid (Below wm.heap.size wm wc))
        case first =>
          have hq9 : Below wm.heap.size wm wm := Below.refl _ _
          have c0 := (HCl.out _ hq9).1
          have c1 := (HCl.out _ hq9).2.1
          have c2 := (HCl.out _ hq9).2.2
          refine wp_region_held_drew (S := (fun w' : World => w'.cell? ⟨bm, 0, none⟩ = some (.int .i64 mm) ∧ w'.cell? ⟨bm, 1, none⟩ = some (.int .i64 mk) ∧ w'.cell? ⟨bm, 2, none⟩ = some (.slice Am nm cm))) (by kernel_rfl) ⟨c0, c1, c2⟩ (fun hS => ?_)
          have hq0 : Below wm.heap.size wm wm.drew := hq9.drew
          clear c0 c1 c2
          have c0 := (HCl.out _ hq0).1
          have c1 := (HCl.out _ hq0).2.1
          have c2 := (HCl.out _ hq0).2.2
          refine wpAnyH_take (i := 0) (oi := ?oi304) (v := ?v304) ?hi304 (by kernel_rfl) ?hf304 ?hr304 ?hQ304 (Or.inl ⟨?hw304, ?hy304⟩) (by assumption) ?rest304
          case hi304 => simp only [List.getElem?_toArray, List.getElem?_cons_succ, List.getElem?_cons_zero]; rfl
          case hf304 => kernel_rfl
          case hr304 => kernel_rfl
          case hw304 => rfl
          case hy304 => (intro w hSw; (try dsimp only at hSw); go_simp; all_goals (first | done | with_reducible rfl))
          case hQ304 => exact fun _ _ _ h => h
          simp only [Act.put, List.setIfInBounds_toArray, List.set_cons_zero, List.set_cons_succ]
          refine wpAnyH_take (i := 1) (oi := ?oi305) (v := ?v305) ?hi305 (by kernel_rfl) ?hf305 ?hr305 ?hQ305 (Or.inl ⟨?hw305, ?hy305⟩) (by assumption) ?rest305
          case hi305 => simp only [List.getElem?_toArray, List.getElem?_cons_succ, List.getElem?_cons_zero]; rfl
          case hf305 => kernel_rfl
          case hr305 => kernel_rfl
          case hw305 => rfl
          case hy305 => (intro w hSw; (try dsimp only at hSw); go_simp; all_goals (first | done | with_reducible rfl))
          case hQ305 => exact fun _ _ _ h => h
          simp only [Act.put, List.setIfInBounds_toArray, List.set_cons_zero, List.set_cons_succ]
          refine wpAnyH_take (i := 2) (oi := ?oi306) (v := ?v306) ?hi306 (by kernel_rfl) ?hf306 ?hr306 ?hQ306 (Or.inl ⟨?hw306, ?hy306⟩) (by assumption) ?rest306
          case hi306 => simp only [List.getElem?_toArray, List.getElem?_cons_succ, List.getElem?_cons_zero]; rfl
          case hf306 => kernel_rfl
          case hr306 => kernel_rfl
          case hw306 => rfl
          case hy306 => (intro w hSw; (try dsimp only at hSw); go_simp; all_goals (first | done | with_reducible rfl))
          case hQ306 => exact fun _ _ _ h => h
          simp only [Act.put, List.setIfInBounds_toArray, List.set_cons_zero, List.set_cons_succ]
          refine wpAnyH_take (i := 3) (oi := ?oi307) (v := ?v307) ?hi307 (by kernel_rfl) ?hf307 ?hr307 ?hQ307 (Or.inl ⟨?hw307, ?hy307⟩) (by assumption) ?rest307
          case hi307 => simp only [List.getElem?_toArray, List.getElem?_cons_succ, List.getElem?_cons_zero]; rfl
          case hf307 => kernel_rfl
          case hr307 => kernel_rfl
          case hw307 => rfl
          case hy307 => (intro w hSw; (try dsimp only at hSw); go_simp; all_goals (first | done | with_reducible rfl))
          case hQ307 => exact fun _ _ _ h => h
          simp only [Act.put, List.setIfInBounds_toArray, List.set_cons_zero, List.set_cons_succ]
          clear hq9
          generalize wm.drew = wx at *
          refine wpAnyH_ready (rs := [4, 8]) (by kernel_rfl) (by simp) ?_
          refine AllReadyH.cons (o := ?oi308) ?hi308 (fun K hK => ?stepA308) (AllReadyH.cons (o := ?oj308) ?hj308 (fun K hK => ?stepB308) AllReadyH.nil)
          case hi308 => simp only [List.getElem?_toArray, List.getElem?_cons_succ, List.getElem?_cons_zero]; rfl
          case hj308 => simp only [List.getElem?_toArray, List.getElem?_cons_succ, List.getElem?_cons_zero]; rfl
          all_goals rw [if_pos (by rfl)]
          all_goals go_simp
          · go_at_call 24
            refine (CW.out _ _ _ (HSrc.out _ hq0) (HL.out _ hq0)).mono ?_
            rintro e wa ⟨um, rsm, rfl, hsm, hrm, hb⟩
            obtain ⟨Am, nm, cm, rfl⟩ := hsm.form hrm
            have hqa : Below wm.heap.size wm wa := hq0.trans (hb.mono hq0.size)
            clear c0 c1 c2
            have c0 := (HCl.out _ hqa).1
            have c1 := (HCl.out _ hqa).2.1
            have c2 := (HCl.out _ hqa).2.2
            refine hK.out _ _ ⟨c0, c1, c2⟩ (fun hS9 => ?_)
            refine wpAnyH_take (i := 5) (oi := ?oi309) (v := ?v309) ?hi309 (by kernel_rfl) ?hf309 ?hr309 ?hQ309 (Or.inl ⟨?hw309, ?hy309⟩) (by assumption) ?rest309
            case hi309 => simp only [List.getElem?_toArray, List.getElem?_cons_succ, List.getElem?_cons_zero]; rfl
            case hf309 => kernel_rfl
            case hr309 => kernel_rfl
            case hw309 => rfl
            case hy309 => (intro w hSw; (try dsimp only at hSw); go_simp; all_goals (first | done | with_reducible rfl))
            case hQ309 => exact fun _ _ _ h => h
            simp only [Act.put, List.setIfInBounds_toArray, List.set_cons_zero, List.set_cons_succ]
            refine wpAnyH_take (i := 6) (oi := ?oi310) (v := ?v310) ?hi310 (by kernel_rfl) ?hf310 ?hr310 ?hQ310 (Or.inl ⟨?hw310, ?hy310⟩) (by assumption) ?rest310
            case hi310 => simp only [List.getElem?_toArray, List.getElem?_cons_succ, List.getElem?_cons_zero]; rfl
            case hf310 => kernel_rfl
            case hr310 => kernel_rfl
            case hw310 => rfl
            case hy310 => (intro w hSw; (try dsimp only at hSw); go_simp; all_goals (first | done | with_reducible rfl))
            case hQ310 => exact fun _ _ _ h => h
            simp only [Act.put, List.setIfInBounds_toArray, List.set_cons_zero, List.set_cons_succ]
            refine wpAnyH_take (i := 7) (oi := ?oi311) (v := ?v311) ?hi311 (by kernel_rfl) ?hf311 ?hr311 ?hQ311 (Or.inl ⟨?hw311, ?hy311⟩) (by assumption) ?rest311
            case hi311 => simp only [List.getElem?_toArray, List.getElem?_cons_succ, List.getElem?_cons_zero]; rfl
            case hf311 => kernel_rfl
            case hr311 => kernel_rfl
            case hw311 => rfl
            case hy311 => (intro w hSw; (try dsimp only at hSw); go_simp; all_goals (first | done | with_reducible rfl))
            case hQ311 => exact fun _ _ _ h => h
            simp only [Act.put, List.setIfInBounds_toArray, List.set_cons_zero, List.set_cons_succ]
            refine wpAnyH_ready (rs := [8]) (by kernel_rfl) (by simp) ?_
            refine AllReadyH.cons (o := ?oi312) ?hi312 (fun K hK => ?step312) AllReadyH.nil
            case hi312 => simp only [List.getElem?_toArray, List.getElem?_cons_succ, List.getElem?_cons_zero]; rfl
            rw [if_pos (by rfl)]
            go_simp
            have hqn : Below wm.heap.size wm (wa.alloc (.cells #[.int .i64 0, .int .i64 0, .slice none 0 0] 26)) := hqa.alloc hqa.size _
            have hbne : wa.heap.size ≠ bm := Nat.ne_of_gt (World.block_lt_of_cell? wa _ c0)
            have hbnl : wm.heap.size ≤ wa.heap.size := hqa.size
            have HRn := (hrm.base hq0.size).bx hqa.size #[.int .i64 0, .int .i64 0, .slice none 0 0] 26 3 rfl
            clear c0 c1 c2 hb
            have c0 := (HCl.out _ hqn).1
            have c1 := (HCl.out _ hqn).2.1
            have c2 := (HCl.out _ hqn).2.2
            refine hK.out _ _ ⟨c0, c1, c2⟩ (fun hS9 => ?_)
            generalize wa.alloc (.cells #[.int .i64 0, .int .i64 0, .slice none 0 0] 26) = wn at *
            generalize wa.heap.size = bn at *
            obtain ⟨z0, y0, _⟩ := Rows.bcell2 (pre := []) (q := 0) HRn rfl
            obtain ⟨z1, y1, _⟩ := Rows.bcell2 (pre := []) (q := 1) HRn rfl
            obtain ⟨z2, y2, _⟩ := Rows.bcell2 (pre := []) (q := 2) HRn rfl
            refine wpAnyH_ready (rs := [9]) (by kernel_rfl) (by simp) ?_
            refine AllReadyH.cons (o := ?oi313) ?hi313 (fun K hK => ?step313) AllReadyH.nil
            case hi313 => simp only [List.getElem?_toArray, List.getElem?_cons_succ, List.getElem?_cons_zero]; rfl
            rw [if_pos (by rfl)]
            go_simp
            have far9 : ∀ (W : World) (q q' : Nat) (u u' : Value), W.cell? ⟨bm, q, none⟩ = some u → (W.setCell ⟨bn, q', none⟩ u').cell? ⟨bm, q, none⟩ = some u := fun W q q' u u' h => (World.cell?_setCell_far _ _ _ _ hbne).trans h
            refine hK.out _ _ ⟨far9 _ _ _ _ _ (far9 _ _ _ _ _ (far9 _ _ _ _ _ c0)), far9 _ _ _ _ _ (far9 _ _ _ _ _ (far9 _ _ _ _ _ c1)), far9 _ _ _ _ _ (far9 _ _ _ _ _ (far9 _ _ _ _ _ c2))⟩ (fun hS9 => ?_)
            refine wpAnyH_take (i := 10) (oi := ?oi314) (v := ?v314) ?hi314 (by kernel_rfl) ?hf314 ?hr314 ?hQ314 (Or.inl ⟨?hw314, ?hy314⟩) (by assumption) ?rest314
            case hi314 => simp only [List.getElem?_toArray, List.getElem?_cons_succ, List.getElem?_cons_zero]; rfl
            case hf314 => kernel_rfl
            case hr314 => kernel_rfl
            case hw314 => rfl
            case hy314 => (intro w hSw; (try dsimp only at hSw); go_simp; all_goals (first | done | with_reducible rfl))
            case hQ314 => exact fun _ _ _ h => h
            simp only [Act.put, List.setIfInBounds_toArray, List.set_cons_zero, List.set_cons_succ]
            refine wpAnyH_done (by kernel_rfl) ?_ _
            have Y0 := Rows.boxset (pre := []) (j := 0) (u := .int .i64 mo) HRn
            have Y1 := Rows.boxset (pre := []) (j := 1) (u := .int .i64 ke) Y0
            have Y2 := hid (Rows.boxset (pre := []) (j := 2) (u := .slice Am nm cm) Y1)
            have HBn := hid (((hqn.setCell (p := ⟨bn, 0, none⟩) hbnl (.int .i64 mo)).setCell (p := ⟨bn, 1, none⟩) hbnl (.int .i64 ke)).setCell (p := ⟨bn, 2, none⟩) hbnl (.slice Am nm cm))
            have HSM9 := hid hsm
            clear hS hS9 far9 Y0 Y1 z0 z1 z2 y0 y1 y2 c0 c1 c2 HRn hsm hrm
            go_wp2_with fail
            go_meet
            case rel => exact ⟨bn, Am, nm, cm, rsm, rfl, rfl, HSM9.out, Y2.out, HBn.out⟩
          · have hqn : Below wm.heap.size wm (wx.alloc (.cells #[.int .i64 0, .int .i64 0, .slice none 0 0] 26)) := hq0.alloc hq0.size _
            have hbne : wx.heap.size ≠ bm := Nat.ne_of_gt (World.block_lt_of_cell? wx _ c0)
            have hbnl : wm.heap.size ≤ wx.heap.size := hq0.size
            have HR0 := (Rows.box wx #[.int .i64 0, .int .i64 0, .slice none 0 0] 26 3 rfl).base hq0.size
            clear c0 c1 c2
            have c0 := (HCl.out _ hqn).1
            have c1 := (HCl.out _ hqn).2.1
            have c2 := (HCl.out _ hqn).2.2
            refine hK.out _ _ ⟨c0, c1, c2⟩ (fun hS9 => ?_)
            refine wpAnyH_ready (rs := [4]) (by kernel_rfl) (by simp) ?_
            refine AllReadyH.cons (o := ?oi315) ?hi315 (fun K hK => ?step315) AllReadyH.nil
            case hi315 => simp only [List.getElem?_toArray, List.getElem?_cons_succ, List.getElem?_cons_zero]; rfl
            rw [if_pos (by rfl)]
            go_simp
            generalize wx.alloc (.cells #[.int .i64 0, .int .i64 0, .slice none 0 0] 26) = wn at *
            generalize wx.heap.size = bn at *
            go_at_call 24
            refine (CW.out _ _ _ (HSrc.out _ hqn) (HL.out _ hqn)).mono ?_
            rintro e wa ⟨um, rsm, rfl, hsm, hrm, hb⟩
            obtain ⟨Am, nm, cm, rfl⟩ := hsm.form hrm
            have hqa : Below wm.heap.size wm wa := hqn.trans (hb.mono hqn.size)
            have HRn := (HR0.newer hb hrm hqn.size).perm List.perm_append_comm
            clear hb c0 c1 c2 HR0
            have c0 := (HCl.out _ hqa).1
            have c1 := (HCl.out _ hqa).2.1
            have c2 := (HCl.out _ hqa).2.2
            refine hK.out _ _ ⟨c0, c1, c2⟩ (fun hS9 => ?_)
            refine wpAnyH_take (i := 5) (oi := ?oi316) (v := ?v316) ?hi316 (by kernel_rfl) ?hf316 ?hr316 ?hQ316 (Or.inl ⟨?hw316, ?hy316⟩) (by assumption) ?rest316
            case hi316 => simp only [List.getElem?_toArray, List.getElem?_cons_succ, List.getElem?_cons_zero]; rfl
            case hf316 => kernel_rfl
            case hr316 => kernel_rfl
            case hw316 => rfl
            case hy316 => (intro w hSw; (try dsimp only at hSw); go_simp; all_goals (first | done | with_reducible rfl))
            case hQ316 => exact fun _ _ _ h => h
            simp only [Act.put, List.setIfInBounds_toArray, List.set_cons_zero, List.set_cons_succ]
            refine wpAnyH_take (i := 6) (oi := ?oi317) (v := ?v317) ?hi317 (by kernel_rfl) ?hf317 ?hr317 ?hQ317 (Or.inl ⟨?hw317, ?hy317⟩) (by assumption) ?rest317
            case hi317 => simp only [List.getElem?_toArray, List.getElem?_cons_succ, List.getElem?_cons_zero]; rfl
            case hf317 => kernel_rfl
            case hr317 => kernel_rfl
            case hw317 => rfl
            case hy317 => (intro w hSw; (try dsimp only at hSw); go_simp; all_goals (first | done | with_reducible rfl))
            case hQ317 => exact fun _ _ _ h => h
            simp only [Act.put, List.setIfInBounds_toArray, List.set_cons_zero, List.set_cons_succ]
            refine wpAnyH_take (i := 7) (oi := ?oi318) (v := ?v318) ?hi318 (by kernel_rfl) ?hf318 ?hr318 ?hQ318 (Or.inl ⟨?hw318, ?hy318⟩) (by assumption) ?rest318
            case hi318 => simp only [List.getElem?_toArray, List.getElem?_cons_succ, List.getElem?_cons_zero]; rfl
            case hf318 => kernel_rfl
            case hr318 => kernel_rfl
            case hw318 => rfl
            case hy318 => (intro w hSw; (try dsimp only at hSw); go_simp; all_goals (first | done | with_reducible rfl))
            case hQ318 => exact fun _ _ _ h => h
            simp only [Act.put, List.setIfInBounds_toArray, List.set_cons_zero, List.set_cons_succ]
            obtain ⟨z0, y0, _⟩ := Rows.bcell2 (pre := []) (q := 0) HRn rfl
            obtain ⟨z1, y1, _⟩ := Rows.bcell2 (pre := []) (q := 1) HRn rfl
            obtain ⟨z2, y2, _⟩ := Rows.bcell2 (pre := []) (q := 2) HRn rfl
            refine wpAnyH_ready (rs := [9]) (by kernel_rfl) (by simp) ?_
            refine AllReadyH.cons (o := ?oi319) ?hi319 (fun K hK => ?step319) AllReadyH.nil
            case hi319 => simp only [List.getElem?_toArray, List.getElem?_cons_succ, List.getElem?_cons_zero]; rfl
            rw [if_pos (by rfl)]
            go_simp
            have far9 : ∀ (W : World) (q q' : Nat) (u u' : Value), W.cell? ⟨bm, q, none⟩ = some u → (W.setCell ⟨bn, q', none⟩ u').cell? ⟨bm, q, none⟩ = some u := fun W q q' u u' h => (World.cell?_setCell_far _ _ _ _ hbne).trans h
            refine hK.out _ _ ⟨far9 _ _ _ _ _ (far9 _ _ _ _ _ (far9 _ _ _ _ _ c0)), far9 _ _ _ _ _ (far9 _ _ _ _ _ (far9 _ _ _ _ _ c1)), far9 _ _ _ _ _ (far9 _ _ _ _ _ (far9 _ _ _ _ _ c2))⟩ (fun hS9 => ?_)
            refine wpAnyH_take (i := 10) (oi := ?oi320) (v := ?v320) ?hi320 (by kernel_rfl) ?hf320 ?hr320 ?hQ320 (Or.inl ⟨?hw320, ?hy320⟩) (by assumption) ?rest320
            case hi320 => simp only [List.getElem?_toArray, List.getElem?_cons_succ, List.getElem?_cons_zero]; rfl
            case hf320 => kernel_rfl
            case hr320 => kernel_rfl
            case hw320 => rfl
            case hy320 => (intro w hSw; (try dsimp only at hSw); go_simp; all_goals (first | done | with_reducible rfl))
            case hQ320 => exact fun _ _ _ h => h
            simp only [Act.put, List.setIfInBounds_toArray, List.set_cons_zero, List.set_cons_succ]
            refine wpAnyH_done (by kernel_rfl) ?_ _
            have Y0 := Rows.boxset (pre := []) (j := 0) (u := .int .i64 mo) HRn
            have Y1 := Rows.boxset (pre := []) (j := 1) (u := .int .i64 ke) Y0
            have Y2 := hid (Rows.boxset (pre := []) (j := 2) (u := .slice Am nm cm) Y1)
            have HBn := hid (((hqa.setCell (p := ⟨bn, 0, none⟩) hbnl (.int .i64 mo)).setCell (p := ⟨bn, 1, none⟩) hbnl (.int .i64 ke)).setCell (p := ⟨bn, 2, none⟩) hbnl (.slice Am nm cm))
            have HSM9 := hid hsm
            clear hS hS9 far9 Y0 Y1 z0 z1 z2 y0 y1 y2 c0 c1 c2 HRn hsm hrm
            go_wp2_with fail
            go_meet
            case rel => exact ⟨bn, Am, nm, cm, rsm, rfl, rfl, HSM9.out, Y2.out, HBn.out⟩
        case rest =>
          obtain ⟨bq, Aq, nq, cq, rsq, rfl, rfl, HSq, HRq, HBq⟩ := hcut
          rename World => wq
          clear HSrc CW HCl HL
          have HCq := hid (fun (W : World) (hW : Below wq.heap.size wq W) => And.intro ((hW.cell (p := ⟨bq, 0, none⟩) (Rows.bc HRq.out.left 0 rfl).2).trans (Rows.bc HRq.out.left 0 rfl).1) (And.intro ((hW.cell (p := ⟨bq, 1, none⟩) (Rows.bc HRq.out.left 1 rfl).2).trans (Rows.bc HRq.out.left 1 rfl).1) ((hW.cell (p := ⟨bq, 2, none⟩) (Rows.bc HRq.out.left 2 rfl).2).trans (Rows.bc HRq.out.left 2 rfl).1)))
          have hqq := hid (hqm.out.trans (HBq.out.mono hqm.out.size))
          have fr : ∀ (W : World), Below wq.heap.size wq W → Below w3.heap.size w3 W := fun W hW => hqq.out.trans (hW.mono hqq.out.size)
          have HLl := hid (fun (W : World) (hW : Below wq.heap.size wq W) => HLm.out W (HBq.out.trans (hW.mono HBq.out.size)))
          have CE := hid (fun (W : World) (hW : Below wq.heap.size wq W) => equalFiles_c (FilR.at_ HSq.out (HRq.out.right.below hW) HFit.out) (FilR.at_ Su2.out (HRb.out.right.left.below (fr _ hW)) HFit.out) HLe.out)
          have CAf := hid (fun (W : World) (hW : Below w3.heap.size w3 W) => implAllLines_c (FilR.at_ HS.out (HRb.out.right.right.right.left.below hW) HF.out) (Nat.le_refl _))
          have CAx := hid (fun (W : World) (hW : Below w3.heap.size w3 W) => implAllLines_c (FilR.at_ Su2.out (HRb.out.right.left.below hW) HFit.out) (Nat.le_refl _))
          rw [HAf.out] at CAf
          rw [HAx.out] at CAx
          have HF1 := hid (show StrsFit (allL L) by have h9 := allX_fit (d := ⟨mo, ke, L⟩); rwa [HAf.out] at h9)
          have HF2 := hid (show StrsFit (allL xl) by have h9 := allX_fit (d := ⟨mo, ke, xl⟩); rwa [HAx.out] at h9)
          have hl1 : (allL L).length ≤ 60 := by have := allL_len L 12 (fil_small HZz.out).2; have h4 : L.length ≤ 4 := (fil_small HZz.out).1; omega
          have hl2 : (allL xl).length ≤ 1000 := by have := allL_len xl 12 (fil_small HE.out).2; have h4 : xl.length ≤ 4 := (fil_small HE.out).1; omega
          have HF12 := hid (show StrsFit (allL L ++ l) from ⟨by rw [List.length_append]; have := hnl.out; unfold maxTxt; omega, fun t ht => by rcases List.mem_append.1 ht with h | h; exact HF1.out.2 t h; exact HFl.out.2 t h⟩)
          clear HLm hqm HBq
          have hq9 : Below wq.heap.size wq wq := Below.refl _ _
          go_wp2_with fail
          refine wp_region_held_drew (S := (fun w' : World => (w'.cell? ⟨bq, 0, none⟩ = some (.int .i64 mo) ∧ w'.cell? ⟨bq, 1, none⟩ = some (.int .i64 ke) ∧ w'.cell? ⟨bq, 2, none⟩ = some (.slice Aq nq cq)) ∧ (w'.cell? ⟨bx, 0, none⟩ = some (.int .i64 mo) ∧ w'.cell? ⟨bx, 1, none⟩ = some (.int .i64 ke) ∧ w'.cell? ⟨bx, 2, none⟩ = some (.slice Au nu cu) ∧ w'.cell? ⟨w1.heap.size, 0, none⟩ = some (.int .i64 mo) ∧ w'.cell? ⟨w1.heap.size, 1, none⟩ = some (.int .i64 ke) ∧ w'.cell? ⟨w1.heap.size, 2, none⟩ = some (.slice A n c)))) (by kernel_rfl) ⟨HCq.out _ hq9.drew, far.out _ (fr _ hq9.drew)⟩ (fun hS => ?_)
          have hq0 : Below wq.heap.size wq wq.drew := hq9.drew
          refine wpAnyH_take (i := 0) (oi := ?oi321) (v := ?v321) ?hi321 (by kernel_rfl) ?hf321 ?hr321 ?hQ321 (Or.inl ⟨?hw321, ?hy321⟩) (by assumption) ?rest321
          case hi321 => simp only [List.getElem?_toArray, List.getElem?_cons_succ, List.getElem?_cons_zero]; rfl
          case hf321 => kernel_rfl
          case hr321 => kernel_rfl
          case hw321 => rfl
          case hy321 => (intro w hSw; (try dsimp only at hSw); go_simp; all_goals (first | done | with_reducible rfl))
          case hQ321 => exact fun _ _ _ h => h
          simp only [Act.put, List.setIfInBounds_toArray, List.set_cons_zero, List.set_cons_succ]
          refine wpAnyH_take (i := 1) (oi := ?oi322) (v := ?v322) ?hi322 (by kernel_rfl) ?hf322 ?hr322 ?hQ322 (Or.inl ⟨?hw322, ?hy322⟩) (by assumption) ?rest322
          case hi322 => simp only [List.getElem?_toArray, List.getElem?_cons_succ, List.getElem?_cons_zero]; rfl
          case hf322 => kernel_rfl
          case hr322 => kernel_rfl
          case hw322 => rfl
          case hy322 => (intro w hSw; (try dsimp only at hSw); go_simp; all_goals (first | done | with_reducible rfl))
          case hQ322 => exact fun _ _ _ h => h
          simp only [Act.put, List.setIfInBounds_toArray, List.set_cons_zero, List.set_cons_succ]
          refine wpAnyH_take (i := 2) (oi := ?oi323) (v := ?v323) ?hi323 (by kernel_rfl) ?hf323 ?hr323 ?hQ323 (Or.inl ⟨?hw323, ?hy323⟩) (by assumption) ?rest323
          case hi323 => simp only [List.getElem?_toArray, List.getElem?_cons_succ, List.getElem?_cons_zero]; rfl
          case hf323 => kernel_rfl
          case hr323 => kernel_rfl
          case hw323 => rfl
          case hy323 => (intro w hSw; (try dsimp only at hSw); go_simp; all_goals (first | done | with_reducible rfl))
          case hQ323 => exact fun _ _ _ h => h
          simp only [Act.put, List.setIfInBounds_toArray, List.set_cons_zero, List.set_cons_succ]
          refine wpAnyH_take (i := 3) (oi := ?oi324) (v := ?v324) ?hi324 (by kernel_rfl) ?hf324 ?hr324 ?hQ324 (Or.inl ⟨?hw324, ?hy324⟩) (by assumption) ?rest324
          case hi324 => simp only [List.getElem?_toArray, List.getElem?_cons_succ, List.getElem?_cons_zero]; rfl
          case hf324 => kernel_rfl
          case hr324 => kernel_rfl
          case hw324 => rfl
          case hy324 => (intro w hSw; (try dsimp only at hSw); go_simp; all_goals (first | done | with_reducible rfl))
          case hQ324 => exact fun _ _ _ h => h
          simp only [Act.put, List.setIfInBounds_toArray, List.set_cons_zero, List.set_cons_succ]
          refine wpAnyH_take (i := 4) (oi := ?oi325) (v := ?v325) ?hi325 (by kernel_rfl) ?hf325 ?hr325 ?hQ325 (Or.inl ⟨?hw325, ?hy325⟩) (by assumption) ?rest325
          case hi325 => simp only [List.getElem?_toArray, List.getElem?_cons_succ, List.getElem?_cons_zero]; rfl
          case hf325 => kernel_rfl
          case hr325 => kernel_rfl
          case hw325 => rfl
          case hy325 => (intro w hSw; (try dsimp only at hSw); go_simp; all_goals (first | done | with_reducible rfl))
          case hQ325 => exact fun _ _ _ h => h
          simp only [Act.put, List.setIfInBounds_toArray, List.set_cons_zero, List.set_cons_succ]
          refine wpAnyH_take (i := 5) (oi := ?oi326) (v := ?v326) ?hi326 (by kernel_rfl) ?hf326 ?hr326 ?hQ326 (Or.inl ⟨?hw326, ?hy326⟩) (by assumption) ?rest326
          case hi326 => simp only [List.getElem?_toArray, List.getElem?_cons_succ, List.getElem?_cons_zero]; rfl
          case hf326 => kernel_rfl
          case hr326 => kernel_rfl
          case hw326 => rfl
          case hy326 => (intro w hSw; (try dsimp only at hSw); go_simp; all_goals (first | done | with_reducible rfl))
          case hQ326 => exact fun _ _ _ h => h
          simp only [Act.put, List.setIfInBounds_toArray, List.set_cons_zero, List.set_cons_succ]
          refine wpAnyH_take (i := 6) (oi := ?oi327) (v := ?v327) ?hi327 (by kernel_rfl) ?hf327 ?hr327 ?hQ327 (Or.inl ⟨?hw327, ?hy327⟩) (by assumption) ?rest327
          case hi327 => simp only [List.getElem?_toArray, List.getElem?_cons_succ, List.getElem?_cons_zero]; rfl
          case hf327 => kernel_rfl
          case hr327 => kernel_rfl
          case hw327 => rfl
          case hy327 => (intro w hSw; (try dsimp only at hSw); go_simp; all_goals (first | done | with_reducible rfl))
          case hQ327 => exact fun _ _ _ h => h
          simp only [Act.put, List.setIfInBounds_toArray, List.set_cons_zero, List.set_cons_succ]
          refine wpAnyH_ready (rs := [7]) (by kernel_rfl) (by simp) ?_
          refine AllReadyH.cons (o := ?oi328) ?hi328 (fun K hK => ?step328) AllReadyH.nil
          case hi328 => simp only [List.getElem?_toArray, List.getElem?_cons_succ, List.getElem?_cons_zero]; rfl
          rw [if_pos (by rfl)]
          go_simp
          go_at_call 40
          refine (CE.out _ hq0).mono ?_
          rintro e we ⟨rfl, hb⟩
          have hqe : Below wq.heap.size wq we := hq0.trans (hb.mono hq0.size)
          clear hb hq0 hq9
          refine hK.out _ _ ⟨HCq.out _ (hqe), far.out _ (fr _ (hqe))⟩ (fun hS9 => ?_)
          refine wpAnyH_take (i := 8) (oi := ?oi329) (v := ?v329) ?hi329 (by kernel_rfl) ?hf329 ?hr329 ?hQ329 (Or.inl ⟨?hw329, ?hy329⟩) (by assumption) ?rest329
          case hi329 => simp only [List.getElem?_toArray, List.getElem?_cons_succ, List.getElem?_cons_zero]; rfl
          case hf329 => kernel_rfl
          case hr329 => kernel_rfl
          case hw329 => rfl
          case hy329 => (intro w hSw; (try dsimp only at hSw); go_simp; all_goals (first | done | with_reducible rfl))
          case hQ329 => exact fun _ _ _ h => h
          simp only [Act.put, List.setIfInBounds_toArray, List.set_cons_zero, List.set_cons_succ]
          refine wpAnyH_take (i := 9) (oi := ?oi330) (v := ?v330) ?hi330 (by kernel_rfl) ?hf330 ?hr330 ?hQ330 (Or.inl ⟨?hw330, ?hy330⟩) (by assumption) ?rest330
          case hi330 => simp only [List.getElem?_toArray, List.getElem?_cons_succ, List.getElem?_cons_zero]; rfl
          case hf330 => kernel_rfl
          case hr330 => kernel_rfl
          case hw330 => rfl
          case hy330 => (intro w hSw; (try dsimp only at hSw); go_simp; all_goals (first | done | with_reducible rfl))
          case hQ330 => exact fun _ _ _ h => h
          simp only [Act.put, List.setIfInBounds_toArray, List.set_cons_zero, List.set_cons_succ]
          refine wpAnyH_take (i := 11) (oi := ?oi331) (v := ?v331) ?hi331 (by kernel_rfl) ?hf331 ?hr331 ?hQ331 (Or.inl ⟨?hw331, ?hy331⟩) (by assumption) ?rest331
          case hi331 => simp only [List.getElem?_toArray, List.getElem?_cons_succ, List.getElem?_cons_zero]; rfl
          case hf331 => kernel_rfl
          case hr331 => kernel_rfl
          case hw331 => rfl
          case hy331 => (intro w hSw; (try dsimp only at hSw); go_simp; all_goals (first | done | with_reducible rfl))
          case hQ331 => exact fun _ _ _ h => h
          simp only [Act.put, List.setIfInBounds_toArray, List.set_cons_zero, List.set_cons_succ]
          refine wpAnyH_take (i := 14) (oi := ?oi332) (v := ?v332) ?hi332 (by kernel_rfl) ?hf332 ?hr332 ?hQ332 (Or.inl ⟨?hw332, ?hy332⟩) (by assumption) ?rest332
          case hi332 => simp only [List.getElem?_toArray, List.getElem?_cons_succ, List.getElem?_cons_zero]; rfl
          case hf332 => kernel_rfl
          case hr332 => kernel_rfl
          case hw332 => rfl
          case hy332 => (intro w hSw; (try dsimp only at hSw); go_simp; all_goals (first | done | with_reducible rfl))
          case hQ332 => exact fun _ _ _ h => h
          simp only [Act.put, List.setIfInBounds_toArray, List.set_cons_zero, List.set_cons_succ]
          refine wpAnyH_take (i := 16) (oi := ?oi333) (v := ?v333) ?hi333 (by kernel_rfl) ?hf333 ?hr333 ?hQ333 (Or.inl ⟨?hw333, ?hy333⟩) (by assumption) ?rest333
          case hi333 => simp only [List.getElem?_toArray, List.getElem?_cons_succ, List.getElem?_cons_zero]; rfl
          case hf333 => kernel_rfl
          case hr333 => kernel_rfl
          case hw333 => rfl
          case hy333 => (intro w hSw; (try dsimp only at hSw); go_simp; all_goals (first | done | with_reducible rfl))
          case hQ333 => exact fun _ _ _ h => h
          simp only [Act.put, List.setIfInBounds_toArray, List.set_cons_zero, List.set_cons_succ]
          refine wpAnyH_ready (rs := [10, 12]) (by kernel_rfl) (by simp) ?_
          refine AllReadyH.cons (o := ?oi334) ?hi334 (fun K hK => ?stepA334) (AllReadyH.cons (o := ?oj334) ?hj334 (fun K hK => ?stepB334) AllReadyH.nil)
          case hi334 => simp only [List.getElem?_toArray, List.getElem?_cons_succ, List.getElem?_cons_zero]; rfl
          case hj334 => simp only [List.getElem?_toArray, List.getElem?_cons_succ, List.getElem?_cons_zero]; rfl
          all_goals rw [if_pos (by rfl)]
          all_goals go_simp
          · have hqv : Below wq.heap.size wq (we.alloc (.cells #[] 9)) := hqe.alloc hqe.size _
            have row := World.ownsRow_lit (e := 9) (size := 1) (base := wq.heap.size) we #[] 0 hqe.size (by unfold maxLen; omega) (by simp)
            refine hK.out _ _ ⟨HCq.out _ (hqv), far.out _ (fr _ (hqv))⟩ (fun hS9 => ?_)
            refine wpAnyH_ready (rs := [12]) (by kernel_rfl) (by simp) ?_
            refine AllReadyH.cons (o := ?oi335) ?hi335 (fun K hK => ?step335) AllReadyH.nil
            case hi335 => simp only [List.getElem?_toArray, List.getElem?_cons_succ, List.getElem?_cons_zero]; rfl
            rw [if_pos (by rfl)]
            go_simp
            go_at_call 31
            refine (CAf.out _ (fr _ hqv)).mono ?_
            rintro e wf ⟨yf, rsf, rfl, hsf, hrf, hb⟩
            obtain ⟨Af, nf, cf, rfl⟩ := hsf.form hrf
            have hqW : Below wq.heap.size wq wf := hqv.trans (hb.mono hqv.size)
            have row0 := own_below row hb
            clear hb row
            refine hK.out _ _ ⟨HCq.out _ (hqW), far.out _ (fr _ (hqW))⟩ (fun hS9 => ?_)
            obtain ⟨i0, hi0, hz0, hz1, hz2⟩ := info_parts Try.infoStr
            obtain ⟨v5, w5, hrun, ho5, hg5, _⟩ := run_appG (P := Try.prog) wf 35 wq.heap.size 9 i0 _ 1 16 Try.underlying35 hi0 hz0 hz1 hz2 rfl (by decide) _ 0 _ row0 wf.heap.size (allL L).length _ _ (StrsR.at_ hsf hrf HF1.out).1 (strs_one _) (by have := hl1; unfold maxLen; omega) (by have := hl1; omega) hqW.size
            obtain ⟨A5, c5, rfl, _, _⟩ := (Sl.of_own ho5).form
            have hq5 : Below wq.heap.size wq w5 := hqW.grown hg5 hqW.size (own_lt row0)
            have hsl5 := (HLl.out _ hq5)
            have HRun := hid hrun
            refine wpAnyH_ready (rs := [13]) (by kernel_rfl) (by simp) ?_
            refine AllReadyH.cons (o := ?oi336) ?hi336 (fun K hK => ?step336) AllReadyH.nil
            case hi336 => simp only [List.getElem?_toArray, List.getElem?_cons_succ, List.getElem?_cons_zero]; rfl
            rw [if_pos (by rfl)]
            refine wp_app rfl (by rfl) (by rfl) HRun.out ?_
            refine hK.out _ _ ⟨HCq.out _ (hq5), far.out _ (fr _ (hq5))⟩ (fun hS9 => ?_)
            simp only [Act.put, List.setIfInBounds_toArray, List.set_cons_zero, List.set_cons_succ]
            obtain ⟨v6, w6, hrun6, ho6, hg6, _⟩ := run_appG (P := Try.prog) w5 35 wq.heap.size 9 i0 _ 1 16 Try.underlying35 hi0 hz0 hz1 hz2 rfl (by decide) _ (0 + (allL L).length) _ ho5 w5.heap.size l.length _ _ hsl5.1 (strs_one l) (by have := hl1; have := hnl13; have := hnl.out; unfold maxLen; omega) (by have := hl1; have := hnl13; have := hnl.out; omega) hq5.size
            obtain ⟨A6, c6, rfl, _, _⟩ := (Sl.of_own ho6).form
            have hq6 : Below wq.heap.size wq w6 := hq5.grown hg6 hq5.size (own_lt ho5)
            have HRun6 := hid hrun6
            refine wpAnyH_ready (rs := [15]) (by kernel_rfl) (by simp) ?_
            refine AllReadyH.cons (o := ?oi337) ?hi337 (fun K hK => ?step337) AllReadyH.nil
            case hi337 => simp only [List.getElem?_toArray, List.getElem?_cons_succ, List.getElem?_cons_zero]; rfl
            rw [if_pos (by rfl)]
            refine wp_app rfl (by rfl) (by rfl) HRun6.out ?_
            refine hK.out _ _ ⟨HCq.out _ (hq6), far.out _ (fr _ (hq6))⟩ (fun hS9 => ?_)
            simp only [Act.put, List.setIfInBounds_toArray, List.set_cons_zero, List.set_cons_succ]
            have HO6 := hid (show StrsR [⟨9, 1, (allL L ++ l).length, .slice A6 (0 + (allL L).length + l.length) c6, (allL L ++ l).map txt⟩] (.slice A6 (0 + (allL L).length + l.length) c6) (allL L ++ l) ∧ Rows w6 wq.heap.size [⟨9, 1, (allL L ++ l).length, .slice A6 (0 + (allL L).length + l.length) c6, (allL L ++ l).map txt⟩] from ⟨rfl, Rows.one (show World.ownsRow w6 wq.heap.size 9 1 (.slice A6 (0 + (allL L).length + l.length) c6) (allL L ++ l).length ((allL L ++ l).map txt) from by have h9 := ho6; rw [List.length_append]; simpa [List.map_append] using h9)⟩)
            refine wpAnyH_ready (rs := [17]) (by kernel_rfl) (by simp) ?_
            refine AllReadyH.cons (o := ?oi338) ?hi338 (fun K hK => ?step338) AllReadyH.nil
            case hi338 => simp only [List.getElem?_toArray, List.getElem?_cons_succ, List.getElem?_cons_zero]; rfl
            rw [if_pos (by rfl)]
            go_simp
            go_at_call 31
            refine (CAx.out _ (fr _ hq6)).mono ?_
            rintro e w7 ⟨yx, rsx, rfl, hsx, hrx, hb⟩
            obtain ⟨Ax, nx, cx, rfl⟩ := hsx.form hrx
            have hq7 : Below wq.heap.size wq w7 := hq6.trans (hb.mono hq6.size)
            have CN := hid (endsWith_c (StrsR.at_ HO6.out.1 (HO6.out.2.below hb) HF12.out) (StrsR.at_ hsx hrx HF2.out) (by rw [List.length_append]; have := hl1; have := hnl13; have := hnl.out; omega) hl2)
            rw [HSuf.out] at CN
            rw [Nat.zero_add] at CN
            refine hK.out _ _ ⟨HCq.out _ (hq7), far.out _ (fr _ (hq7))⟩ (fun hS9 => ?_)
            refine wpAnyH_ready (rs := [18]) (by kernel_rfl) (by simp) ?_
            refine AllReadyH.cons (o := ?oi339) ?hi339 (fun K hK => ?step339) AllReadyH.nil
            case hi339 => simp only [List.getElem?_toArray, List.getElem?_cons_succ, List.getElem?_cons_zero]; rfl
            rw [if_pos (by rfl)]
            go_simp
            go_at_call 34
            refine CN.out.mono ?_
            rintro e w8 ⟨rfl, hb8⟩
            have hq8 : Below wq.heap.size wq w8 := hq7.trans (hb8.mono hq7.size)
            refine hK.out _ _ ⟨HCq.out _ (hq8), far.out _ (fr _ (hq8))⟩ (fun hS9 => ?_)
            refine wpAnyH_take (i := 19) (oi := ?oi340) (v := ?v340) ?hi340 (by kernel_rfl) ?hf340 ?hr340 ?hQ340 (Or.inl ⟨?hw340, ?hy340⟩) (by assumption) ?rest340
            case hi340 => simp only [List.getElem?_toArray, List.getElem?_cons_succ, List.getElem?_cons_zero]; rfl
            case hf340 => kernel_rfl
            case hr340 => kernel_rfl
            case hw340 => rfl
            case hy340 => (intro w hSw; (try dsimp only at hSw); go_simp; all_goals (first | done | with_reducible rfl))
            case hQ340 => exact fun _ _ _ h => h
            simp only [Act.put, List.setIfInBounds_toArray, List.set_cons_zero, List.set_cons_succ]
            refine wpAnyH_take (i := 20) (oi := ?oi341) (v := ?v341) ?hi341 (by kernel_rfl) ?hf341 ?hr341 ?hQ341 (Or.inl ⟨?hw341, ?hy341⟩) (by assumption) ?rest341
            case hi341 => simp only [List.getElem?_toArray, List.getElem?_cons_succ, List.getElem?_cons_zero]; rfl
            case hf341 => kernel_rfl
            case hr341 => kernel_rfl
            case hw341 => rfl
            case hy341 => (intro w hSw; (try dsimp only at hSw); go_simp; all_goals (first | done | with_reducible rfl))
            case hQ341 => exact fun _ _ _ h => h
            simp only [Act.put, List.setIfInBounds_toArray, List.set_cons_zero, List.set_cons_succ]
            refine wpAnyH_done (by kernel_rfl) ?_ _
            have HBz := hid (HBb.out.trans ((fr _ hq8).mono HBb.out.size))
            clear hS hS9
            go_wp2_with fail
            go_ret
            exact ⟨rfl, HBz.out⟩
          · go_at_call 31
            refine (CAf.out _ (fr _ hqe)).mono ?_
            rintro e wf0 ⟨yf, rsf, rfl, hsf, hrf0, hb⟩
            obtain ⟨Af, nf, cf, rfl⟩ := hsf.form hrf0
            have hqf : Below wq.heap.size wq wf0 := hqe.trans (hb.mono hqe.size)
            clear hb
            refine hK.out _ _ ⟨HCq.out _ (hqf), far.out _ (fr _ (hqf))⟩ (fun hS9 => ?_)
            refine wpAnyH_ready (rs := [10]) (by kernel_rfl) (by simp) ?_
            refine AllReadyH.cons (o := ?oi342) ?hi342 (fun K hK => ?step342) AllReadyH.nil
            case hi342 => simp only [List.getElem?_toArray, List.getElem?_cons_succ, List.getElem?_cons_zero]; rfl
            rw [if_pos (by rfl)]
            go_simp
            have hqW : Below wq.heap.size wq (wf0.alloc (.cells #[] 9)) := hqf.alloc hqf.size _
            have row0 := World.ownsRow_lit (e := 9) (size := 1) (base := wq.heap.size) wf0 #[] 0 hqf.size (by unfold maxLen; omega) (by simp)
            have hrf := hrf0.below ((Below.refl wf0.heap.size wf0).alloc (Nat.le_refl _) (.cells #[] 9))
            refine hK.out _ _ ⟨HCq.out _ (hqW), far.out _ (fr _ (hqW))⟩ (fun hS9 => ?_)
            obtain ⟨i0, hi0, hz0, hz1, hz2⟩ := info_parts Try.infoStr
            obtain ⟨v5, w5, hrun, ho5, hg5, _⟩ := run_appG (P := Try.prog) (wf0.alloc (.cells #[] 9)) 35 wq.heap.size 9 i0 _ 1 16 Try.underlying35 hi0 hz0 hz1 hz2 rfl (by decide) _ 0 _ row0 (wf0.alloc (.cells #[] 9)).heap.size (allL L).length _ _ (StrsR.at_ hsf hrf HF1.out).1 (strs_one _) (by have := hl1; unfold maxLen; omega) (by have := hl1; omega) hqW.size
            obtain ⟨A5, c5, rfl, _, _⟩ := (Sl.of_own ho5).form
            have hq5 : Below wq.heap.size wq w5 := hqW.grown hg5 hqW.size (own_lt row0)
            have hsl5 := (HLl.out _ hq5)
            have HRun := hid hrun
            refine wpAnyH_ready (rs := [13]) (by kernel_rfl) (by simp) ?_
            refine AllReadyH.cons (o := ?oi343) ?hi343 (fun K hK => ?step343) AllReadyH.nil
            case hi343 => simp only [List.getElem?_toArray, List.getElem?_cons_succ, List.getElem?_cons_zero]; rfl
            rw [if_pos (by rfl)]
            refine wp_app rfl (by rfl) (by rfl) HRun.out ?_
            refine hK.out _ _ ⟨HCq.out _ (hq5), far.out _ (fr _ (hq5))⟩ (fun hS9 => ?_)
            simp only [Act.put, List.setIfInBounds_toArray, List.set_cons_zero, List.set_cons_succ]
            obtain ⟨v6, w6, hrun6, ho6, hg6, _⟩ := run_appG (P := Try.prog) w5 35 wq.heap.size 9 i0 _ 1 16 Try.underlying35 hi0 hz0 hz1 hz2 rfl (by decide) _ (0 + (allL L).length) _ ho5 w5.heap.size l.length _ _ hsl5.1 (strs_one l) (by have := hl1; have := hnl13; have := hnl.out; unfold maxLen; omega) (by have := hl1; have := hnl13; have := hnl.out; omega) hq5.size
            obtain ⟨A6, c6, rfl, _, _⟩ := (Sl.of_own ho6).form
            have hq6 : Below wq.heap.size wq w6 := hq5.grown hg6 hq5.size (own_lt ho5)
            have HRun6 := hid hrun6
            refine wpAnyH_ready (rs := [15]) (by kernel_rfl) (by simp) ?_
            refine AllReadyH.cons (o := ?oi344) ?hi344 (fun K hK => ?step344) AllReadyH.nil
            case hi344 => simp only [List.getElem?_toArray, List.getElem?_cons_succ, List.getElem?_cons_zero]; rfl
            rw [if_pos (by rfl)]
            refine wp_app rfl (by rfl) (by rfl) HRun6.out ?_
            refine hK.out _ _ ⟨HCq.out _ (hq6), far.out _ (fr _ (hq6))⟩ (fun hS9 => ?_)
            simp only [Act.put, List.setIfInBounds_toArray, List.set_cons_zero, List.set_cons_succ]
            have HO6 := hid (show StrsR [⟨9, 1, (allL L ++ l).length, .slice A6 (0 + (allL L).length + l.length) c6, (allL L ++ l).map txt⟩] (.slice A6 (0 + (allL L).length + l.length) c6) (allL L ++ l) ∧ Rows w6 wq.heap.size [⟨9, 1, (allL L ++ l).length, .slice A6 (0 + (allL L).length + l.length) c6, (allL L ++ l).map txt⟩] from ⟨rfl, Rows.one (show World.ownsRow w6 wq.heap.size 9 1 (.slice A6 (0 + (allL L).length + l.length) c6) (allL L ++ l).length ((allL L ++ l).map txt) from by have h9 := ho6; rw [List.length_append]; simpa [List.map_append] using h9)⟩)
            refine wpAnyH_ready (rs := [17]) (by kernel_rfl) (by simp) ?_
            refine AllReadyH.cons (o := ?oi345) ?hi345 (fun K hK => ?step345) AllReadyH.nil
            case hi345 => simp only [List.getElem?_toArray, List.getElem?_cons_succ, List.getElem?_cons_zero]; rfl
            rw [if_pos (by rfl)]
            go_simp
            go_at_call 31
            refine (CAx.out _ (fr _ hq6)).mono ?_
            rintro e w7 ⟨yx, rsx, rfl, hsx, hrx, hb⟩
            obtain ⟨Ax, nx, cx, rfl⟩ := hsx.form hrx
            have hq7 : Below wq.heap.size wq w7 := hq6.trans (hb.mono hq6.size)
            have CN := hid (endsWith_c (StrsR.at_ HO6.out.1 (HO6.out.2.below hb) HF12.out) (StrsR.at_ hsx hrx HF2.out) (by rw [List.length_append]; have := hl1; have := hnl13; have := hnl.out; omega) hl2)
            rw [HSuf.out] at CN
            rw [Nat.zero_add] at CN
            refine hK.out _ _ ⟨HCq.out _ (hq7), far.out _ (fr _ (hq7))⟩ (fun hS9 => ?_)
            refine wpAnyH_ready (rs := [18]) (by kernel_rfl) (by simp) ?_
            refine AllReadyH.cons (o := ?oi346) ?hi346 (fun K hK => ?step346) AllReadyH.nil
            case hi346 => simp only [List.getElem?_toArray, List.getElem?_cons_succ, List.getElem?_cons_zero]; rfl
            rw [if_pos (by rfl)]
            go_simp
            go_at_call 34
            refine CN.out.mono ?_
            rintro e w8 ⟨rfl, hb8⟩
            have hq8 : Below wq.heap.size wq w8 := hq7.trans (hb8.mono hq7.size)
            refine hK.out _ _ ⟨HCq.out _ (hq8), far.out _ (fr _ (hq8))⟩ (fun hS9 => ?_)
            refine wpAnyH_take (i := 19) (oi := ?oi347) (v := ?v347) ?hi347 (by kernel_rfl) ?hf347 ?hr347 ?hQ347 (Or.inl ⟨?hw347, ?hy347⟩) (by assumption) ?rest347
            case hi347 => simp only [List.getElem?_toArray, List.getElem?_cons_succ, List.getElem?_cons_zero]; rfl
            case hf347 => kernel_rfl
            case hr347 => kernel_rfl
            case hw347 => rfl
            case hy347 => (intro w hSw; (try dsimp only at hSw); go_simp; all_goals (first | done | with_reducible rfl))
            case hQ347 => exact fun _ _ _ h => h
            simp only [Act.put, List.setIfInBounds_toArray, List.set_cons_zero, List.set_cons_succ]
            refine wpAnyH_take (i := 20) (oi := ?oi348) (v := ?v348) ?hi348 (by kernel_rfl) ?hf348 ?hr348 ?hQ348 (Or.inl ⟨?hw348, ?hy348⟩) (by assumption) ?rest348
            case hi348 => simp only [List.getElem?_toArray, List.getElem?_cons_succ, List.getElem?_cons_zero]; rfl
            case hf348 => kernel_rfl
            case hr348 => kernel_rfl
            case hw348 => rfl
            case hy348 => (intro w hSw; (try dsimp only at hSw); go_simp; all_goals (first | done | with_reducible rfl))
            case hQ348 => exact fun _ _ _ h => h
            simp only [Act.put, List.setIfInBounds_toArray, List.set_cons_zero, List.set_cons_succ]
            refine wpAnyH_done (by kernel_rfl) ?_ _
            have HBz := hid (HBb.out.trans ((fr _ hq8).mono HBb.out.size))
            clear hS hS9
            go_wp2_with fail
            go_ret
            exact ⟨rfl, HBz.out⟩
end Go.Proofs.Ytoiagfdhanhnkaa
