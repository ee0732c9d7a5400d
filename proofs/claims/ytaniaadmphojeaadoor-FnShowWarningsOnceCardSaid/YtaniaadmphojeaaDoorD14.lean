/-
  DRAWS: rules. By gen_d14.py.
-/
import Derived.Test.YtaniaadmphojeaaDoorDM
import Derived.Test.YtaniaadmphojeaaDoorR10
namespace Go.Proofs.YtaniaadmphojeaaDoor
open Go.RowKit Nm
set_option linter.unusedSimpArgs false
set_option linter.unusedVariables false

theorem txt_dataR (p : ByteArray) : txt p.data.toList = .string p := by simp [txt]
abbrev rfit (l : List Rul) : Prop := ∀ x ∈ l, x.wd.length ≤ 20 ∧ x.md.length ≤ 20
theorem rfit_add {l : List Rul} {x : Rul} (h : rfit l) (hx : x.wd.length ≤ 20 ∧ x.md.length ≤ 20) : rfit (l ++ [x]) := by
  intro y hy
  rcases List.mem_append.1 hy with hy | hy
  · exact h y hy
  · rw [List.mem_singleton.1 hy]; exact hx
theorem rfit_set {l : List Rul} {x : Rul} {k : Nat} (h : rfit l) (hx : x.wd.length ≤ 20 ∧ x.md.length ≤ 20) : rfit (l.set k x) := by
  intro y hy
  rcases List.mem_or_eq_of_mem_set hy with hy | rfl
  · exact h y hy
  · exact hx
/-- a drawn rule -/
def RulPost (R p dp : Nat) (w : World) (e : Ending) (w' : World) : Prop :=
  ∃ (ac : Int) (wd md : ByteArray) (ln : Int) (p' : Nat), (wd.size ≤ 20 ∧ md.size ≤ 20) ∧ e = .returned (.agg #[.int .i64 ac, .string wd, .string md, .int .i64 ln]) ∧ p' ≤ p + dp ∧ Rdr w' R p' ∧ w.grownBy w' (some R)
/-- drawn rules: at most m, laid in memory of their own -/
def RulsPost (R p dp m : Nat) (w : World) (e : Ending) (w' : World) : Prop :=
  ∃ (v : Value) (l : List Rul) (p' : Nat), e = .returned v ∧ l.length ≤ m ∧ rfit l ∧ w'.ownsRow w.heap.size 44 4 v l.length (l.flatMap rucells) ∧ p' ≤ p + dp ∧ Rdr w' R p' ∧ w.grownBy w' (some R)
def rWords : List (List UInt8) := [[], [120], [110, 111], []]
def rMods : List (List UInt8) := [[], [97], [97, 46, 98], [98]]

set_option maxHeartbeats 4000000 in
set_option maxRecDepth 100000 in
theorem aRule_c (R p : Nat) (w : World) (hr : Rdr w R p) (hp : p ≤ 900000) :
    Calls Tryd.prog 69 #[.pointer (some ⟨R, 0, none⟩)] w (RulPost R p 4 w) := by
  have hlt := hr.lt
  have K0 := hid (Blk.new w #[.int .i64 0, .string ByteArray.empty, .string ByteArray.empty, .int .i64 0] 44)
  have C := hid (one_lit R p 8 [0, 1, 2, 3, 4, 4, 2, 5] _ (hr.below ((Below.refl _ _).alloc (Nat.le_refl _) (.cells #[.int .i64 0, .string ByteArray.empty, .string ByteArray.empty, .int .i64 0] 44))) (by omega) rfl (by omega) (by omega) 0 6 (by decide))
  simp only [World.size_alloc] at C
  clear hr
  go_enter Tryd.func69, Tryd.ntmps69
  go_wp2_with fail
  refine C.out.mono ?_
  rintro e w1 ⟨ac, _, rfl, hr1, hg1⟩
  have G1 := hid (grown_tr (World.grownBy_alloc w _ _) hg1)
  have K1 := hid (K0.out.kept hg1 (by simp; omega))
  have C2 := hid (of_lit R (p + 1) 4 20 rWords w1 hr1 (by omega) rfl (by omega) (by omega) (by decide))
  clear hr1 hg1 C
  go_wp2_with fail
  refine C2.out.mono ?_
  rintro e w2 ⟨wd, p2, hwd, rfl, hp2, hr2, hg2⟩
  have G2 := hid (grown_tr G1.out hg2)
  have K2 := hid (K1.out.kept hg2 (by simp; omega))
  have C3 := hid (of_lit R p2 4 20 rMods w2 hr2 (by omega) rfl (by omega) (by omega) (by decide))
  clear hr2 hg2 C2 K0 K1 G1
  go_wp2_with fail
  refine C3.out.mono ?_
  rintro e w3 ⟨md, p3, hmd, rfl, hp3, hr3, hg3⟩
  have G3 := hid (grown_tr G2.out hg3)
  have K3 := hid (K2.out.kept hg3 (by simp; omega))
  have C4 := hid (one_lit R p3 4 [0, 0, 1, 2] w3 hr3 (by omega) rfl (by omega) (by omega) 0 6 (by decide))
  clear hr3 hg3 C3 K2 G2
  go_wp2_with fail
  refine C4.out.mono ?_
  rintro e w4 ⟨ln, _, rfl, hr4, hg4⟩
  have G4 := hid (grown_tr G3.out hg4)
  have K4 := K3.out.kept hg4 (by simp; omega)
  have R4 := hid hr4
  obtain ⟨k0, g0⟩ := K4.2 0 _ rfl
  obtain ⟨k1, g1⟩ := K4.2 1 _ rfl
  obtain ⟨k2, g2⟩ := K4.2 2 _ rfl
  obtain ⟨k3, g3⟩ := K4.2 3 _ rfl
  clear hr4 hg4 C4 K3 G3
  go_wp2_with fail
  have RB := (((K4.set 0 (.int .i64 ac)).set 1 (.string wd)).set 2 (.string md)).set 3 (.int .i64 ln)
  have f0 := (RB.2 0 _ rfl).1
  have f1 := (RB.2 1 _ rfl).1
  have f2 := (RB.2 2 _ rfl).1
  have f3 := (RB.2 3 _ rfl).1
  refine bodyPost_ret (v := .agg #[.int .i64 ac, .string wd, .string md, .int .i64 ln]) (by simp [results, Tryd.results69, go_sem, f0, f1, f2, f3]) rfl ?_
  refine ⟨ac, wd, md, ln, p3 + 1, ⟨hwd, hmd⟩, rfl, by omega, ?_, ?_⟩
  · exact (((R4.out.set hlt).set hlt).set hlt).set hlt
  · exact grown_at (grown_at (grown_at (grown_at G4.out (Nat.le_refl _)) (Nat.le_refl _)) (Nat.le_refl _)) (Nat.le_refl _)

set_option maxHeartbeats 4000000 in
set_option maxRecDepth 100000 in
theorem goodRules_c (R p : Nat) (w : World) (hr : Rdr w R p) (hp : p ≤ 800000) :
    Calls Tryd.prog 59 #[.pointer (some ⟨R, 0, none⟩)] w (RulsPost R p 25 6 w) := by
  have hlt := hr.lt
  have HL := hid (World.ownsRow_lit w #[] 0 (Nat.le_refl _) (by unfold maxLen; omega) (by simp) : (w.alloc (.cells #[] 44)).ownsRow w.heap.size 44 4 (.slice (some ⟨w.heap.size, 0, none⟩) 0 0) 0 [])
  have C := hid (one_lit R p 5 [2, 1, 3, 0, 6] (w.alloc (.cells #[] 44)) (hr.below ((Below.refl _ _).alloc (Nat.le_refl _) _)) (by omega) rfl (by omega) (by omega) 0 6 (by decide))
  simp only [World.size_alloc] at C
  have G0 := hid (show w.grownBy (w.alloc (.cells #[] 44)) (some R) from World.grownBy_alloc w _ _)
  clear hr
  go_enter Tryd.func59, Tryd.ntmps59
  go_wp2_with fail
  refine C.out.mono ?_
  rintro e w1 ⟨n, ⟨hn0, hn1⟩, rfl, hr1, hg1⟩
  have G1 := hid (grown_tr G0.out hg1)
  have O1 := hid (own_off HL.out hg1 hlt)
  have R1 := hid hr1
  have hs1 : w.heap.size < w1.heap.size := by have := hg1.size; simp at this; omega
  generalize hbase : w.heap.size = base at *
  replace hbase := hid hbase
  clear hr1 hg1 C HL G0
  go_wp2_with fail
  go_loopw [3, 4] (fun av nv wr => ∃ (v : Value) (q : Int) (ln : Nat) (l : List Rul) (p' : Nat), av = v ∧ nv = .int .i64 q ∧ 0 ≤ q ∧ (ln : Int) + q ≤ 6 ∧ p' ≤ p + 1 + 4 * ln ∧ Hid (l.length = ln) ∧ Hid (rfit l) ∧ Hid (wr.ownsRow base 44 4 v ln (l.flatMap rucells)) ∧ Hid (Rdr wr R p') ∧ Hid (w.grownBy wr (some R)) ∧ base ≤ wr.heap.size) (fun _ nv _ => (intOf nv).toNat)
  case atStart => exact ⟨_, n, 0, [], p + 1, rfl, rfl, hn0, by simpa using hn1, by simp, rfl, (fun x hx => by cases hx), O1.out, R1.out, G1.out, Nat.le_of_lt hs1⟩
  case round =>
    obtain ⟨v, q, ln, l, p', rfl, rfl, hq0, hq1, hp', hln, HF, HO, HR, HG, hsz⟩ := hrel
    obtain ⟨A, c, rfl, hnc, hcm⟩ := (Sl.of_own HO.out).form
    unfold maxLen at hcm
    by_cases hq : 0 < q
    · have C1 := hid (aRule_c R p' wr HR.out (by omega))
      go_wp2_with fail
      refine C1.out.mono ?_
      rintro e w2 ⟨ac, wd, md, li, p2, hf2, rfl, hp2, hr2, hg2⟩
      have R2 := hid hr2
      have G2 := hid (grown_tr HG.out hg2)
      have O2 := hid (own_off HO.out hg2 (by omega))
      have hs2 : base ≤ w2.heap.size := Nat.le_trans hsz hg2.size
      clear hr2 hg2 C1 HO HR HG
      have HOx := hid (show w2.ownsRow base 44 4 _ l.length (l.flatMap rucells) from by rw [hln.out]; exact O2.out)
      have hl9 : l.length ≤ 1048576 := by rw [hln.out]; omega
      go_wp2_with (at_builtin; refine appRule _ rfl (.tmp 13) (.tmp 16) rfl base _ l (by rfl) HOx.out ac wd md li _ _ _ (by rfl) (by simp) hl9 hs2 ?_)
      intro v5 w5 ho5 hb5
      have O5 := hid (own_snoc ho5)
      have R5 := hid (Rdr.low R2.out hb5 hlt)
      have G5 := hid (show w.grownBy w5 (some R) from grown_low G2.out (by rw [hbase.out]; exact hb5))
      have hs5 : base ≤ w5.heap.size := Nat.le_trans hs2 hb5.size
      clear ho5 hb5
      go_wp2_with fail
      go_roundw
      case rel => exact ⟨_, q - 1, ln + 1, l ++ [(⟨ac, wd.data.toList, md.data.toList, li⟩ : Rul)], p2, rfl, by go_num, by omega, by omega, by omega, (by show List.length _ = _; rw [List.length_append, hln.out]; rfl), rfit_add HF.out (by rw [← Lib.size_eq, ← Lib.size_eq]; exact hf2), (by show World.ownsRow _ _ _ _ _ _ _; have h := O5.out; rw [List.length_append, hln.out] at h; exact h), R5.out, G5.out, hs5⟩
      case measure => simp [intOf]; omega
    · obtain rfl : q = 0 := by omega
      go_wp2_with fail
      go_ret
      exact ⟨_, l, p', rfl, by rw [hln.out]; omega, HF.out, (by rw [hbase.out, hln.out]; exact HO.out), by omega, HR.out, HG.out⟩

set_option maxHeartbeats 8000000 in
set_option maxRecDepth 100000 in
theorem someRules_c (R p : Nat) (w : World) (hr : Rdr w R p) (hp : p ≤ 700000) :
    Calls Tryd.prog 43 #[.pointer (some ⟨R, 0, none⟩)] w (RulsPost R p 30 6 w) := by
  have hlt := hr.lt
  have C := hid (goodRules_c R p w hr (by omega))
  clear hr
  generalize hbase : w.heap.size = base at hlt
  replace hbase := hid hbase
  go_enter Tryd.func43, Tryd.ntmps43
  go_wp2_with fail
  refine C.out.mono ?_
  rintro e w1 ⟨v, l, p1, rfl, hl6, hfit, ho1, hp1, hr1, hg1⟩
  obtain ⟨A, c, rfl, hnc, hcm⟩ := (Sl.of_own ho1).form
  unfold maxLen at hcm
  have hs1 : base ≤ w1.heap.size := by rw [← hbase.out]; exact hg1.size
  rw [hbase.out] at ho1
  have R1 := hid hr1
  have G1 := hid hg1
  have F1 := hid hfit
  generalize hln : l.length = ln at *
  have O1 := hid ho1
  replace hln := hid hln
  clear ho1 hr1 hg1 hfit C
  rcases Nat.eq_zero_or_pos ln with hz | hz
  · subst hz
    go_wp2_with fail
    go_ret
    exact ⟨_, l, p1, rfl, by rw [hln.out]; omega, F1.out, (by rw [hbase.out, hln.out]; exact O1.out), by omega, R1.out, G1.out⟩
  · have hzi : decide ((0 : Int) < (ln : Int)) = true := by simp; omega
    have C2 := hid (pick_c R p1 24 w1 R1.out (by omega) (by omega))
    go_wp2_with fail
    refine C2.out.mono ?_
    rintro e w2 ⟨k, rfl, _, _, hr2, hg2⟩
    have R2 := hid hr2
    have G2 := hid (grown_tr G1.out hg2)
    have O2 := hid (own_off O1.out hg2 hlt)
    have hs2 : base ≤ w2.heap.size := Nat.le_trans hs1 hg2.size
    clear hr2 hg2 C2 R1 G1 O1
    rcases Nat.eq_zero_or_pos k with hk | hk
    · subst hk
      have C3 := hid (pick_c R (p1 + 1) (ln : Int) w2 R2.out (by omega) (by omega))
      go_wp2_with fail
      refine C3.out.mono ?_
      rintro e w3 ⟨i, rfl, hi1, _, hr3, hg3⟩
      have hi : i < ln := by have := hi1 (by omega); omega
      have G3 := hid (grown_tr G2.out hg3)
      have O3 := hid (own_off O2.out hg3 hlt)
      have R3 := hid hr3
      have hs3 : base ≤ w3.heap.size := Nat.le_trans hs2 hg3.size
      have C4 := hid (pick_c R (p1 + 1 + 1) 4 w3 hr3 (by omega) (by omega))
      clear hr3 hg3 C3 R2 G2 O2 hi1
      go_wp2_with fail
      refine C4.out.mono ?_
      rintro e w4 ⟨j, rfl, hj1, _, hr4, hg4⟩
      have hj : j < 4 := by have := hj1 (by omega); omega
      have G4 := hid (grown_tr G3.out hg4)
      have O4 := hid (own_off O3.out hg4 hlt)
      have R4 := hid hr4
      have hs4 : base ≤ w4.heap.size := Nat.le_trans hs3 hg4.size
      clear hr4 hg4 C4 R3 G3 O3 hj1
      obtain ⟨x, hx⟩ : ∃ x, l[i]? = some x := ⟨_, List.getElem?_eq_getElem (by rw [hln.out]; exact hi)⟩
      have HX := hid hx
      have HFx := hid (F1.out x (List.mem_of_getElem? hx))
      clear hx
      have hi4 : i * 4 + 3 < ln * 4 := by omega
      have t0 : (0 : Int) ≤ (i : Int) := by omega
      have t1 : (i : Int) < (ln : Int) := by omega
      have t2 : ((i : Int)).toNat = i := by simp
      obtain ⟨g, rfl, hglt⟩ := own_some O4.out (by omega)
      have hgb : base ≤ g := (O4.out.lt g rfl).1
      have hgR : R < g := Nat.lt_of_lt_of_le hlt hgb
      have hgw : w.heap.size ≤ g := by rw [hbase.out]; exact hgb
      rcases (show j = 0 ∨ j = 1 ∨ j = 2 ∨ j = 3 by omega) with rfl | rfl | rfl | rfl
      · have C5 := hid (one_lit R (p1 + 1 + 1 + 1) 2 [-1, 6] w4 R4.out (by omega) rfl (by omega) (by omega) (-1) 6 (by decide))
        go_wp2_with fail
        refine C5.out.mono ?_
        rintro e w5 ⟨z, _, rfl, hr5, hg5⟩
        have G5 := hid (grown_tr G4.out hg5)
        have O5 := hid (own_off O4.out hg5 hlt)
        have R5 := hid hr5
        have hs5 : base ≤ w5.heap.size := Nat.le_trans hs4 hg5.size
        clear hr5 hg5 C5 R4 G4 O4
        obtain ⟨_, c0⟩ := own_cell O5.out (j := i * 4) (by omega)
        have f0 := O5.out.frozenAt (i * 4)
        go_wp2_with fail
        have e4 : (l.flatMap rucells).set (i * 4) (.int .i64 z) = (l.set i ⟨z, x.wd, x.md, x.ln⟩).flatMap rucells := by
          have h := flat_set rucells 4 rucells_len l i 0 x ⟨z, x.wd, x.md, x.ln⟩ (.int .i64 z) HX.out (by omega) (by first | (simp [rucells, txt_dataR]; done) | (simp [rucells]; rfl))
          rw [Nat.add_zero] at h
          exact h
        have O6 := (O5.out.stored (i * 4) (.int .i64 z)).1
        rw [e4] at O6
        go_ret
        refine ⟨_, l.set i ⟨z, x.wd, x.md, x.ln⟩, p1 + 1 + 1 + 1 + 1, rfl, by rw [List.length_set, hln.out]; omega, rfit_set F1.out HFx.out, ?_, by omega, R5.out.set (j := i * 4) (u := (.int .i64 z)) hgR, grown_at (j := i * 4) (u := (.int .i64 z)) G5.out hgw⟩
        rw [hbase.out, List.length_set, hln.out]; exact O6
      · obtain ⟨_, c0⟩ := own_cell O4.out (j := i * 4 + 1) (by omega)
        have f0 := O4.out.frozenAt (i * 4 + 1)
        go_wp2_with fail
        have e4 : (l.flatMap rucells).set (i * 4 + 1) (.string ⟨#[65]⟩) = (l.set i ⟨x.ac, [65], x.md, x.ln⟩).flatMap rucells := by
          have h := flat_set rucells 4 rucells_len l i 1 x ⟨x.ac, [65], x.md, x.ln⟩ (.string ⟨#[65]⟩) HX.out (by omega) (by first | (simp [rucells, txt_dataR]; done) | (simp [rucells]; rfl))
          skip
          exact h
        have O5 := (O4.out.stored (i * 4 + 1) (.string ⟨#[65]⟩)).1
        rw [e4] at O5
        go_ret
        refine ⟨_, l.set i ⟨x.ac, [65], x.md, x.ln⟩, p1 + 1 + 1 + 1, rfl, by rw [List.length_set, hln.out]; omega, rfit_set F1.out ⟨(show List.length [(65 : UInt8)] ≤ 20 by decide), HFx.out.2⟩, ?_, by omega, R4.out.set (j := i * 4 + 1) (u := (.string ⟨#[65]⟩)) hgR, grown_at (j := i * 4 + 1) (u := (.string ⟨#[65]⟩)) G4.out hgw⟩
        rw [hbase.out, List.length_set, hln.out]; exact O5
      · have C5 := hid (anyName_c R (p1 + 1 + 1 + 1) w4 R4.out (by omega))
        go_wp2_with fail
        refine C5.out.mono ?_
        rintro e w5 ⟨nm, p5, hnm, rfl, hp5, hr5, hg5⟩
        have G5 := hid (grown_tr G4.out hg5)
        have O5 := hid (own_off O4.out hg5 hlt)
        have R5 := hid hr5
        have hs5 : base ≤ w5.heap.size := Nat.le_trans hs4 hg5.size
        clear hr5 hg5 C5 R4 G4 O4
        obtain ⟨_, c0⟩ := own_cell O5.out (j := i * 4 + 2) (by omega)
        have f0 := O5.out.frozenAt (i * 4 + 2)
        go_wp2_with fail
        have e4 : (l.flatMap rucells).set (i * 4 + 2) (.string nm) = (l.set i ⟨x.ac, x.wd, nm.data.toList, x.ln⟩).flatMap rucells := by
          have h := flat_set rucells 4 rucells_len l i 2 x ⟨x.ac, x.wd, nm.data.toList, x.ln⟩ (.string nm) HX.out (by omega) (by first | (simp [rucells, txt_dataR]; done) | (simp [rucells]; rfl))
          skip
          exact h
        have O6 := (O5.out.stored (i * 4 + 2) (.string nm)).1
        rw [e4] at O6
        go_ret
        refine ⟨_, l.set i ⟨x.ac, x.wd, nm.data.toList, x.ln⟩, p5, rfl, by rw [List.length_set, hln.out]; omega, rfit_set F1.out ⟨HFx.out.1, by rw [← Lib.size_eq]; omega⟩, ?_, by omega, R5.out.set (j := i * 4 + 2) (u := (.string nm)) hgR, grown_at (j := i * 4 + 2) (u := (.string nm)) G5.out hgw⟩
        rw [hbase.out, List.length_set, hln.out]; exact O6
      · have C5 := hid (one_lit R (p1 + 1 + 1 + 1) 2 [-1, 1000] w4 R4.out (by omega) rfl (by omega) (by omega) (-1) 1000 (by decide))
        go_wp2_with fail
        refine C5.out.mono ?_
        rintro e w5 ⟨z, _, rfl, hr5, hg5⟩
        have G5 := hid (grown_tr G4.out hg5)
        have O5 := hid (own_off O4.out hg5 hlt)
        have R5 := hid hr5
        have hs5 : base ≤ w5.heap.size := Nat.le_trans hs4 hg5.size
        clear hr5 hg5 C5 R4 G4 O4
        obtain ⟨_, c0⟩ := own_cell O5.out (j := i * 4 + 3) (by omega)
        have f0 := O5.out.frozenAt (i * 4 + 3)
        go_wp2_with fail
        have e4 : (l.flatMap rucells).set (i * 4 + 3) (.int .i64 z) = (l.set i ⟨x.ac, x.wd, x.md, z⟩).flatMap rucells := by
          have h := flat_set rucells 4 rucells_len l i 3 x ⟨x.ac, x.wd, x.md, z⟩ (.int .i64 z) HX.out (by omega) (by first | (simp [rucells, txt_dataR]; done) | (simp [rucells]; rfl))
          skip
          exact h
        have O6 := (O5.out.stored (i * 4 + 3) (.int .i64 z)).1
        rw [e4] at O6
        go_ret
        refine ⟨_, l.set i ⟨x.ac, x.wd, x.md, z⟩, p1 + 1 + 1 + 1 + 1, rfl, by rw [List.length_set, hln.out]; omega, rfit_set F1.out HFx.out, ?_, by omega, R5.out.set (j := i * 4 + 3) (u := (.int .i64 z)) hgR, grown_at (j := i * 4 + 3) (u := (.int .i64 z)) G5.out hgw⟩
        rw [hbase.out, List.length_set, hln.out]; exact O6
    · have q0 : ((k : Int) == 0) = false := by simp; omega
      go_wp2_with fail
      go_ret
      exact ⟨_, l, p1 + 1, rfl, by rw [hln.out]; omega, F1.out, (by rw [hbase.out, hln.out]; exact O2.out), by omega, R2.out, G2.out⟩

/-- drawn: rules -/
def DrawRuls (w : World) (e : Ending) (w2 : World) : Prop := ∃ (v : Value) (l : List Rul) (n : Nat), e = .returned v ∧ w2.ownsRow w.heap.size 44 4 v n (l.flatMap rucells) ∧ Below w.heap.size w w2 ∧ rfit l ∧ l.length = n ∧ n ≤ 6
end Go.Proofs.YtaniaadmphojeaaDoor
