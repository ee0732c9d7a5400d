/-
  DRAWS: warnings; rules and warnings. By gen_e41.py.
-/
import Derived.Test.YtaniaadmphojeaaDoorE29
namespace Go.Proofs.YtaniaadmphojeaaDoor
open Go.RowKit Go.Proofs.YtaniaadmphojeaaDoor.Nm
set_option linter.unusedSimpArgs false
set_option linter.unusedVariables false

def wfit (l : List Wrn) : Prop := ∀ x ∈ l, x.tx.length ≤ 20 ∧ x.md.length ≤ 20
theorem wfit_add {l : List Wrn} {x : Wrn} (h : wfit l) (hx : x.tx.length ≤ 20 ∧ x.md.length ≤ 20) : wfit (l ++ [x]) := by
  intro y hy
  rcases List.mem_append.1 hy with hy | hy
  · exact h y hy
  · rw [List.mem_singleton.1 hy]; exact hx
theorem wfit_set {l : List Wrn} {x : Wrn} {k : Nat} (h : wfit l) (hx : x.tx.length ≤ 20 ∧ x.md.length ≤ 20) : wfit (l.set k x) := by
  intro y hy
  rcases List.mem_or_eq_of_mem_set hy with hy | rfl
  · exact h y hy
  · exact hx
/-- drawn warnings -/
def WrnsPost (R p dp m : Nat) (w : World) (e : Ending) (w' : World) : Prop :=
  ∃ (v : Value) (l : List Wrn) (p' : Nat), e = .returned v ∧ l.length ≤ m ∧ wfit l ∧ w'.ownsRow w.heap.size 53 3 v l.length (l.flatMap wncells) ∧ p' ≤ p + dp ∧ Rdr w' R p' ∧ w.grownBy w' (some R)

set_option maxHeartbeats 8000000 in
set_option maxRecDepth 100000 in
theorem someWarnings_c (R p : Nat) (w : World) (hr : Rdr w R p) (hp : p ≤ 700000) :
    Calls Tryd.prog 40 #[.pointer (some ⟨R, 0, none⟩)] w (WrnsPost R p 60 12 w) := by
  have hlt := hr.lt
  have HL := hid (World.ownsRow_lit w #[] 0 (Nat.le_refl _) (by unfold maxLen; omega) (by simp) : (w.alloc (.cells #[] 53)).ownsRow w.heap.size 53 3 (.slice (some ⟨w.heap.size, 0, none⟩) 0 0) 0 [])
  have C := hid (one_lit R p 6 [4, 3, 6, 2, 0, 12] (w.alloc (.cells #[] 53)) (hr.below ((Below.refl _ _).alloc (Nat.le_refl _) _)) (by omega) rfl (by omega) (by omega) 0 12 (by decide))
  simp only [World.size_alloc] at C
  have G0 := hid (show w.grownBy (w.alloc (.cells #[] 53)) (some R) from World.grownBy_alloc w _ _)
  clear hr
  go_enter Tryd.func40, Tryd.ntmps40
  go_wp2_with fail
  refine C.out.mono ?_
  rintro e w1 ⟨n, ⟨hn0, hn1⟩, rfl, hr1, hg1⟩
  have G1 := hid (grown_tr G0.out hg1)
  have O1 := hid (own_off HL.out hg1 hlt)
  have R1 := hid hr1
  have hs1 : w.heap.size < w1.heap.size := by have := hg1.size; simp at this; omega
  generalize hbase : w.heap.size = base at *
  replace hbase := hid hbase
  clear hr1 hg1 C HL G0
  go_wp2_with fail
  go_loopw [3, 4] (fun av nv wr => ∃ (v : Value) (q : Int) (ln : Nat) (l : List Wrn) (p' : Nat), av = v ∧ nv = .int .i64 q ∧ 0 ≤ q ∧ (ln : Int) + q ≤ 12 ∧ p' ≤ p + 1 + 4 * ln ∧ Hid (l.length = ln) ∧ Hid (wfit l) ∧ Hid (wr.ownsRow base 53 3 v ln (l.flatMap wncells)) ∧ Hid (Rdr wr R p') ∧ Hid (w.grownBy wr (some R)) ∧ base ≤ wr.heap.size) (fun _ nv _ => (intOf nv).toNat)
  case atStart => exact ⟨_, n, 0, [], p + 1, rfl, rfl, hn0, by simpa using hn1, by simp, rfl, (fun x hx => by cases hx), O1.out, R1.out, G1.out, Nat.le_of_lt hs1⟩
  case round =>
    clear O1 R1 G1 hs1
    rename World => wr
    obtain ⟨v, q, ln, l, p', rfl, rfl, hq0, hq1, hp', hln, HF, HO, HR, HG, hsz⟩ := hrel
    obtain ⟨A, c, rfl, hnc, hcm⟩ := (Sl.of_own HO.out).form
    unfold maxLen at hcm
    by_cases hq : 0 < q
    · have C1 := hid (aWarning_c R p' wr HR.out (by omega))
      go_wp2_with fail
      refine C1.out.mono ?_
      rintro e w2 ⟨tx, md, li, p2, hf2, rfl, hp2, hr2, hg2⟩
      have R2 := hid hr2
      have G2 := hid (grown_tr HG.out hg2)
      have O2 := hid (own_off HO.out hg2 (by omega))
      have hs2 : base ≤ w2.heap.size := Nat.le_trans hsz hg2.size
      clear hr2 hg2 C1 HO HR HG
      have HOx := hid (show w2.ownsRow base 53 3 _ l.length (l.flatMap wncells) from by rw [hln.out]; exact O2.out)
      have hl9 : l.length ≤ 1048576 := by rw [hln.out]; omega
      go_wp2_with (at_builtin; refine appWarning _ rfl (.tmp 14) (.tmp 17) rfl base _ l (by rfl) HOx.out tx md li _ _ _ (by rfl) (by simp) hl9 hs2 ?_)
      intro v5 w5 ho5 hb5
      have O5 := hid (own_snoc ho5)
      have R5 := hid (Rdr.low R2.out hb5 hlt)
      have G5 := hid (show w.grownBy w5 (some R) from grown_low G2.out (by rw [hbase.out]; exact hb5))
      have hs5 : base ≤ w5.heap.size := Nat.le_trans hs2 hb5.size
      clear ho5 hb5
      go_wp2_with fail
      go_roundw
      case rel => exact ⟨_, q - 1, ln + 1, l ++ [(⟨tx.data.toList, md.data.toList, li⟩ : Wrn)], p2, rfl, by go_num, by omega, by omega, by omega, (by show List.length _ = _; rw [List.length_append, hln.out]; rfl), wfit_add HF.out (by rw [← Lib.size_eq, ← Lib.size_eq]; exact hf2), (by show World.ownsRow _ _ _ _ _ _ _; have h := O5.out; rw [List.length_append, hln.out] at h; exact h), R5.out, G5.out, hs5⟩
      case measure => simp [intOf]; omega
    · obtain rfl : q = 0 := by omega
      have hl12 : ln ≤ 12 := by omega
      rcases Nat.eq_zero_or_pos ln with hz | hz
      · subst hz
        go_wp2_with fail
        go_ret
        exact ⟨_, l, p', rfl, by rw [hln.out]; omega, HF.out, (by rw [hbase.out, hln.out]; exact HO.out), by omega, HR.out, HG.out⟩
      · have hzi : decide ((0 : Int) < (ln : Int)) = true := by simp; omega
        have hzj : (0 : Int) < (ln : Int) := by omega
        have C2 := hid (pick_c R p' 24 wr HR.out (by omega) (by omega))
        go_wp2_with fail
        refine C2.out.mono ?_
        rintro e w2 ⟨k, rfl, _, _, hr2, hg2⟩
        have R2 := hid hr2
        have G2 := hid (grown_tr HG.out hg2)
        have O2 := hid (own_off HO.out hg2 hlt)
        have hs2 : base ≤ w2.heap.size := Nat.le_trans hsz hg2.size
        clear hr2 hg2 C2 HR HG HO
        rcases Nat.eq_zero_or_pos k with hk | hk
        · subst hk
          have C3 := hid (pick_c R (p' + 1) (ln : Int) w2 R2.out (by omega) (by omega))
          go_wp2_with fail
          refine C3.out.mono ?_
          rintro e w3 ⟨i, rfl, hi1, _, hr3, hg3⟩
          have hi : i < ln := by have := hi1 (by omega); omega
          have G3 := hid (grown_tr G2.out hg3)
          have O3 := hid (own_off O2.out hg3 hlt)
          have R3 := hid hr3
          have hs3 : base ≤ w3.heap.size := Nat.le_trans hs2 hg3.size
          have C4 := hid (pick_c R (p' + 1 + 1) 3 w3 hr3 (by omega) (by omega))
          clear hr3 hg3 C3 R2 G2 O2 hi1
          go_wp2_with fail
          refine C4.out.mono ?_
          rintro e w4 ⟨j, rfl, hj1, _, hr4, hg4⟩
          have hj : j < 3 := by have := hj1 (by omega); omega
          have G4 := hid (grown_tr G3.out hg4)
          have O4 := hid (own_off O3.out hg4 hlt)
          have R4 := hid hr4
          have hs4 : base ≤ w4.heap.size := Nat.le_trans hs3 hg4.size
          clear hr4 hg4 C4 R3 G3 O3 hj1
          obtain ⟨x, hx⟩ : ∃ x, l[i]? = some x := ⟨_, List.getElem?_eq_getElem (by rw [hln.out]; exact hi)⟩
          have HX := hid hx
          have HFx := hid (HF.out x (List.mem_of_getElem? hx))
          clear hx
          have hi4 : i * 3 + 2 < ln * 3 := by omega
          have t0 : (0 : Int) ≤ (i : Int) := by omega
          have t1 : (i : Int) < (ln : Int) := by omega
          have t2 : ((i : Int)).toNat = i := by simp
          obtain ⟨g, rfl, hglt⟩ := own_some O4.out (by omega)
          have hgb : base ≤ g := (O4.out.lt g rfl).1
          have hgR : R < g := Nat.lt_of_lt_of_le hlt hgb
          have hgw : w.heap.size ≤ g := by rw [hbase.out]; exact hgb
          rcases (show j = 0 ∨ j = 1 ∨ j = 2 by omega) with rfl | rfl | rfl
          · obtain ⟨_, c0⟩ := own_cell O4.out (j := i * 3) (by omega)
            have f0 := O4.out.frozenAt (i * 3)
            go_wp2_with fail
            have e4 : (l.flatMap wncells).set (i * 3) (.string ⟨#[65]⟩) = (l.set i ⟨[65], x.md, x.ln⟩).flatMap wncells := by
              have h := flat_set wncells 3 wncells_len l i 0 x ⟨[65], x.md, x.ln⟩ (.string ⟨#[65]⟩) HX.out (by omega) (by first | (simp [wncells, txt_dataR]; done) | (simp [wncells]; rfl))
              rw [Nat.add_zero] at h
              exact h
            have O5 := (O4.out.stored (i * 3) (.string ⟨#[65]⟩)).1
            rw [e4] at O5
            go_ret
            refine ⟨_, l.set i ⟨[65], x.md, x.ln⟩, p' + 1 + 1 + 1, rfl, by rw [List.length_set, hln.out]; omega, wfit_set HF.out ⟨(show List.length [(65 : UInt8)] ≤ 20 by decide), HFx.out.2⟩, ?_, by omega, R4.out.set (j := i * 3) (u := (.string ⟨#[65]⟩)) hgR, grown_at (j := i * 3) (u := (.string ⟨#[65]⟩)) G4.out hgw⟩
            rw [hbase.out, List.length_set, hln.out]; exact O5
          · have C5 := hid (anyName_c R (p' + 1 + 1 + 1) w4 R4.out (by omega))
            go_wp2_with fail
            refine C5.out.mono ?_
            rintro e w5 ⟨nm, p5, hnm, rfl, hp5, hr5, hg5⟩
            have G5 := hid (grown_tr G4.out hg5)
            have O5 := hid (own_off O4.out hg5 hlt)
            have R5 := hid hr5
            have hs5 : base ≤ w5.heap.size := Nat.le_trans hs4 hg5.size
            clear hr5 hg5 C5 R4 G4 O4
            obtain ⟨_, c0⟩ := own_cell O5.out (j := i * 3 + 1) (by omega)
            have f0 := O5.out.frozenAt (i * 3 + 1)
            go_wp2_with fail
            have e4 : (l.flatMap wncells).set (i * 3 + 1) (.string nm) = (l.set i ⟨x.tx, nm.data.toList, x.ln⟩).flatMap wncells := by
              have h := flat_set wncells 3 wncells_len l i 1 x ⟨x.tx, nm.data.toList, x.ln⟩ (.string nm) HX.out (by omega) (by first | (simp [wncells, txt_dataR]; done) | (simp [wncells]; rfl))
              skip
              exact h
            have O6 := (O5.out.stored (i * 3 + 1) (.string nm)).1
            rw [e4] at O6
            go_ret
            refine ⟨_, l.set i ⟨x.tx, nm.data.toList, x.ln⟩, p5, rfl, by rw [List.length_set, hln.out]; omega, wfit_set HF.out ⟨HFx.out.1, by rw [← Lib.size_eq]; omega⟩, ?_, by omega, R5.out.set (j := i * 3 + 1) (u := (.string nm)) hgR, grown_at (j := i * 3 + 1) (u := (.string nm)) G5.out hgw⟩
            rw [hbase.out, List.length_set, hln.out]; exact O6
          · have C5 := hid (one_lit R (p' + 1 + 1 + 1) 2 [0, 1000] w4 R4.out (by omega) rfl (by omega) (by omega) 0 1000 (by decide))
            go_wp2_with fail
            refine C5.out.mono ?_
            rintro e w5 ⟨z, _, rfl, hr5, hg5⟩
            have G5 := hid (grown_tr G4.out hg5)
            have O5 := hid (own_off O4.out hg5 hlt)
            have R5 := hid hr5
            have hs5 : base ≤ w5.heap.size := Nat.le_trans hs4 hg5.size
            clear hr5 hg5 C5 R4 G4 O4
            obtain ⟨_, c0⟩ := own_cell O5.out (j := i * 3 + 2) (by omega)
            have f0 := O5.out.frozenAt (i * 3 + 2)
            go_wp2_with fail
            have e4 : (l.flatMap wncells).set (i * 3 + 2) (.int .i64 z) = (l.set i ⟨x.tx, x.md, z⟩).flatMap wncells := by
              have h := flat_set wncells 3 wncells_len l i 2 x ⟨x.tx, x.md, z⟩ (.int .i64 z) HX.out (by omega) (by first | (simp [wncells, txt_dataR]; done) | (simp [wncells]; rfl))
              skip
              exact h
            have O6 := (O5.out.stored (i * 3 + 2) (.int .i64 z)).1
            rw [e4] at O6
            go_ret
            refine ⟨_, l.set i ⟨x.tx, x.md, z⟩, p' + 1 + 1 + 1 + 1, rfl, by rw [List.length_set, hln.out]; omega, wfit_set HF.out HFx.out, ?_, by omega, R5.out.set (j := i * 3 + 2) (u := (.int .i64 z)) hgR, grown_at (j := i * 3 + 2) (u := (.int .i64 z)) G5.out hgw⟩
            rw [hbase.out, List.length_set, hln.out]; exact O6
        · have q0 : ((k : Int) == 0) = false := by simp; omega
          go_wp2_with fail
          go_ret
          exact ⟨_, l, p' + 1, rfl, by rw [hln.out]; omega, HF.out, (by rw [hbase.out, hln.out]; exact O2.out), by omega, R2.out, G2.out⟩

/-- drawn: warnings -/
def DrawWrns (w : World) (e : Ending) (w2 : World) : Prop := ∃ (v : Value) (l : List Wrn) (n : Nat), e = .returned v ∧ w2.ownsRow w.heap.size 53 3 v n (l.flatMap wncells) ∧ Below w.heap.size w w2 ∧ wfit l ∧ l.length = n ∧ n ≤ 12
set_option maxHeartbeats 4000000 in
set_option maxRecDepth 100000 in
theorem drawValidWarnings_c (a : Option Addr) (len cap : Nat) (z : List Int) (w : World) (h : IsRow .u8 w a len cap z) :
    Calls Tryd.prog 20 #[.slice a len cap] w (DrawWrns w) := by
  have C := hid (newReader_c a len cap z w h)
  clear h
  go_enter Tryd.func20, Tryd.ntmps20
  go_wp2_with fail
  refine C.out.mono ?_
  rintro e w1 ⟨rfl, hr1, hb1⟩
  have HB1 := hid hb1
  have hltw : w.heap.size < w1.heap.size := hr1.lt
  have C1 := hid (someWarnings_c w.heap.size 0 w1 hr1 (by omega))
  clear hr1 hb1 C
  go_wp2_with fail
  refine C1.out.mono ?_
  rintro e w2 ⟨v, l, p2, rfl, hl1, hf1, ho2, hp2, hr2, hg2⟩
  have O2 := hid (own_base ho2 HB1.out.size)
  have HB2 := hid (HB1.out.trans (below_own hg2 HB1.out.size (Nat.le_refl _)))
  have F2 := hid hf1
  clear ho2 hr2 hg2 hf1 C1
  go_wp2_with fail
  go_ret
  exact ⟨v, l, l.length, rfl, O2.out, HB2.out, F2.out, rfl, hl1⟩

/-- a row, and one that came behind it -/
theorem Rows.two_own {w w' : World} {lo R n m d d' : Nat} {t t' : TypeId} {v v' : Value} {xs ys : List Value} (h : w.ownsRow lo t d v n xs) (hg : w.grownBy w' (some R)) (hR : R < lo) (h2 : w'.ownsRow w.heap.size t' d' v' m ys) (hl : lo ≤ w.heap.size) :
    Rows w' lo [⟨t, d, n, v, xs⟩, ⟨t', d', m, v', ys⟩] := by
  have o1 := own_off h hg hR
  have o2 := own_base h2 hl
  refine ⟨fun r hr => ?_, List.pairwise_cons.2 ⟨fun b hb => ?_, List.pairwise_singleton _ _⟩⟩
  · rcases List.mem_cons.1 hr with rfl | hr
    · exact o1
    · rw [List.mem_singleton.1 hr]; exact o2
  · rw [List.mem_singleton.1 hb]
    exact row_apart (show Row.own w lo ⟨t, d, n, v, xs⟩ from h) (show Row.own w' w.heap.size ⟨t', d', m, v', ys⟩ from h2)

/-- drawn: rules and warnings -/
def DrawRulsWrns (w : World) (e : Ending) (w2 : World) : Prop := ∃ (v v2 : Value) (rs : List Rul) (l : List Wrn), e = .returned (.tuple #[v, v2]) ∧ Rows w2 w.heap.size [⟨44, 4, rs.length, v, rs.flatMap rucells⟩, ⟨53, 3, l.length, v2, l.flatMap wncells⟩] ∧ Below w.heap.size w w2 ∧ rfit rs ∧ rs.length ≤ 6 ∧ wfit l ∧ l.length ≤ 12
set_option maxHeartbeats 4000000 in
set_option maxRecDepth 100000 in
theorem drawShowWarnings_c (a : Option Addr) (len cap : Nat) (z : List Int) (w : World) (h : IsRow .u8 w a len cap z) :
    Calls Tryd.prog 23 #[.slice a len cap] w (DrawRulsWrns w) := by
  have C := hid (newReader_c a len cap z w h)
  clear h
  go_enter Tryd.func23, Tryd.ntmps23
  go_wp2_with fail
  refine C.out.mono ?_
  rintro e w1 ⟨rfl, hr1, hb1⟩
  have HB1 := hid hb1
  have hltw : w.heap.size < w1.heap.size := hr1.lt
  have C1 := hid (someRules_c w.heap.size 0 w1 hr1 (by omega))
  clear hr1 hb1 C
  go_wp2_with fail
  refine C1.out.mono ?_
  rintro e w2 ⟨v, rs, p2, rfl, hl1, hf1, ho2, hp2, hr2, hg2⟩
  obtain ⟨A1, c1, rfl, -, -⟩ := (Sl.of_own ho2).form
  have O2 := hid ho2
  have G2 := hid hg2
  have F1 := hid hf1
  have hs2 : w1.heap.size ≤ w2.heap.size := hg2.size
  have C2 := hid (someWarnings_c w.heap.size p2 w2 hr2 (by omega))
  clear ho2 hr2 hg2 hf1 C1
  go_wp2_with fail
  refine C2.out.mono ?_
  rintro e w3 ⟨v, l, p3, rfl, hl2, hf2, ho3, hp3, hr3, hg3⟩
  obtain ⟨A2, c2, rfl, -, -⟩ := (Sl.of_own ho3).form
  have HB3 := hid (HB1.out.trans (below_own (grown_tr G2.out hg3) HB1.out.size (Nat.le_refl _)))
  have HRW := hid (show Rows w3 w1.heap.size [⟨44, 4, rs.length, .slice A1 rs.length c1, rs.flatMap rucells⟩, ⟨53, 3, l.length, .slice A2 l.length c2, l.flatMap wncells⟩] from by
    have h9 := Rows.two_own O2.out hg3 hltw ho3 hs2
    exact h9)
  have F2 := hid hf2
  clear hr3 hg3 hf2 C2 O2 G2 ho3
  go_wp2_with fail
  refine bodyPost_ret (v := .tuple #[.slice A1 rs.length c1, .slice A2 l.length c2]) (by simp [results, Tryd.results23, go_sem]) rfl ?_
  exact ⟨_, _, rs, l, rfl, HRW.out.base HB1.out.size, HB3.out, F1.out, hl1, F2.out, hl2⟩
end Go.Proofs.YtaniaadmphojeaaDoor
