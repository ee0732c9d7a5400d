/-
  WALK: the law FnDropCovered. By gen_dropcov.py.
-/
import Derived.Test.YtochbjockoenpaaDoorE30
import Derived.Test.YtochbjockoenpaaDoorEqRule
namespace Go.Proofs.YtochbjockoenpaaDoor
open Go.RowKit Go.Proofs.YtochbjockoenpaaDoor.Nm
set_option linter.unusedSimpArgs false
set_option linter.unusedVariables false
def covWs : List Wrn := [⟨[120], [97], 1⟩, ⟨[110, 111], [97, 46, 98], 2⟩, ⟨[110, 111, 32, 120], [98], 1⟩, ⟨[120], [97, 46, 98], 3⟩, ⟨[], [], 2⟩]
theorem covWs_lit (W : World) : (W.alloc (.cells #[.string ⟨#[120]⟩, .string ⟨#[97]⟩, .int .i64 1, .string ⟨#[110, 111]⟩, .string ⟨#[97, 46, 98]⟩, .int .i64 2, .string ⟨#[110, 111, 32, 120]⟩, .string ⟨#[98]⟩, .int .i64 1, .string ⟨#[120]⟩, .string ⟨#[97, 46, 98]⟩, .int .i64 3, .string ⟨#[]⟩, .string ⟨#[]⟩, .int .i64 2] 29)).ownsRow W.heap.size 29 3 (.slice (some ⟨W.heap.size, 0, none⟩) 5 5) 5 (covWs.flatMap wncells) := by
  exact World.ownsRow_lit (e := 29) (size := 3) (base := W.heap.size) W #[.string ⟨#[120]⟩, .string ⟨#[97]⟩, .int .i64 1, .string ⟨#[110, 111]⟩, .string ⟨#[97, 46, 98]⟩, .int .i64 2, .string ⟨#[110, 111, 32, 120]⟩, .string ⟨#[98]⟩, .int .i64 1, .string ⟨#[120]⟩, .string ⟨#[97, 46, 98]⟩, .int .i64 3, .string ⟨#[]⟩, .string ⟨#[]⟩, .int .i64 2] 5 (Nat.le_refl _) (by unfold maxLen; omega) rfl
theorem covWs_fit : ∀ x ∈ covWs, wncellsFit x := by
  intro x hx
  simp only [covWs, List.mem_cons, List.not_mem_nil, or_false] at hx
  rcases hx with rfl | rfl | rfl | rfl | rfl <;> exact ⟨by show _ ≤ 1048576; simp, by show _ ≤ 1048576; simp⟩
theorem dropCov_mem {l : List Rul} : ∀ x ∈ dropCov l, x ∈ l := by
  intro x hx
  by_cases h : rulsOk l = true
  · rw [dropCov_kept h] at hx
    exact List.mem_of_mem_take (kept_mem (Nat.le_refl _) x hx)
  · unfold dropCov at hx
    rw [if_neg h] at hx; cases hx

set_option maxHeartbeats 8000000 in
set_option maxRecDepth 100000 in
theorem walk_FnDropCovered (a0 : Option Addr) (len0 cap0 : Nat) (z0 : List Int) (w : World) (w0 : IsRow .u8 w a0 len0 cap0 z0) :
    Calls Tryd.prog 3 #[.slice a0 len0 cap0] w (BoolPost w true) := by
  have hb0 := w0.leW
  by_cases h1 : (1048576 : Int) < (len0 : Int)
  · go_enter Tryd.func3, Tryd.ntmps3
    go_wp2_with fail
    go_ret
    exact ⟨rfl, Below.refl _ _⟩
  have DR := hid (drawDropCovered_c a0 len0 cap0 z0 w w0)
  clear w0
  go_enter Tryd.func3, Tryd.ntmps3
  go_wp2_with fail
  refine DR.out.mono ?_
  rintro e w1 ⟨v, l, n, rfl, hof, hb, hrf, hln, hn6⟩
  obtain ⟨A, c, rfl, _, hcm⟩ := (Sl.of_own hof).form
  unfold maxLen at hcm
  have F1 := hid (show Ruls w1 w1.heap.size n (.slice A n c) l from ⟨Sl.of_own hof, fun f hf => by have := hrf f hf; unfold rucellsFit maxTxt; omega⟩)
  have HB := hid hb
  have CV := hid (fun (W : World) (hW : Below w1.heap.size w1 W) => implValidRules_c (.slice A n c) n w1.heap.size l W (F1.out.below hW (Nat.le_refl _)) hW.size)
  have CI := hid (fun (W : World) (hW : Below w1.heap.size w1 W) => implDropCovered_c (.slice A n c) n w1.heap.size l W (F1.out.below hW (Nat.le_refl _)) hW.size (by unfold maxTxt; omega))
  have CS := hid (fun (W : World) (hW : Below w1.heap.size w1 W) => specDropCovered_c (.slice A n c) n w1.heap.size l W (F1.out.below hW (Nat.le_refl _)) hW.size (by unfold maxTxt; omega))
  have HM := hid (And.intro (dropCov_len l) (And.intro (@dropCov_mem l) (And.intro hln (And.intro (@dropCov_le l) (And.intro (@dropCov_again l) (@rule_kept l))))))
  have HD := hid (show dropCov l = dropCov l from rfl)
  generalize hdl : dropCov l = dl at CI CS HM
  replace hdl := hid hdl
  generalize hm : dl.length = m at CI CS HM
  replace hm := hid hm
  have hm6 : m ≤ 6 := HM.out.1
  have HW1 := hid (Below.refl w1.heap.size w1)
  clear hof hb hrf hln DR HD
  go_wp2_with fail
  refine (CI.out _ HW1.out).mono ?_
  rintro e w2 ⟨v2, rfl, ho2, hb⟩
  obtain ⟨A2, c2, rfl, _, hcm2⟩ := (Sl.of_own ho2).form
  unfold maxLen at hcm2
  have HW2 := hid (HW1.out.trans hb)
  have O2 := hid (show Ruls w2 w2.heap.size m (.slice A2 m c2) dl from ⟨Sl.of_own ho2, fun x hx => F1.out.2 x (HM.out.2.1 x hx)⟩)
  have CE := hid (fun (W : World) (hW : Below w2.heap.size w2 W) (v3 : Value) (h3 : Sl W W.heap.size 4 m v3 (dl.flatMap rucells)) => equalRules_c (.slice A2 m c2) v3 m W.heap.size dl W ((O2.out.1.below hW (Nat.le_refl _)).more hW.size) h3 (Nat.le_refl _))
  have CF := hid (fun (W : World) (hW : Below w2.heap.size w2 W) (v3 : Value) (h3 : Sl W W.heap.size 4 m v3 (dl.flatMap rucells)) => equalRules_c v3 (.slice A2 m c2) m W.heap.size dl W h3 ((O2.out.1.below hW (Nat.le_refl _)).more hW.size) (Nat.le_refl _))
  have HX2 := hid (Below.refl w2.heap.size w2)
  clear hb ho2
  go_wp2_with fail
  refine (CS.out _ HW2.out).mono ?_
  rintro e w3 ⟨v3, rfl, ho3, hb⟩
  obtain ⟨A3, c3, rfl, _, hcm3⟩ := (Sl.of_own ho3).form
  unfold maxLen at hcm3
  have HW3 := hid (HW2.out.trans (hb.mono HW2.out.size))
  have HX3 := hid (HX2.out.trans hb)
  have O3 := hid (Sl.of_own ho3)
  clear hb ho3
  go_wp2_with fail
  refine (CE.out _ HX3.out _ O3.out).mono ?_
  rintro e w4 ⟨rfl, hb⟩
  have HW4 := hid (HW3.out.trans (hb.mono HW3.out.size))
  have HX4 := hid (HX3.out.trans (hb.mono HX3.out.size))
  clear hb
  generalize hok : rulsOk l = ok at CV
  replace hok := hid hok
  go_wp2_with fail
  refine (CV.out _ HW4.out).mono ?_
  rintro e w5 ⟨rfl, hb⟩
  have HW5 := hid (HW4.out.trans (hb.mono HW4.out.size))
  have HX5 := hid (HX4.out.trans (hb.mono HX4.out.size))
  clear hb
  cases ok with
  | false =>
    go_wp2_with fail
    refine (CS.out _ HW5.out).mono ?_
    rintro e w6 ⟨v6, rfl, ho6, hb⟩
    obtain ⟨A6, c6, rfl, _, hcm6⟩ := (Sl.of_own ho6).form
    unfold maxLen at hcm6
    have HW6 := hid (HW5.out.trans (hb.mono HW5.out.size))
    have HX6 := hid (HX5.out.trans (hb.mono HX5.out.size))
    have O6 := hid (Sl.of_own ho6)
    clear hb ho6
    go_wp2_with fail
    refine (CE.out _ HX6.out _ O6.out).mono ?_
    rintro e w7 ⟨rfl, hb⟩
    have HW7 := hid (HW6.out.trans (hb.mono HW6.out.size))
    clear hb
    go_wp2_with fail
    go_ret
    exact ⟨rfl, HB.out.trans (HW7.out.mono HB.out.size)⟩
  | true =>
    obtain ⟨_, HP1, hln, HP3, HP4, HP5⟩ := HM.out
    have hmn : (m : Int) ≤ (n : Int) := by have := HP3 hok.out; omega
    have hag : dropCov dl = dl := HP4 hok.out
    have HR := hid (HP5 hok.out)
    have HB5 := hid (show Below w5.heap.size w5 (w5.alloc (.cells #[.string ⟨#[120]⟩, .string ⟨#[97]⟩, .int .i64 1, .string ⟨#[110, 111]⟩, .string ⟨#[97, 46, 98]⟩, .int .i64 2, .string ⟨#[110, 111, 32, 120]⟩, .string ⟨#[98]⟩, .int .i64 1, .string ⟨#[120]⟩, .string ⟨#[97, 46, 98]⟩, .int .i64 3, .string ⟨#[]⟩, .string ⟨#[]⟩, .int .i64 2] 29)) from (Below.refl _ _).alloc (Nat.le_refl _) _)
    have HL := hid (show Ruls w5 w5.heap.size n (.slice A n c) l from (F1.out.below HW5.out (Nat.le_refl _)).more HW5.out.size)
    have HO := hid (show Ruls w5 w5.heap.size m (.slice A2 m c2) dl from (O2.out.below HX5.out (Nat.le_refl _)).more HX5.out.size)
    have FS := hid (show Wrns (w5.alloc (.cells #[.string ⟨#[120]⟩, .string ⟨#[97]⟩, .int .i64 1, .string ⟨#[110, 111]⟩, .string ⟨#[97, 46, 98]⟩, .int .i64 2, .string ⟨#[110, 111, 32, 120]⟩, .string ⟨#[98]⟩, .int .i64 1, .string ⟨#[120]⟩, .string ⟨#[97, 46, 98]⟩, .int .i64 3, .string ⟨#[]⟩, .string ⟨#[]⟩, .int .i64 2] 29)) (w5.alloc (.cells #[.string ⟨#[120]⟩, .string ⟨#[97]⟩, .int .i64 1, .string ⟨#[110, 111]⟩, .string ⟨#[97, 46, 98]⟩, .int .i64 2, .string ⟨#[110, 111, 32, 120]⟩, .string ⟨#[98]⟩, .int .i64 1, .string ⟨#[120]⟩, .string ⟨#[97, 46, 98]⟩, .int .i64 3, .string ⟨#[]⟩, .string ⟨#[]⟩, .int .i64 2] 29)).heap.size 5 (.slice (some ⟨w5.heap.size, 0, none⟩) 5 5) covWs from ⟨Sl.of_own (covWs_lit w5), covWs_fit⟩)
    have HX6 := hid (HX5.out.trans (HB5.out.mono HX5.out.size))
    have HW6 := hid (HW5.out.trans (HB5.out.mono HW5.out.size))
    have GL := hid (HL.out.below HB5.out (Nat.le_refl _) |>.more HB5.out.size)
    have GO := hid (HO.out.below HB5.out (Nat.le_refl _) |>.more HB5.out.size)
    clear HP1 HP3 HP4 HP5 CS CV CI HM HL HO O3 HX2 HX3 HX4 HW1 HW2 HW3 HW4
    replace hln := hid hln
    replace hag := hid hag
    go_wp2_with fail
    generalize hrb : w5.heap.size = rb at *
    generalize w5.alloc (.cells #[.string ⟨#[120]⟩, .string ⟨#[97]⟩, .int .i64 1, .string ⟨#[110, 111]⟩, .string ⟨#[97, 46, 98]⟩, .int .i64 2, .string ⟨#[110, 111, 32, 120]⟩, .string ⟨#[98]⟩, .int .i64 1, .string ⟨#[120]⟩, .string ⟨#[97, 46, 98]⟩, .int .i64 3, .string ⟨#[]⟩, .string ⟨#[]⟩, .int .i64 2] 29) = w6 at *
    clear hrb HB5
    go_loopw [6] (fun kv wr => ∃ k : Nat, kv = .int .i64 k ∧ k ≤ 5 ∧ Hid (Below w6.heap.size w6 wr)) (fun kv _ => 5 - (intOf kv).toNat)
    case atStart => exact ⟨0, rfl, Nat.zero_le _, Below.refl _ _⟩
    case round =>
      obtain ⟨k, rfl, hk, HWr⟩ := hrel
      by_cases hkn : k < 5
      · obtain ⟨b, o, tx, md, ln, e9, hbB, hx, c0, c1, c2'⟩ := wncells_at (FS.out.below HWr.out (Nat.le_refl _)).1 hkn
        injection e9 with e9
        injection e9 with e91 e92
        subst e91 e92
        have hft := wncells_fit FS.out.2 hx
        have C1 := hid (implRuleOf_c (.slice A n c) n w6.heap.size l tx md ln wr (GL.out.below HWr.out (Nat.le_refl _)) HWr.out.size hft.1 hft.2)
        have C2 := hid (fun (W : World) (hW : Below wr.heap.size wr W) => implRuleOf_c (.slice A2 m c2) m w6.heap.size dl tx md ln W (GO.out.below (HWr.out.trans (hW.mono HWr.out.size)) (Nat.le_refl _)) (HWr.out.trans (hW.mono HWr.out.size)).size hft.1 hft.2)
        have R9 := hid (HR.out ⟨tx.data.toList, md.data.toList, ln⟩)
        have d0 := c0
        have d1 := c1
        have d2 := c2'
        generalize ruleX l ⟨tx.data.toList, md.data.toList, ln⟩ = zi at *
        generalize ruleX dl ⟨tx.data.toList, md.data.toList, ln⟩ = zj at *
        clear hx hft HR
        simp only [Nat.zero_add] at c0 c1 c2' d0 d1 d2
        go_wp2_with fail
        refine C1.out.mono ?_
        rintro e w7 ⟨rfl, hb⟩
        replace c0 := (hb.cell (p := ⟨rb, k * 3, none⟩) (World.block_lt_of_cell? _ _ c0)).trans c0
        replace c1 := (hb.cell (p := ⟨rb, k * 3 + 1, none⟩) (World.block_lt_of_cell? _ _ c1)).trans c1
        replace c2' := (hb.cell (p := ⟨rb, k * 3 + 2, none⟩) (World.block_lt_of_cell? _ _ c2')).trans c2'
        clear d0 d1 d2
        have H7 := hid hb
        clear hb
        go_wp2_with fail
        refine (C2.out _ H7.out).mono ?_
        rintro e w8 ⟨rfl, hb⟩
        have H8 := hid (HWr.out.trans ((H7.out.trans (hb.mono H7.out.size)).mono HWr.out.size))
        clear hb C1 C2 c0 c1 c2' H7
        rcases R9.out with ⟨rfl, rfl⟩ | ⟨i, j, x, rfl, rfl, hi, hj⟩
        · clear R9
          go_wp2_with fail
          go_quiet (fail)
          go_wp2_with fail
          go_roundw
          case rel => exact ⟨k + 1, by go_num, by omega, below_dr H8.out _⟩
          case measure => simp [intOf]; omega
        · have hin : i < n := by rw [← hln.out]; exact (List.getElem?_eq_some_iff.1 hi).1
          have hjm : j < m := by rw [← hm.out]; exact (List.getElem?_eq_some_iff.1 hj).1
          obtain ⟨b1, o1, ac, wd, rm, rl, rfl, hb1, hx1, g0, g1, g2, g3⟩ := rucells_at (GL.out.below H8.out (Nat.le_refl _)).1 hin
          obtain ⟨b2, o2, ac', wd', rm', rl', rfl, hb2, hx2, g0', g1', g2', g3'⟩ := rucells_at (GO.out.below H8.out (Nat.le_refl _)).1 hjm
          rw [hi] at hx1
          rw [hj] at hx2
          have hx3 := (Option.some.inj hx1).symm.trans (Option.some.inj hx2)
          simp only [Rul.mk.injEq, bytes_eq_iff] at hx3
          obtain ⟨rfl, rfl, rfl, rfl⟩ := hx3
          have q1 : ¬ (i : Int) < 0 := by omega
          have q2 : ¬ (j : Int) < 0 := by omega
          have q3 : (0 : Int) ≤ (i : Int) := by omega
          clear hi hj hx1 hx2 R9
          go_wp2_with fail
          go_quiet (fail)
          go_wp2_with fail
          go_roundw
          case rel => exact ⟨k + 1, by go_num, by omega, below_dr H8.out _⟩
          case measure => simp [intOf]; omega
      · clear FS HR
        have CD := hid (implDropCovered_c (.slice A2 m c2) m w6.heap.size dl wr (GO.out.below HWr.out (Nat.le_refl _)) HWr.out.size (by unfold maxTxt; omega))
        rw [hag.out, hm.out] at CD
        have HXr := hid (HX6.out.trans (HWr.out.mono HX6.out.size))
        have HWw := hid (HW6.out.trans (HWr.out.mono HW6.out.size))
        go_wp2_with fail
        refine CD.out.mono ?_
        rintro e w7 ⟨v7, rfl, ho7, hb⟩
        obtain ⟨A7, c7, rfl, _, hcm7⟩ := (Sl.of_own ho7).form
        unfold maxLen at hcm7
        have HX7 := hid (HXr.out.trans (hb.mono HXr.out.size))
        have HW7 := hid (HWw.out.trans (hb.mono HWw.out.size))
        have O7 := hid (Sl.of_own ho7)
        clear hb ho7 CD
        go_wp2_with fail
        refine (CF.out _ HX7.out _ O7.out).mono ?_
        rintro e w8 ⟨rfl, hb⟩
        have HW8 := hid (HW7.out.trans (hb.mono HW7.out.size))
        clear hb
        go_wp2_with fail
        go_ret
        exact ⟨ret_bool (by simp), HB.out.trans (HW8.out.mono HB.out.size)⟩
end Go.Proofs.YtochbjockoenpaaDoor
