/-
  DRAWS: fields. By gen_d15.py.
-/
import Derived.Test.YtecfdooibejemaaD0
import Derived.Test.YtecfdooibejemaaR12
namespace Go.Proofs.Ytecfdooibejemaa
open Go.RowKit Nm
set_option linter.unusedSimpArgs false
set_option linter.unusedVariables false

theorem txt_dataF (p : ByteArray) : txt p.data.toList = .string p := by simp [txt]
abbrev ffitF (l : List Fld) : Prop := ∀ x ∈ l, x.ky.length ≤ 20 ∧ x.vl.length ≤ 20
theorem ffitF_add {l : List Fld} {x : Fld} (h : ffitF l) (hx : x.ky.length ≤ 20 ∧ x.vl.length ≤ 20) : ffitF (l ++ [x]) := by
  intro y hy
  rcases List.mem_append.1 hy with hy | hy
  · exact h y hy
  · rw [List.mem_singleton.1 hy]; exact hx
theorem ffitF_set {l : List Fld} {x : Fld} {k : Nat} (h : ffitF l) (hx : x.ky.length ≤ 20 ∧ x.vl.length ≤ 20) : ffitF (l.set k x) := by
  intro y hy
  rcases List.mem_or_eq_of_mem_set hy with hy | rfl
  · exact h y hy
  · exact hx
theorem ffitF_in {w : World} {B n : Nat} {v : Value} {l : List Fld} (h : Sl w B 2 n v (l.flatMap fdcells)) (hf : ffitF l) : Flds w B n v l := ⟨h, fun x hx => by have := hf x hx; unfold fdcellsFit maxTxt; omega⟩
def FldsPost (R p dp m : Nat) (w : World) (e : Ending) (w' : World) : Prop :=
  ∃ (v : Value) (l : List Fld) (p' : Nat), e = .returned v ∧ l.length ≤ m ∧ ffitF l ∧ w'.ownsRow w.heap.size 69 2 v l.length (l.flatMap fdcells) ∧ p' ≤ p + dp ∧ Rdr w' R p' ∧ w.grownBy w' (some R)
def fKeys : List (List UInt8) := [[117, 115, 101, 114], [105, 100], [105, 112], [107], [106, 111, 98]]
def fVals : List (List UInt8) := [[97], [98], [114, 111, 111, 116], [120]]
def fKeys2 : List (List UInt8) := [[], [75], [117, 115, 101, 114]]
def fVals2 : List (List UInt8) := [[], [86], [97, 98, 99, 100, 101]]

set_option maxHeartbeats 8000000 in
set_option maxRecDepth 100000 in
theorem someFields_c (R p : Nat) (w : World) (hr : Rdr w R p) (hp : p ≤ 800000) :
    Calls Try.prog 60 #[.pointer (some ⟨R, 0, none⟩)] w (FldsPost R p 14 6 w) := by
  have hlt := hr.lt
  have HL := hid (World.ownsRow_lit w #[] 0 (Nat.le_refl _) (by unfold maxLen; omega) (by simp) : (w.alloc (.cells #[] 69)).ownsRow w.heap.size 69 2 (.slice (some ⟨w.heap.size, 0, none⟩) 0 0) 0 [])
  have C := hid (one_lit R p 5 [2, 1, 3, 0, 5] (w.alloc (.cells #[] 69)) (hr.below ((Below.refl _ _).alloc (Nat.le_refl _) _)) (by omega) rfl (by omega) (by omega) 0 5 (by decide))
  simp only [World.size_alloc] at C
  have G0 := hid (show w.grownBy (w.alloc (.cells #[] 69)) (some R) from World.grownBy_alloc w _ _)
  clear hr
  go_enter Try.func60, Try.ntmps60
  go_wp2_with fail
  refine C.out.mono ?_
  rintro e w1 ⟨n, ⟨hn0, hn1⟩, rfl, hr1, hg1⟩
  have G1 := hid (grown_tr G0.out hg1)
  have O1 := hid (own_off HL.out hg1 hlt)
  have R1 := hid hr1
  have hs1 : w.heap.size < w1.heap.size := by have := hg1.size; simp at this; omega
  generalize hbase : w.heap.size = base at *
  replace hbase := hid hbase
  clear hr1 hg1 C HL G0
  go_wp2_with fail
  go_loopw [3, 4] (fun av nv wr => ∃ (v : Value) (q : Int) (ln : Nat) (l : List Fld) (p' : Nat), av = v ∧ nv = .int .i64 q ∧ 0 ≤ q ∧ (ln : Int) + q ≤ 5 ∧ (p' : Int) ≤ p + 1 + 2 * (5 - q) ∧ Hid (l.length = ln) ∧ Hid (ffitF l) ∧ Hid (wr.ownsRow base 69 2 v ln (l.flatMap fdcells)) ∧ Hid (Rdr wr R p') ∧ Hid (w.grownBy wr (some R)) ∧ base ≤ wr.heap.size) (fun _ nv _ => (intOf nv).toNat)
  case atStart => exact ⟨_, n, 0, [], p + 1, rfl, rfl, hn0, by simpa using hn1, by omega, rfl, (fun x hx => by cases hx), O1.out, R1.out, G1.out, Nat.le_of_lt hs1⟩
  case round =>
    obtain ⟨v, q, ln, l, p', rfl, rfl, hq0, hq1, hp', hln, HF, HO, HR, HG, hsz⟩ := hrel
    obtain ⟨A, c, rfl, hnc, hcm⟩ := (Sl.of_own HO.out).form
    unfold maxLen at hcm
    by_cases hq : 0 < q
    · have C1 := hid (of_lit R p' 5 20 fKeys wr HR.out (by omega) rfl (by omega) (by omega) (by decide))
      go_wp2_with fail
      refine C1.out.mono ?_
      rintro e w2 ⟨ky, p2, hky, rfl, hp2, hr2, hg2⟩
      have G2 := hid (grown_tr HG.out hg2)
      have O2 := hid (own_off HO.out hg2 (by omega))
      have hs2 : base ≤ w2.heap.size := Nat.le_trans hsz hg2.size
      have C2 := hid (of_lit R p2 4 20 fVals w2 hr2 (by omega) rfl (by omega) (by omega) (by decide))
      clear hr2 hg2 C1 HO HR HG
      go_wp2_with fail
      refine C2.out.mono ?_
      rintro e w3 ⟨vl, p3, hvl, rfl, hp3, hr3, hg3⟩
      have HA := hid ((Below.refl w3.heap.size w3).alloc (Nat.le_refl _) (.cells #[.string ky, .string vl] 69))
      have R3 := hid (hr3.below HA.out)
      have G3 := hid (grown_new (grown_tr G2.out hg3) HA.out)
      have O3 := hid ((own_off O2.out hg3 (by omega)).alloc (.cells #[.string ky, .string vl] 69))
      have hs3 : base ≤ (w3.alloc (.cells #[.string ky, .string vl] 69)).heap.size := by have := hg3.size; simp; omega
      have K := Blk.new w3 #[.string ky, .string vl] 69
      have k0 := (K.2 0 _ rfl).1
      have k1 := (K.2 1 _ rfl).1
      have CF := hid (fieldAt_c _ ln _ l ky _ (ffitF_in (Sl.of_own O3.out) HF.out))
      generalize idxL (keysOf l) ky.data.toList = z at CF
      clear hr3 hg3 C2 O2 G2 K HA
      by_cases hz : z < 0
      · have HOx := hid (show World.ownsRow _ base 69 2 _ l.length (l.flatMap fdcells) from by rw [hln.out]; exact O3.out)
        have hl9 : l.length ≤ 1048576 := by rw [hln.out]; omega
        go_wp2_with (first | (go_at_call 68; refine CF.out.mono ?_; rintro e w4 ⟨rfl, h9⟩; obtain rfl := h9) | (at_builtin; refine appField _ rfl (.tmp 26) (.tmp 28) rfl base _ l (by rfl) HOx.out ky vl _ _ _ (by rfl) (by simp) hl9 hs3 ?_))
        intro v5 w5 ho5 hb5
        have O5 := hid (own_snoc ho5)
        have R5 := hid (Rdr.low R3.out hb5 hlt)
        have G5 := hid (show w.grownBy w5 (some R) from grown_low G3.out (by rw [hbase.out]; exact hb5))
        have hs5 : base ≤ w5.heap.size := Nat.le_trans hs3 hb5.size
        clear ho5 hb5
        go_wp2_with fail
        go_roundw
        case rel => exact ⟨_, q - 1, ln + 1, l ++ [(⟨ky.data.toList, vl.data.toList⟩ : Fld)], p3, rfl, by go_num, by omega, by omega, by omega, (by show List.length _ = _; rw [List.length_append, hln.out]; rfl), ffitF_add HF.out (by rw [← Lib.size_eq, ← Lib.size_eq]; exact ⟨hky, hvl⟩), (by show World.ownsRow _ _ _ _ _ _ _; have h := O5.out; rw [List.length_append, hln.out] at h; exact h), R5.out, G5.out, hs5⟩
        case measure => simp [intOf]; omega
      · go_wp2_with (go_at_call 68; refine CF.out.mono ?_; rintro e w4 ⟨rfl, h9⟩; obtain rfl := h9)
        go_roundw
        case rel => exact ⟨_, q - 1, ln, l, p3, rfl, by go_num, by omega, by omega, by omega, hln.out, HF.out, O3.out, R3.out, G3.out, hs3⟩
        case measure => simp [intOf]; omega
    · obtain rfl : q = 0 := by omega
      have hlt4 : p' ≤ p + 11 := by omega
      have hln5 : ln ≤ 5 := by omega
      clear hp' hq1
      rcases Nat.eq_zero_or_pos ln with hz | hz
      · subst hz
        go_wp2_with fail
        go_ret
        exact ⟨_, l, p', rfl, by rw [hln.out]; omega, HF.out, (by rw [hbase.out, hln.out]; exact HO.out), by omega, HR.out, HG.out⟩
      · have hzi : decide ((0 : Int) < (ln : Int)) = true := by simp; omega
        have C2 := hid (pick_c R p' 24 wr HR.out (by omega) (by omega))
        go_wp2_with fail
        refine C2.out.mono ?_
        rintro e w2 ⟨k, rfl, _, _, hr2, hg2⟩
        have R2 := hid hr2
        have G2 := hid (grown_tr HG.out hg2)
        have O2 := hid (own_off HO.out hg2 (by omega))
        have hs2 : base ≤ w2.heap.size := Nat.le_trans hsz hg2.size
        clear hr2 hg2 C2 HR HG HO
        rcases Nat.eq_zero_or_pos k with hk | hk
        · subst hk
          have C4 := hid (pick_c R (p' + 1) 3 w2 R2.out (by omega) (by omega))
          go_wp2_with fail
          refine C4.out.mono ?_
          rintro e w4 ⟨j, rfl, hj1, _, hr4, hg4⟩
          have hj : j < 3 := by have := hj1 (by omega); omega
          have G4 := hid (grown_tr G2.out hg4)
          have O4 := hid (own_off O2.out hg4 (by omega))
          have R4 := hid hr4
          have hs4 : base ≤ w4.heap.size := Nat.le_trans hs2 hg4.size
          clear hr4 hg4 C4 R2 G2 O2 hj1
          obtain ⟨x, hx⟩ : ∃ x, l[0]? = some x := ⟨_, List.getElem?_eq_getElem (by rw [hln.out]; exact hz)⟩
          have HX := hid hx
          have HFx := hid (HF.out x (List.mem_of_getElem? hx))
          clear hx
          have t1 : (0 : Int) < (ln : Int) := by omega
          obtain ⟨g, rfl, hglt⟩ := own_some O4.out (by omega)
          have hgb : base ≤ g := (O4.out.lt g rfl).1
          have hgR : R < g := by omega
          have hgw : w.heap.size ≤ g := by rw [hbase.out]; exact hgb
          rcases (show j = 0 ∨ j = 1 ∨ j = 2 by omega) with rfl | rfl | rfl
          · have C5 := hid (of_lit R (p' + 1 + 1) 3 20 fKeys2 w4 R4.out (by omega) rfl (by omega) (by omega) (by decide))
            go_wp2_with fail
            refine C5.out.mono ?_
            rintro e w5 ⟨nm, p5, hnm, rfl, hp5, hr5, hg5⟩
            have G5 := hid (grown_tr G4.out hg5)
            have O5 := hid (own_off O4.out hg5 (by omega))
            have R5 := hid hr5
            clear hr5 hg5 C5 R4 G4 O4
            obtain ⟨_, c0⟩ := own_cell O5.out (j := 0) (by omega)
            have f0 := O5.out.frozenAt (0)
            go_wp2_with fail
            have e4 : (l.flatMap fdcells).set (0) (.string nm) = (l.set 0 ⟨nm.data.toList, x.vl⟩).flatMap fdcells := by
              have h := flat_set fdcells 2 fdcells_len l 0 0 x ⟨nm.data.toList, x.vl⟩ (.string nm) HX.out (by omega) (by first | (simp [fdcells, txt_dataF]; done) | (simp [fdcells]; rfl))
              simpa using h
            have O6 := (O5.out.stored (0) (.string nm)).1
            rw [e4] at O6
            go_ret
            refine ⟨_, l.set 0 ⟨nm.data.toList, x.vl⟩, p5, rfl, by rw [List.length_set, hln.out]; omega, ffitF_set HF.out ⟨by rw [← Lib.size_eq]; exact hnm, HFx.out.2⟩, ?_, by omega, R5.out.set (j := 0) (u := .string nm) hgR, grown_at (j := 0) (u := .string nm) G5.out hgw⟩
            rw [hbase.out, List.length_set, hln.out]; exact O6
          · have C5 := hid (of_lit R (p' + 1 + 1) 3 20 fVals2 w4 R4.out (by omega) rfl (by omega) (by omega) (by decide))
            go_wp2_with fail
            refine C5.out.mono ?_
            rintro e w5 ⟨nm, p5, hnm, rfl, hp5, hr5, hg5⟩
            have G5 := hid (grown_tr G4.out hg5)
            have O5 := hid (own_off O4.out hg5 (by omega))
            have R5 := hid hr5
            clear hr5 hg5 C5 R4 G4 O4
            obtain ⟨_, c0⟩ := own_cell O5.out (j := 1) (by omega)
            have f0 := O5.out.frozenAt (1)
            go_wp2_with fail
            have e4 : (l.flatMap fdcells).set (1) (.string nm) = (l.set 0 ⟨x.ky, nm.data.toList⟩).flatMap fdcells := by
              have h := flat_set fdcells 2 fdcells_len l 0 1 x ⟨x.ky, nm.data.toList⟩ (.string nm) HX.out (by omega) (by first | (simp [fdcells, txt_dataF]; done) | (simp [fdcells]; rfl))
              simpa using h
            have O6 := (O5.out.stored (1) (.string nm)).1
            rw [e4] at O6
            go_ret
            refine ⟨_, l.set 0 ⟨x.ky, nm.data.toList⟩, p5, rfl, by rw [List.length_set, hln.out]; omega, ffitF_set HF.out ⟨HFx.out.1, by rw [← Lib.size_eq]; exact hnm⟩, ?_, by omega, R5.out.set (j := 1) (u := .string nm) hgR, grown_at (j := 1) (u := .string nm) G5.out hgw⟩
            rw [hbase.out, List.length_set, hln.out]; exact O6
          · obtain ⟨b', o', ky, vl, he', _, hx2, c0, c1⟩ := fdcells_at (Sl.of_own O4.out) (k := 0) hz
            obtain ⟨rfl, rfl⟩ : g = b' ∧ 0 = o' := by simpa using he'
            have HX2 := hid (show x = ⟨ky.data.toList, vl.data.toList⟩ by have h := HX.out; rw [hx2] at h; exact (Option.some.inj h).symm)
            simp only [Nat.zero_mul, Nat.add_zero, Nat.zero_add] at c0 c1
            clear hx2 he'
            have HOx := hid (show w4.ownsRow base 69 2 _ l.length (l.flatMap fdcells) from by rw [hln.out]; exact O4.out)
            have hl9 : l.length ≤ 1048576 := by rw [hln.out]; omega
            go_wp2_with (at_builtin; refine appField _ rfl (.tmp 40) (.tmp 44) rfl base _ l (by rfl) HOx.out ky vl _ _ _ (by rfl) (by simp) hl9 hs4 ?_)
            intro v5 w5 ho5 hb5
            have O5 := hid (own_snoc ho5)
            have R5 := hid (Rdr.low R4.out hb5 (by omega))
            have G5 := hid (show w.grownBy w5 (some R) from grown_low G4.out (by rw [hbase.out]; exact hb5))
            clear ho5 hb5
            go_wp2_with fail
            go_ret
            exact ⟨_, l ++ [(⟨ky.data.toList, vl.data.toList⟩ : Fld)], p' + 1 + 1, rfl, by rw [List.length_append, hln.out]; show ln + 1 ≤ 6; omega, ffitF_add HF.out (by have h := HFx.out; rw [HX2.out] at h; exact h), (by rw [hbase.out]; exact O5.out), by omega, R5.out, G5.out⟩
        · have q0 : ((k : Int) == 0) = false := by simp; omega
          go_wp2_with fail
          go_ret
          exact ⟨_, l, p' + 1, rfl, by rw [hln.out]; omega, HF.out, (by rw [hbase.out, hln.out]; exact O2.out), by omega, R2.out, G2.out⟩

/-- drawn: fields -/
def DrawFlds (w : World) (e : Ending) (w2 : World) : Prop := ∃ (v : Value) (l : List Fld) (n : Nat), e = .returned v ∧ w2.ownsRow w.heap.size 69 2 v n (l.flatMap fdcells) ∧ Below w.heap.size w w2 ∧ ffitF l ∧ l.length = n ∧ n ≤ 6
set_option maxHeartbeats 4000000 in
set_option maxRecDepth 100000 in
theorem drawValidFields_c (a : Option Addr) (len cap : Nat) (z : List Int) (w : World) (h : IsRow .u8 w a len cap z) :
    Calls Try.prog 34 #[.slice a len cap] w (DrawFlds w) := by
  have C := hid (newReader_c a len cap z w h)
  clear h
  go_enter Try.func34, Try.ntmps34
  go_wp2_with fail
  refine C.out.mono ?_
  rintro e w1 ⟨rfl, hr1, hb1⟩
  have HB1 := hid hb1
  have C1 := hid (someFields_c w.heap.size 0 w1 hr1 (by omega))
  clear hr1 hb1 C
  go_wp2_with fail
  refine C1.out.mono ?_
  rintro e w2 ⟨v, l, p2, rfl, hl, hf, ho2, hp2, hr2, hg2⟩
  obtain ⟨A, c, rfl, _, _⟩ := (Sl.of_own ho2).form
  generalize hln : l.length = ln at *
  replace hln := hid hln
  have O2 := hid ho2
  have F2 := hid hf
  have HB2 := hid (show Below w.heap.size w w2 from HB1.out.trans (below_own hg2 HB1.out.size (Nat.le_refl _)))
  clear ho2 hr2 hg2 hf C1
  go_wp2_with fail
  go_ret
  exact ⟨_, l, ln, rfl, own_base O2.out HB1.out.size, HB2.out, F2.out, hln.out, hl⟩
end Go.Proofs.Ytecfdooibejemaa
