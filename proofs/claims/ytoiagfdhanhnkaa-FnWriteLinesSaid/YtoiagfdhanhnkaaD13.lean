/-
  DRAWS: lines.
-/
import Derived.Test.YtoiagfdhanhnkaaDM
import Derived.Test.YtoiagfdhanhnkaaKStrs
import Derived.Test.YtoiagfdhanhnkaaF1
namespace Go.Proofs.Ytoiagfdhanhnkaa
open Go.RowKit Nm
set_option linter.unusedSimpArgs false
set_option linter.unusedVariables false

def lineTexts : TxtL := [[111, 110, 101], [116, 119, 111, 32, 116, 119, 111], [], [116, 104, 114, 101, 101, 32, 97, 110, 100, 32, 102, 111, 117, 114], [120], [97, 32, 108, 105, 110, 101, 32, 111, 102, 32, 115, 111, 109, 101, 32, 109, 111, 114, 101, 32, 98, 121, 116, 101, 115, 32, 116, 104, 97, 110, 32, 111, 116, 104, 101, 114, 115]]
def oddTexts : TxtL := [[97, 10, 98], [9], [48, 49, 50, 51, 52, 53, 54, 55, 56, 57, 48, 49, 50, 51, 52, 53, 54, 55, 56, 57, 48, 49, 50, 51, 52, 53, 54, 55, 56, 57, 48, 49, 50, 51, 52, 53, 54, 55, 56, 57, 120], [126]]
set_option maxHeartbeats 1000000 in
set_option maxRecDepth 100000 in
theorem aLine_c (R p : Nat) (w : World) (hr : Rdr w R p) (hp : p ≤ 1000000) :
    Calls Try.prog 64 #[.pointer (some ⟨R, 0, none⟩)] w (TxtPost R p 1 45 w) := by
  have C := hid (of_lit R p 6 45 lineTexts w hr hp rfl (by omega) (by omega) (by decide))
  clear hr
  go_enter Try.func64, Try.ntmps64
  go_wp2_with fail
  refine C.out.mono ?_
  rintro e w1 ⟨x, p1, h1, rfl, h2, h3, h4⟩
  have H := hid (And.intro h3 h4)
  clear h3 h4
  go_wp2_with fail
  go_ret
  exact ⟨x, p1, h1, rfl, h2, H.out.1, H.out.2⟩
set_option maxHeartbeats 1000000 in
set_option maxRecDepth 100000 in
theorem someLine_c (R p : Nat) (w : World) (hr : Rdr w R p) (hp : p ≤ 900000) :
    Calls Try.prog 65 #[.pointer (some ⟨R, 0, none⟩)] w (TxtPost R p 2 45 w) := by
  have C := hid (pick_c R p 20 w hr (by omega) (by omega))
  clear hr
  go_enter Try.func65, Try.ntmps65
  go_wp2_with fail
  refine C.out.mono ?_
  rintro e w1 ⟨k, rfl, _, _, hr1, hg1⟩
  have G1 := hid hg1
  rcases Nat.eq_zero_or_pos k with hk | hk
  · subst hk
    have C1 := hid (of_lit R (p + 1) 4 45 oddTexts w1 hr1 (by omega) rfl (by omega) (by omega) (by decide))
    clear hr1 hg1 C
    go_wp2_with fail
    refine C1.out.mono ?_
    rintro e w2 ⟨x, p1, h1, rfl, h2, h3, h4⟩
    have H := hid (And.intro h3 (grown_tr G1.out h4))
    clear h3 h4
    go_wp2_with fail
    go_ret
    exact ⟨x, p1, h1, rfl, by omega, H.out.1, H.out.2⟩
  · have q0 : ((k : Int) == 0) = false := by simp; omega
    have C1 := hid (aLine_c R (p + 1) w1 hr1 (by omega))
    clear hr1 hg1 C
    go_wp2_with fail
    refine C1.out.mono ?_
    rintro e w2 ⟨x, p1, h1, rfl, h2, h3, h4⟩
    have H := hid (And.intro h3 (grown_tr G1.out h4))
    clear h3 h4
    go_wp2_with fail
    go_ret
    exact ⟨x, p1, h1, rfl, by omega, H.out.1, H.out.2⟩
/-- append of one text -/
theorem appTxt (w : World) {ops : Array Oper} {rest : List Oper} {o : Oper} {a : Act} {Q : Exit → Act → World → Prop} (hg : o.guard = none) (s x : Operand)
    (ho : o.op = .call { callee := .builtin .append, args := #[s, x], argTypes := #[35, 35] }) (base : Nat) (v : Value) (l : TxtL) (n : Nat) (hs : a.eval s = v) (hn : l.length = n)
    (hown : w.ownsRow base 9 1 v n (l.map txt)) (y : ByteArray) (b0 c : Nat) (te : TypeId) (hx : a.eval x = .slice (some ⟨b0, 0, none⟩) 1 c) (hb0 : b0 = w.heap.size) (hl : n ≤ 1048576) (hbase : base ≤ w.heap.size)
    (h : ∀ v' w', w'.ownsRow base 9 1 v' (n + 1) ((l ++ [y.data.toList]).map txt) → Below base w w' → wpList Try.prog ops Q rest (a.put o.dst v') w') :
    wpList Try.prog ops Q (o :: rest) a (w.alloc (.cells #[.string y] te)) := by
  subst hb0
  obtain ⟨i0, hi, hz0, hz1, hz2⟩ := info_parts Try.infoStr
  refine wpList_app1 w hg s x 35 ho base 9 i0 _ 1 16 Try.underlying35 hi hz0 hz1 hz2 rfl (by decide) v n _ hs hown [.string y] c te hx rfl (List.all_eq_true.1 rfl) (by unfold maxLen; omega) (by omega) hbase fun v' w' h1 h2 => h v' w' ?_ h2
  simpa [txt_data] using h1
/-- drawn lines -/
def LinesPost (R p dp : Nat) (w : World) (e : Ending) (w' : World) : Prop :=
  ∃ (v : Value) (l : TxtL) (p' : Nat), e = .returned v ∧ l.length ≤ 13 ∧ (∀ x ∈ l, x.length ≤ 45) ∧ w'.ownsRow w.heap.size 9 1 v l.length (l.map txt) ∧ p' ≤ p + dp ∧ Rdr w' R p' ∧ w.grownBy w' (some R)
theorem lfit_add {l : TxtL} {x : List UInt8} (h : ∀ y ∈ l, y.length ≤ 45) (hx : x.length ≤ 45) : ∀ y ∈ l ++ [x], y.length ≤ 45 := by
  intro y hy
  rcases List.mem_append.1 hy with hy | hy
  · exact h y hy
  · rw [List.mem_singleton.1 hy]; exact hx
set_option maxHeartbeats 4000000 in
set_option maxRecDepth 100000 in
theorem someLines_c (R p : Nat) (w : World) (hr : Rdr w R p) (hp : p ≤ 700000) :
    Calls Try.prog 66 #[.pointer (some ⟨R, 0, none⟩)] w (LinesPost R p 20 w) := by
  have hlt := hr.lt
  have HL := hid (World.ownsRow_lit w #[] 0 (Nat.le_refl _) (by unfold maxLen; omega) (by simp) : (w.alloc (.cells #[] 9)).ownsRow w.heap.size 9 1 (.slice (some ⟨w.heap.size, 0, none⟩) 0 0) 0 [])
  have C := hid (one_lit R p 8 [3, 2, 4, 1, 0, 6, 12, 13] (w.alloc (.cells #[] 9)) (hr.below ((Below.refl _ _).alloc (Nat.le_refl _) _)) (by omega) rfl (by omega) (by omega) 0 13 (by decide))
  simp only [World.size_alloc] at C
  have G0 := hid (show w.grownBy (w.alloc (.cells #[] 9)) (some R) from World.grownBy_alloc w _ _)
  clear hr
  go_enter Try.func66, Try.ntmps66
  go_wp2_with fail
  refine C.out.mono ?_
  rintro e w1 ⟨n, ⟨hn0, hn1⟩, rfl, hr1, hg1⟩
  have G1 := hid (grown_tr G0.out hg1)
  have O1 := hid (own_off HL.out hg1 hlt)
  have R1 := hid hr1
  have hs1 : w.heap.size < w1.heap.size := by have := hg1.size; simp at this; omega
  generalize hbase : w.heap.size = base at *
  replace hbase := hid hbase
  clear hr1 hg1 C HL G0
  go_wp2_with fail
  go_loopw [3, 4] (fun av nv wr => ∃ (v : Value) (q : Int) (l : TxtL) (p' : Nat), av = v ∧ nv = .int .i64 q ∧ 0 ≤ q ∧ (l.length : Int) + q ≤ 13 ∧ p' ≤ p + 1 + l.length ∧ Hid (∀ x ∈ l, x.length ≤ 45) ∧ Hid (wr.ownsRow base 9 1 v l.length (l.map txt)) ∧ Hid (Rdr wr R p') ∧ Hid (w.grownBy wr (some R)) ∧ base < wr.heap.size) (fun _ nv _ => (intOf nv).toNat)
  case atStart => exact ⟨_, n, [], p + 1, rfl, rfl, hn0, by simpa using hn1, by simp, (fun x hx => by cases hx), O1.out, R1.out, G1.out, hs1⟩
  case round =>
    obtain ⟨v, q, l, p', rfl, rfl, hq0, hq1, hp', HF, HO, HR, HG, hsz⟩ := hrel
    obtain ⟨A, c, rfl, hnc, hcm⟩ := (Sl.of_own HO.out).form
    unfold maxLen at hcm
    generalize hln : l.length = ln at *
    replace hln := hid hln
    by_cases hq : 0 < q
    · have C1 := hid (aLine_c R p' wr HR.out (by omega))
      go_wp2_with fail
      refine C1.out.mono ?_
      rintro e w2 ⟨y, p2, hy, rfl, hp2, hr2, hg2⟩
      have G2 := hid (grown_tr HG.out hg2)
      have O2 := hid (own_off HO.out hg2 (by omega))
      have R2 := hid hr2
      have hsz2 : wr.heap.size ≤ w2.heap.size := hg2.size
      clear hr2 hg2 C1 HO HR HG
      have hlx : ln ≤ 1048576 := by omega
      go_wp2_with (at_builtin; refine appTxt _ rfl _ _ rfl base _ l ln (by rfl) hln.out O2.out y _ _ _ (by rfl) (by simp) hlx (by omega) ?_)
      intro v5 w5 ho5 hb5
      have HO5 := hid ho5
      have HR5 := hid (Rdr.low R2.out hb5 hlt)
      have HG5 := hid (show w.grownBy w5 (some R) from grown_low G2.out (by rw [hbase.out]; exact hb5))
      have hs5 : base < w5.heap.size := Nat.lt_of_lt_of_le (by omega) hb5.size
      clear ho5 hb5
      go_wp2_with fail
      go_roundw
      case rel => exact ⟨_, q - 1, l ++ [y.data.toList], p2, rfl, by go_num, by omega, by rw [List.length_append, hln.out]; simp; omega, by rw [List.length_append, hln.out]; simp; omega, lfit_add HF.out (by rw [← Lib.size_eq]; exact hy), (by show World.ownsRow _ _ _ _ _ _ _; rw [List.length_append, hln.out, List.map_append]; exact HO5.out), HR5.out, HG5.out, hs5⟩
      case measure => simp [intOf]; omega
    · rcases Nat.eq_zero_or_pos ln with hz | hz
      · subst hz
        go_wp2_with fail
        go_ret
        exact ⟨_, l, p', rfl, by rw [hln.out]; omega, HF.out, (by rw [hbase.out, hln.out]; exact HO.out), by omega, HR.out, HG.out⟩
      · have hzi : decide ((0 : Int) < (ln : Int)) = true := by simp; omega
        have C2 := hid (pick_c R p' 20 wr HR.out (by omega) (by omega))
        go_wp2_with fail
        refine C2.out.mono ?_
        rintro e w2 ⟨k, rfl, _, _, hr2, hg2⟩
        have R2 := hid hr2
        have G2 := hid (grown_tr HG.out hg2)
        have O2 := hid (own_off HO.out hg2 (by omega))
        have hs2 : base < w2.heap.size := Nat.lt_of_lt_of_le hsz hg2.size
        clear hr2 hg2 C2 HR HG HO
        rcases Nat.eq_zero_or_pos k with hk | hk
        · subst hk
          have C3 := hid (someLine_c R (p' + 1) w2 R2.out (by omega))
          go_wp2_with fail
          refine C3.out.mono ?_
          rintro e w3 ⟨y, p3, hy, rfl, hp3, hr3, hg3⟩
          have G3 := hid (grown_tr G2.out hg3)
          have O3 := hid (own_off O2.out hg3 (by omega))
          have R3 := hid hr3
          clear hr3 hg3 C3 R2 G2 O2
          obtain ⟨g, rfl, hglt⟩ := own_some O3.out (by omega)
          have hgb : base ≤ g := (O3.out.lt g rfl).1
          obtain ⟨_, c0⟩ := own_cell O3.out (j := 0) (by omega)
          have f0 := O3.out.frozenAt 0
          have hz1 : (0 : Int) < (ln : Int) := by omega
          go_wp2_with fail
          have O5 := hid ((O3.out.stored 0 (.string y)).1)
          have hgR : R < g := Nat.lt_of_lt_of_le (by omega) hgb
          have hgw : w.heap.size ≤ g := by rw [hbase.out]; exact hgb
          have R5 := hid (R3.out.set (j := 0) (u := .string y) hgR)
          have G5 := hid (grown_at (j := 0) (u := .string y) G3.out hgw)
          go_ret
          refine ⟨_, l.set 0 y.data.toList, p3, rfl, by rw [List.length_set, hln.out]; omega, ?_, ?_, by omega, R5.out, G5.out⟩
          · intro x hx
            rcases List.mem_or_eq_of_mem_set hx with h9 | h9
            · exact HF.out x h9
            · rw [h9, ← Lib.size_eq]; exact hy
          · rw [hbase.out, List.length_set, hln.out, List.map_set, txt_data]
            exact O5.out
        · have q9 : ((k : Int) == 0) = false := by simp; omega
          go_wp2_with fail
          go_ret
          exact ⟨_, l, p' + 1, rfl, by rw [hln.out]; omega, HF.out, (by rw [hbase.out, hln.out]; exact O2.out), by omega, R2.out, G2.out⟩
end Go.Proofs.Ytoiagfdhanhnkaa
