/-
  DRAWS: filters. By gen_e1.py.
-/
import Derived.Test.YtihigemelekflaaDM
namespace Go.Proofs.Ytihigemelekflaa
open Go.RowKit Nm
set_option linter.unusedSimpArgs false
set_option linter.unusedVariables false

abbrev ffit (l : List Flt) : Prop := ∀ f ∈ l, f.nm.length ≤ 20
theorem fcells_len' (x : Flt) : (fcells x).length = 3 := rfl
/-- append of one Filter -/
theorem appFlt (w : World) {ops : Array Oper} {rest : List Oper} {o : Oper} {a : Act} {Q : Exit → Act → World → Prop} (hg : o.guard = none) (s x : Operand)
    (ho : o.op = .call { callee := .builtin .append, args := #[s, x], argTypes := #[50, 50] }) (base : Nat) (v : Value) (l : List Flt) (n : Nat) (hs : a.eval s = v) (hn : l.length = n)
    (hown : w.ownsRow base 70 3 v n (fsCells l)) (k : Int) (nm : ByteArray) (m : Int) (b0 c : Nat) (te : TypeId) (hx : a.eval x = .slice (some ⟨b0, 0, none⟩) 1 c) (hb0 : b0 = w.heap.size) (hl : n ≤ 1048576) (hbase : base ≤ w.heap.size)
    (h : ∀ v' w', w'.ownsRow base 70 3 v' (n + 1) (fsCells (l ++ [(⟨k, nm.data.toList, m⟩ : Flt)])) → Below base w w' → wpList Try.prog ops Q rest (a.put o.dst v') w') :
    wpList Try.prog ops Q (o :: rest) a (w.alloc (.cells #[.int .i64 k, .string nm, .int .i64 m] te)) := by
  subst hb0
  obtain ⟨i0, hi, hz0, hz1, hz2⟩ := info_parts Try.infoFlt
  refine wpList_app1 w hg s x 50 ho base 70 i0 _ 3 32 Try.underlying50 hi hz0 hz1 hz2 rfl (by decide) v n _ hs hown [.int .i64 k, .string nm, .int .i64 m] c te hx rfl (List.all_eq_true.1 rfl) (by unfold maxLen; omega) (by omega) hbase fun v' w' h1 h2 => h v' w' ?_ h2
  simpa [fsCells, fcells, txt_data] using h1
theorem flt_one (l : List Flt) : ∀ u ∈ fsCells l, u.oneCell' = true := by
  intro u hu
  obtain ⟨x, _, hx⟩ := List.mem_flatMap.1 hu
  simp only [fcells, List.mem_cons, List.not_mem_nil, or_false] at hx
  rcases hx with rfl | rfl | rfl <;> rfl
/-- append of filters -/
theorem appFltS (w : World) {ops : Array Oper} {rest : List Oper} {o : Oper} {a : Act} {Q : Exit → Act → World → Prop} (hg : o.guard = none) (s x : Operand)
    (ho : o.op = .call { callee := .builtin .append, args := #[s, x], argTypes := #[50, 50] }) (base : Nat) (v : Value) (l l2 : List Flt) (n m : Nat) (hs : a.eval s = v)
    (hown : w.ownsRow base 70 3 v n (fsCells l)) (B : Nat) (src : Value) (hx : a.eval x = src) (hsl : Sl w B 3 m src (fsCells l2)) (hl : n + m ≤ 1048576) (hbase : base ≤ w.heap.size)
    (h : ∀ v' w', w'.ownsRow base 70 3 v' (n + m) (fsCells (l ++ l2)) → Below base w w' → wpList Try.prog ops Q rest (a.put o.dst v') w') :
    wpList Try.prog ops Q (o :: rest) a w := by
  obtain ⟨i0, hi, hz0, hz1, hz2⟩ := info_parts Try.infoFlt
  refine wpList_appSl w hg s x 50 ho base 70 i0 _ 3 32 Try.underlying50 hi hz0 hz1 hz2 rfl (by decide) v n _ hs hown B m src _ hx hsl (flt_one l2) (by unfold maxLen; omega) (by omega) hbase fun v' w' h1 h2 => h v' w' ?_ h2
  simpa [fsCells] using h1
theorem ffit_add {l : List Flt} {x : Flt} (h : ffit l) (hx : x.nm.length ≤ 20) : ffit (l ++ [x]) := by
  intro y hy
  rcases List.mem_append.1 hy with hy | hy
  · exact h y hy
  · rw [List.mem_singleton.1 hy]; exact hx
theorem ffit_app {l m : List Flt} (h : ffit l) (hx : ffit m) : ffit (l ++ m) := by
  intro y hy
  rcases List.mem_append.1 hy with hy | hy
  · exact h y hy
  · exact hx y hy
/-- drawn filters: at most m, laid in memory of their own -/
def FltsPost (R p dp m : Nat) (w : World) (e : Ending) (w' : World) : Prop :=
  ∃ (v : Value) (l : List Flt) (p' : Nat), e = .returned v ∧ l.length ≤ m ∧ ffit l ∧ w'.ownsRow w.heap.size 70 3 v l.length (fsCells l) ∧ p' ≤ p + dp ∧ Rdr w' R p' ∧ w.grownBy w' (some R)
def fNames : List (List UInt8) := [[97], [97, 46, 98], [98]]
def fWords : List (List UInt8) := [[120], [110, 111]]
def fBad : List (List UInt8) := [[], [65], [97]]

set_option maxHeartbeats 4000000 in
set_option maxRecDepth 100000 in
theorem someFilters_c (R p : Nat) (w : World) (hr : Rdr w R p) (hp : p ≤ 800000) :
    Calls Try.prog 15 #[.pointer (some ⟨R, 0, none⟩)] w (FltsPost R p 7 3 w) := by
  have hlt := hr.lt
  have HL := hid (World.ownsRow_lit w #[] 0 (Nat.le_refl _) (by unfold maxLen; omega) (by simp) : (w.alloc (.cells #[] 70)).ownsRow w.heap.size 70 3 (.slice (some ⟨w.heap.size, 0, none⟩) 0 0) 0 [])
  have C := hid (one_lit R p 6 [0, 1, 0, 0, 2, 3] (w.alloc (.cells #[] 70)) (hr.below ((Below.refl _ _).alloc (Nat.le_refl _) _)) (by omega) rfl (by omega) (by omega) 0 3 (by decide))
  simp only [World.size_alloc] at C
  have G0 := hid (show w.grownBy (w.alloc (.cells #[] 70)) (some R) from World.grownBy_alloc w _ _)
  clear hr
  go_enter Try.func15, Try.ntmps15
  go_wp2_with fail
  refine C.out.mono ?_
  rintro e w1 ⟨n, ⟨hn0, hn1⟩, rfl, hr1, hg1⟩
  have G1 := hid (grown_tr G0.out hg1)
  have O1 := hid (own_off HL.out hg1 hlt)
  have R1 := hid hr1
  have hs1 : w.heap.size < w1.heap.size := by have := hg1.size; simp at this; omega
  generalize hbase : w.heap.size = base at *
  replace hbase := hid hbase
  clear hr1 hg1 C HL G0
  go_wp2_with fail
  go_loopw [3, 4] (fun av nv wr => ∃ (v : Value) (q : Int) (ln : Nat) (l : List Flt) (p' : Nat), av = v ∧ nv = .int .i64 q ∧ 0 ≤ q ∧ (ln : Int) + q ≤ 3 ∧ p' ≤ p + 1 + 2 * ln ∧ Hid (l.length = ln) ∧ Hid (ffit l) ∧ Hid (wr.ownsRow base 70 3 v ln (fsCells l)) ∧ Hid (Rdr wr R p') ∧ Hid (w.grownBy wr (some R)) ∧ base ≤ wr.heap.size) (fun _ nv _ => (intOf nv).toNat)
  case atStart => exact ⟨_, n, 0, [], p + 1, rfl, rfl, hn0, by simpa using hn1, by simp, rfl, (fun x hx => by cases hx), O1.out, R1.out, G1.out, Nat.le_of_lt hs1⟩
  case round =>
    obtain ⟨v, q, ln, l, p', rfl, rfl, hq0, hq1, hp', hln, HF, HO, HR, HG, hsz⟩ := hrel
    obtain ⟨A, c, rfl, hnc, hcm⟩ := (Sl.of_own HO.out).form
    unfold maxLen at hcm
    by_cases hq : 0 < q
    · have C1 := hid (pick_c R p' 4 wr HR.out (by omega) (by omega))
      go_wp2_with fail
      refine C1.out.mono ?_
      rintro e w2 ⟨k, rfl, hk1, hk2, hr2, hg2⟩
      have hk : k < 4 := by have := hk1 (by omega); omega
      have R2 := hid hr2
      have G2 := hid (grown_tr HG.out hg2)
      have O2 := hid (own_off HO.out hg2 (by omega))
      have hs2 : base ≤ w2.heap.size := Nat.le_trans hsz hg2.size
      clear hr2 hg2 C1 HO HR HG hk1 hk2
      rcases (show k = 0 ∨ k = 1 ∨ k = 2 ∨ k = 3 by omega) with rfl | rfl | rfl | rfl
      · have C3 := hid (of_lit R (p' + 1) 3 20 fNames w2 R2.out (by omega) rfl (by omega) (by omega) (by decide))
        go_wp2_with fail
        refine C3.out.mono ?_
        rintro e w3 ⟨x, p3, hx, rfl, hp3, hr3, hg3⟩
        have R3 := hid hr3
        have G3 := hid (grown_tr G2.out hg3)
        have O3 := hid (own_off O2.out hg3 (by omega))
        have hs3 : base ≤ w3.heap.size := Nat.le_trans hs2 hg3.size
        clear hr3 hg3 C3 R2 G2 O2
        have hl9 : ln ≤ 1048576 := by omega
        go_wp2_with (at_builtin; refine appFlt _ rfl (.tmp 24) (.tmp 29) rfl base _ l ln (by rfl) hln.out O3.out 0 x 0 _ _ _ (by rfl) (by simp) hl9 hs3 ?_)
        intro v5 w5 ho5 hb5
        have O5 := hid ho5
        have R5 := hid (Rdr.low R3.out hb5 hlt)
        have G5 := hid (show w.grownBy w5 (some R) from grown_low G3.out (by rw [hbase.out]; exact hb5))
        have hs5 : base ≤ w5.heap.size := Nat.le_trans hs3 hb5.size
        clear ho5 hb5
        go_wp2_with fail
        go_roundw
        case rel => exact ⟨_, q - 1, ln + 1, l ++ [(⟨0, x.data.toList, 0⟩ : Flt)], p3, rfl, by go_num, by omega, by omega, by omega, (by show List.length _ = _; rw [List.length_append, hln.out]; rfl), ffit_add HF.out (by rw [← Lib.size_eq]; exact hx), O5.out, R5.out, G5.out, hs5⟩
        case measure => simp [intOf]; omega
      · have C3 := hid (one_lit R (p' + 1) 3 [30, 40, 20] w2 R2.out (by omega) rfl (by omega) (by omega) 0 60 (by decide))
        go_wp2_with fail
        refine C3.out.mono ?_
        rintro e w3 ⟨z, _, rfl, hr3, hg3⟩
        have R3 := hid hr3
        have G3 := hid (grown_tr G2.out hg3)
        have O3 := hid (own_off O2.out hg3 (by omega))
        have hs3 : base ≤ w3.heap.size := Nat.le_trans hs2 hg3.size
        clear hr3 hg3 C3 R2 G2 O2
        have hl9 : ln ≤ 1048576 := by omega
        go_wp2_with (at_builtin; refine appFlt _ rfl (.tmp 33) (.tmp 38) rfl base _ l ln (by rfl) hln.out O3.out 1 ByteArray.empty z _ _ _ (by rfl) (by simp) hl9 hs3 ?_)
        intro v5 w5 ho5 hb5
        have O5 := hid ho5
        have R5 := hid (Rdr.low R3.out hb5 hlt)
        have G5 := hid (show w.grownBy w5 (some R) from grown_low G3.out (by rw [hbase.out]; exact hb5))
        have hs5 : base ≤ w5.heap.size := Nat.le_trans hs3 hb5.size
        clear ho5 hb5
        go_wp2_with fail
        go_roundw
        case rel => exact ⟨_, q - 1, ln + 1, l ++ [(⟨1, ByteArray.empty.data.toList, z⟩ : Flt)], p' + 1 + 1, rfl, by go_num, by omega, by omega, by omega, (by show List.length _ = _; rw [List.length_append, hln.out]; rfl), ffit_add HF.out (show List.length ([] : List UInt8) ≤ 20 from Nat.zero_le 20), O5.out, R5.out, G5.out, hs5⟩
        case measure => simp [intOf]; omega
      · have C3 := hid (of_lit R (p' + 1) 2 20 fWords w2 R2.out (by omega) rfl (by omega) (by omega) (by decide))
        go_wp2_with fail
        refine C3.out.mono ?_
        rintro e w3 ⟨x, p3, hx, rfl, hp3, hr3, hg3⟩
        have R3 := hid hr3
        have G3 := hid (grown_tr G2.out hg3)
        have O3 := hid (own_off O2.out hg3 (by omega))
        have hs3 : base ≤ w3.heap.size := Nat.le_trans hs2 hg3.size
        clear hr3 hg3 C3 R2 G2 O2
        have hl9 : ln ≤ 1048576 := by omega
        go_wp2_with (at_builtin; refine appFlt _ rfl (.tmp 42) (.tmp 47) rfl base _ l ln (by rfl) hln.out O3.out 2 x 0 _ _ _ (by rfl) (by simp) hl9 hs3 ?_)
        intro v5 w5 ho5 hb5
        have O5 := hid ho5
        have R5 := hid (Rdr.low R3.out hb5 hlt)
        have G5 := hid (show w.grownBy w5 (some R) from grown_low G3.out (by rw [hbase.out]; exact hb5))
        have hs5 : base ≤ w5.heap.size := Nat.le_trans hs3 hb5.size
        clear ho5 hb5
        go_wp2_with fail
        go_roundw
        case rel => exact ⟨_, q - 1, ln + 1, l ++ [(⟨2, x.data.toList, 0⟩ : Flt)], p3, rfl, by go_num, by omega, by omega, by omega, (by show List.length _ = _; rw [List.length_append, hln.out]; rfl), ffit_add HF.out (by rw [← Lib.size_eq]; exact hx), O5.out, R5.out, G5.out, hs5⟩
        case measure => simp [intOf]; omega
      · have C3 := hid (one_lit R (p' + 1) 3 [30, 25, 50] w2 R2.out (by omega) rfl (by omega) (by omega) 0 60 (by decide))
        go_wp2_with fail
        refine C3.out.mono ?_
        rintro e w3 ⟨z, _, rfl, hr3, hg3⟩
        have R3 := hid hr3
        have G3 := hid (grown_tr G2.out hg3)
        have O3 := hid (own_off O2.out hg3 (by omega))
        have hs3 : base ≤ w3.heap.size := Nat.le_trans hs2 hg3.size
        clear hr3 hg3 C3 R2 G2 O2
        have hl9 : ln ≤ 1048576 := by omega
        go_wp2_with (at_builtin; refine appFlt _ rfl (.tmp 15) (.tmp 20) rfl base _ l ln (by rfl) hln.out O3.out 3 ByteArray.empty z _ _ _ (by rfl) (by simp) hl9 hs3 ?_)
        intro v5 w5 ho5 hb5
        have O5 := hid ho5
        have R5 := hid (Rdr.low R3.out hb5 hlt)
        have G5 := hid (show w.grownBy w5 (some R) from grown_low G3.out (by rw [hbase.out]; exact hb5))
        have hs5 : base ≤ w5.heap.size := Nat.le_trans hs3 hb5.size
        clear ho5 hb5
        go_wp2_with fail
        go_roundw
        case rel => exact ⟨_, q - 1, ln + 1, l ++ [(⟨3, ByteArray.empty.data.toList, z⟩ : Flt)], p' + 1 + 1, rfl, by go_num, by omega, by omega, by omega, (by show List.length _ = _; rw [List.length_append, hln.out]; rfl), ffit_add HF.out (show List.length ([] : List UInt8) ≤ 20 from Nat.zero_le 20), O5.out, R5.out, G5.out, hs5⟩
        case measure => simp [intOf]; omega
    · obtain rfl : q = 0 := by omega
      go_wp2_with fail
      go_ret
      exact ⟨_, l, p', rfl, by rw [hln.out]; omega, HF.out, (by rw [hbase.out, hln.out]; exact HO.out), by omega, HR.out, HG.out⟩

/-- drawn: filters -/
def DrawFlts (w : World) (e : Ending) (w2 : World) : Prop := ∃ (v : Value) (l : List Flt) (n : Nat), e = .returned v ∧ w2.ownsRow w.heap.size 70 3 v n (fsCells l) ∧ Below w.heap.size w w2 ∧ ffit l ∧ l.length = n ∧ n ≤ 10
end Go.Proofs.Ytihigemelekflaa
