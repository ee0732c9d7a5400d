/-
  Rule: how slices of them lie in memory, and the walks of what the laws do with them (sized, copied, compared, marked, held). By gen_flat.py.
-/
import Derived.Test.YtlifaeleoiodkaaGreatDoorHelps
namespace Go.Proofs.YtlifaeleoiodkaaGreatDoor
open Go.RowKit Nm
set_option linter.unusedSimpArgs false
set_option linter.unusedVariables false

structure Rul where
  ac : Int
  wd : List UInt8
  md : List UInt8
  ln : Int
deriving DecidableEq
def rucells (x : Rul) : List Value := [.int .i64 x.ac, txt x.wd, txt x.md, .int .i64 x.ln]
theorem rucells_len (x : Rul) : (rucells x).length = 4 := rfl
def rucellsFit (x : Rul) : Prop := x.wd.length ≤ maxTxt ∧ x.md.length ≤ maxTxt
def Ruls (w : World) (B n : Nat) (v : Value) (l : List Rul) : Prop := Sl w B 4 n v (l.flatMap rucells) ∧ ∀ x ∈ l, rucellsFit x
section
variable {w w' : World} {B B' n : Nat} {v : Value} {l : List Rul}
theorem Ruls.below (h : Ruls w B n v l) (hb : Below B' w w') (hB : B ≤ B') : Ruls w' B n v l := ⟨h.1.below hb hB, h.2⟩
theorem Ruls.more (h : Ruls w B n v l) (hB : B ≤ B') : Ruls w B' n v l := ⟨h.1.more hB, h.2⟩
theorem Ruls.count (h : Ruls w B n v l) : l.length = n := Sl.count rucells_len h.1 (by omega)
end
/-- element k: its cells -/
theorem rucells_at {w : World} {B n c : Nat} {A : Option Addr} {l : List Rul} (h : Sl w B 4 n (.slice A n c) (l.flatMap rucells)) {k : Nat} (hk : k < n) :
    ∃ (b o : Nat) (ac : Int) (wd : ByteArray) (md : ByteArray) (ln : Int), A = some ⟨b, o, none⟩ ∧ b < B ∧ l[k]? = some ⟨ac, wd.data.toList, md.data.toList, ln⟩ ∧ w.cell? ⟨b, o + k * 4, none⟩ = some (.int .i64 ac) ∧ w.cell? ⟨b, o + k * 4 + 1, none⟩ = some (.string wd) ∧ w.cell? ⟨b, o + k * 4 + 2, none⟩ = some (.string md) ∧ w.cell? ⟨b, o + k * 4 + 3, none⟩ = some (.int .i64 ln) := by
  obtain ⟨b, o, x, e, hb, hx, hc⟩ := Sl.elem rucells_len h (by omega) hk
  obtain ⟨ac, wd, md, ln⟩ := x
  exact ⟨b, o, ac, ⟨wd.toArray⟩, ⟨md.toArray⟩, ln, e, hb, by simpa using hx, hc 0 _ rfl, hc 1 _ rfl, hc 2 _ rfl, hc 3 _ rfl⟩
theorem rucells_fit {l : List Rul} {k : Nat} {ac : Int} {wd : ByteArray} {md : ByteArray} {ln : Int} (h : ∀ x ∈ l, rucellsFit x) (hx : l[k]? = some ⟨ac, wd.data.toList, md.data.toList, ln⟩) : wd.size ≤ maxTxt ∧ md.size ≤ maxTxt := by
  have := h _ (List.mem_of_getElem? hx)
  simpa [rucellsFit, ← Lib.size_eq] using this

set_option maxHeartbeats 1000000 in
set_option maxRecDepth 100000 in
theorem szRule_c (ac : Int) (wd : ByteArray) (md : ByteArray) (ln : Int) (left : Int) (w : World) (hwd : wd.size ≤ maxLen) (hmd : md.size ≤ maxLen) (h0 : 0 ≤ left) (h1 : left ≤ 1048576) :
    Calls Tryz.prog 30 #[.agg #[.int .i64 ac, .string wd, .string md, .int .i64 ln], .int .i64 left] w (SzPost left (wd.size ≤ maxTxt ∧ md.size ≤ maxTxt) w) := by
  unfold maxLen at hwd hmd
  go_enter Tryz.func30, Tryz.ntmps30
  go_wp2_with fail
  all_goals go_ret
  all_goals exact ⟨_, rfl, by go_grown, by unfold maxTxt; omega⟩

set_option maxHeartbeats 2000000 in
set_option maxRecDepth 100000 in
theorem szRuleS_c (v : Value) (n B : Nat) (l : List Rul) (left : Int) (w : World) (hv : Sl w B 4 n v (l.flatMap rucells)) (hB : B ≤ w.heap.size) (hm : ∀ x ∈ l, x.wd.length ≤ maxLen ∧ x.md.length ≤ maxLen) (h0 : 0 ≤ left) (h1 : left ≤ 1048576) :
    Calls Tryz.prog 6 #[v, .int .i64 left] w (SzPost left (n ≤ maxTxt ∧ ∀ x ∈ l, rucellsFit x) w) := by
  have hln := Sl.count rucells_len hv (by omega)
  obtain ⟨A, c, rfl, hnc, hcm⟩ := hv.form
  unfold maxLen at hcm
  have HV := hid (And.intro hv (And.intro hm hln))
  clear hv hm hln
  by_cases hl : left - (n : Int) < 0
  · go_enter Tryz.func6, Tryz.ntmps6
    go_wp2_with fail
    go_ret
    exact ⟨_, rfl, Below.refl _ _, .inl (by omega)⟩
  go_enter Tryz.func6, Tryz.ntmps6
  go_wp2_with fail
  go_loopw [1, 5] (fun lv iv wr => ∃ (k : Nat) (q : Int), iv = .int .i64 k ∧ lv = .int .i64 q ∧ k ≤ n ∧ 0 ≤ q ∧ q ≤ left ∧ Hid (∀ x ∈ l.take k, rucellsFit x) ∧ Hid (Below w.heap.size w wr)) (fun _ iv _ => n - (intOf iv).toNat)
  case atStart => exact ⟨0, _, rfl, rfl, by omega, by omega, by omega, by intro f hf; simp at hf, Below.refl _ _⟩
  case round =>
    obtain ⟨k, q, rfl, rfl, hk, hq0, hq1, HL, HB⟩ := hrel
    by_cases hlt : k < n
    · obtain ⟨b, o, ac, wd, md, ln, rfl, hbB, hx, g0, g1, g2, g3⟩ := rucells_at HV.out.1 hlt
      have c0 : wr.cell? ⟨b, o + k * 4, none⟩ = some (.int .i64 ac) := (HB.out.cell (p := ⟨b, o + k * 4, none⟩) (by show b < _; omega)).trans g0
      have c1 : wr.cell? ⟨b, o + k * 4 + 1, none⟩ = some (.string wd) := (HB.out.cell (p := ⟨b, o + k * 4 + 1, none⟩) (by show b < _; omega)).trans g1
      have c2 : wr.cell? ⟨b, o + k * 4 + 2, none⟩ = some (.string md) := (HB.out.cell (p := ⟨b, o + k * 4 + 2, none⟩) (by show b < _; omega)).trans g2
      have c3 : wr.cell? ⟨b, o + k * 4 + 3, none⟩ = some (.int .i64 ln) := (HB.out.cell (p := ⟨b, o + k * 4 + 3, none⟩) (by show b < _; omega)).trans g3
      have hms := HV.out.2.1 _ (List.mem_of_getElem? hx)
      simp only [← Lib.size_eq] at hms
      have hcall := hid (fun W => szRule_c ac wd md ln q W hms.1 hms.2 hq0 (by omega))
      have HX := hid hx
      clear hx g0 g1 g2 g3 hms
      go_wp2_with fail
      refine (hcall.out _).mono ?_
      rintro e w1 ⟨r, rfl, hb, hr⟩
      have HB1 := hid (HB.out.trans (hb.mono HB.out.size))
      clear hb
      rcases hr with hr | ⟨hr0, hr1, hr2⟩
      · go_wp2_with fail
        go_ret
        exact ⟨_, rfl, HB1.out, .inl (by omega)⟩
      · have HR := hid hr2
        clear hr2
        go_wp2_with fail
        go_roundw
        case rel =>
          refine ⟨k + 1, r, by go_num, rfl, by omega, hr0, by omega, ?_, HB1.out⟩
          intro g hg
          rcases mem_take_succ l k _ g HX.out hg with rfl | hg
          · have := HR.out; simpa [rucellsFit, ← Lib.size_eq] using this
          · exact HL.out g hg
        case measure => simp [intOf]; omega
    · go_wp2_with fail
      go_ret
      refine ⟨_, rfl, HB.out, .inr ⟨hq0, hq1, by unfold maxTxt; omega, ?_⟩⟩
      have := HL.out
      rwa [List.take_of_length_le (by have := HV.out.2.2; omega)] at this

set_option maxHeartbeats 1000000 in
set_option maxRecDepth 100000 in
theorem toRule_c (ac : Int) (wd : ByteArray) (md : ByteArray) (ln : Int) (w : World) :
    Calls Tryz.prog 40 #[.agg #[.int .i64 ac, .string wd, .string md, .int .i64 ln]] w fun e w' => e = .returned (.agg #[.int .i64 ac, .string wd, .string md, .int .i64 ln]) ∧ Below w.heap.size w w' := by
  go_enter Tryz.func40, Tryz.ntmps40
  go_wp2_with fail
  go_returns
  exact ⟨rfl, by go_grown⟩
theorem Tryz.infoRule : (Tryz.prog.info? 63).map (fun i => (i.zero, i.size, i.bytes)) = some (some (.agg #[.int .i64 0, .string ByteArray.empty, .string ByteArray.empty, .int .i64 0]), 4, 48) := by kernel_rfl

/-- append of one Rule -/
theorem appRule (w : World) {ops : Array Oper} {rest : List Oper} {o : Oper} {a : Act} {Q : Exit → Act → World → Prop} (hg : o.guard = none) (s x : Operand)
    (ho : o.op = .call { callee := .builtin .append, args := #[s, x], argTypes := #[38, 38] }) (base : Nat) (v : Value) (l : List Rul) (hs : a.eval s = v)
    (hown : w.ownsRow base 63 4 v l.length (l.flatMap rucells)) (ac : Int) (wd : ByteArray) (md : ByteArray) (ln : Int) (b0 c : Nat) (te : TypeId) (hx : a.eval x = .slice (some ⟨b0, 0, none⟩) 1 c) (hb0 : b0 = w.heap.size) (hl : l.length ≤ 1048576) (hbase : base ≤ w.heap.size)
    (h : ∀ v' w', w'.ownsRow base 63 4 v' (l ++ [(⟨ac, wd.data.toList, md.data.toList, ln⟩ : Rul)]).length ((l ++ [(⟨ac, wd.data.toList, md.data.toList, ln⟩ : Rul)]).flatMap rucells) → Below base w w' → wpList Tryz.prog ops Q rest (a.put o.dst v') w') :
    wpList Tryz.prog ops Q (o :: rest) a (w.alloc (.cells #[.int .i64 ac, .string wd, .string md, .int .i64 ln] te)) := by
  subst hb0
  obtain ⟨i0, hi, hz0, hz1, hz2⟩ := info_parts Tryz.infoRule
  refine wpList_app1 w hg s x 38 ho base 63 i0 _ 4 48 Tryz.underlying38 hi hz0 hz1 hz2 rfl (by decide) v l.length _ hs hown [.int .i64 ac, .string wd, .string md, .int .i64 ln] c te hx rfl (List.all_eq_true.1 rfl) (by unfold maxLen; omega) (by omega) hbase fun v' w' h1 h2 => h v' w' ?_ h2
  simpa [rucells, txt_data] using h1

theorem rucells_one (l : List Rul) : ∀ u ∈ l.flatMap rucells, u.oneCell' = true := by
  intro u hu
  obtain ⟨x, _, hx⟩ := List.mem_flatMap.1 hu
  simp only [rucells, List.mem_cons, List.not_mem_nil, or_false] at hx
  rcases hx with rfl | rfl | rfl | rfl <;> rfl
/-- append of a slice -/
theorem appRuleS (w : World) {ops : Array Oper} {rest : List Oper} {o : Oper} {a : Act} {Q : Exit → Act → World → Prop} (hg : o.guard = none) (s x : Operand)
    (ho : o.op = .call { callee := .builtin .append, args := #[s, x], argTypes := #[38, 38] }) (base : Nat) (v : Value) (l l2 : List Rul) (hs : a.eval s = v)
    (hown : w.ownsRow base 63 4 v l.length (l.flatMap rucells)) (B : Nat) (src : Value) (hx : a.eval x = src) (hsl : Sl w B 4 l2.length src (l2.flatMap rucells)) (hl : l.length + l2.length ≤ 4194304) (hbase : base ≤ w.heap.size)
    (h : ∀ v' w', w'.ownsRow base 63 4 v' (l ++ l2).length ((l ++ l2).flatMap rucells) → Below base w w' → wpList Tryz.prog ops Q rest (a.put o.dst v') w') :
    wpList Tryz.prog ops Q (o :: rest) a w := by
  obtain ⟨i0, hi, hz0, hz1, hz2⟩ := info_parts Tryz.infoRule
  refine wpList_appSl w hg s x 38 ho base 63 i0 _ 4 48 Tryz.underlying38 hi hz0 hz1 hz2 rfl (by decide) v l.length _ hs hown B l2.length src _ hx hsl (rucells_one l2) (by unfold maxLen; omega) (by omega) hbase fun v' w' h1 h2 => h v' w' ?_ h2
  simpa using h1

set_option maxHeartbeats 4000000 in
set_option maxRecDepth 100000 in
theorem toRuleS_c (v : Value) (n B : Nat) (l : List Rul) (w : World) (hv : Sl w B 4 n v (l.flatMap rucells)) (hB : B ≤ w.heap.size) (hn : n ≤ 1048576) :
    Calls Tryz.prog 10 #[v] w (RowPost w 63 4 n (l.flatMap rucells)) := by
  have hln := Sl.count rucells_len hv (by omega)
  obtain ⟨A, c, rfl, hnc, hcm⟩ := hv.form
  obtain ⟨i0, hi, hz0, hz1, hz2⟩ := info_parts Tryz.infoRule
  unfold maxLen at hcm
  have HV := hid (And.intro hv hln)
  clear hv hln
  go_enter Tryz.func10, Tryz.ntmps10
  go_wp2_with (at_make; refine wpList_make_full _ rfl _ _ 38 rfl w.heap.size 63 i0 _ 4 Tryz.underlying38 hi hz0 hz1 .i64 .i64 _ _ n rfl rfl rfl rfl (by rw [hz2]; omega) (by unfold maxLen; omega) (Nat.le_refl _) ?_)
  intro w1 hown hg1
  have H1 := hid (And.intro hown (below_of_grown hg1 (Nat.le_refl _) (by simp)))
  clear hown hg1
  go_wp2_with fail
  go_loopw [4] (fun iv wr => ∃ (k : Nat) (xs : List Value), iv = .int .i64 k ∧ k ≤ n ∧ wr.ownsRow w.heap.size 63 4 (.slice (some ⟨w.heap.size, 0, none⟩) n n) n xs ∧ Hid (∀ j, j < k * 4 → xs[j]? = (l.flatMap rucells)[j]?) ∧ Hid (Below w.heap.size w wr)) (fun iv _ => n - (intOf iv).toNat)
  case atStart => exact ⟨0, _, rfl, by omega, H1.out.1, fun j hj => by omega, H1.out.2⟩
  case round =>
    obtain ⟨k, xs, rfl, hk, hown, HX, HB⟩ := hrel
    by_cases hlt : k < n
    · obtain ⟨b, o, ac, wd, md, ln, rfl, hbB, hx, g0, g1, g2, g3⟩ := rucells_at HV.out.1 hlt
      have c0 : wr.cell? ⟨b, o + k * 4, none⟩ = some (.int .i64 ac) := (HB.out.cell (p := ⟨b, o + k * 4, none⟩) (by show b < _; omega)).trans g0
      have c1 : wr.cell? ⟨b, o + k * 4 + 1, none⟩ = some (.string wd) := (HB.out.cell (p := ⟨b, o + k * 4 + 1, none⟩) (by show b < _; omega)).trans g1
      have c2 : wr.cell? ⟨b, o + k * 4 + 2, none⟩ = some (.string md) := (HB.out.cell (p := ⟨b, o + k * 4 + 2, none⟩) (by show b < _; omega)).trans g2
      have c3 : wr.cell? ⟨b, o + k * 4 + 3, none⟩ = some (.int .i64 ln) := (HB.out.cell (p := ⟨b, o + k * 4 + 3, none⟩) (by show b < _; omega)).trans g3
      have hcall := hid (fun W => toRule_c ac wd md ln W)
      have HX2 := hid hx
      have HO := hid hown
      clear hx g0 g1 g2 g3 hown
      go_wp2_with fail
      refine (hcall.out _).mono ?_
      rintro e w2 ⟨rfl, hb⟩
      have hown2 := own_below HO.out hb
      obtain ⟨u0, d0⟩ := own_cell hown2 (j := k * 4) (by omega)
      obtain ⟨u1, d1⟩ := own_cell hown2 (j := k * 4 + 1) (by omega)
      obtain ⟨u2, d2⟩ := own_cell hown2 (j := k * 4 + 2) (by omega)
      obtain ⟨u3, d3⟩ := own_cell hown2 (j := k * 4 + 3) (by omega)
      have f0 := hown2.frozenAt (k * 4)
      have f1 := hown2.frozenAt (k * 4 + 1)
      have f2 := hown2.frozenAt (k * 4 + 2)
      have f3 := hown2.frozenAt (k * 4 + 3)
      have R := hid (own_put4 hown2 (k * 4) (.int .i64 ac) (.string wd) (.string md) (.int .i64 ln))
      have HB2 := hid (HB.out.trans (hb.mono HB.out.size))
      have hxl := hown2.1
      clear hown2 hb c0 c1 c2 c3
      go_wp2_with fail
      go_roundw
      case rel =>
        refine ⟨k + 1, _, by go_num, by omega, R.out, ?_, ((((HB2.out.setCell (Nat.le_refl _) _).setCell (Nat.le_refl _) _).setCell (Nat.le_refl _) _).setCell (Nat.le_refl _) _)⟩
        intro j hj
        have e := flat_put rucells 4 rucells_len l k _ HX2.out xs (by omega) (by rw [Sl.count rucells_len HV.out.1 (by omega)]; exact hxl) HX.out j (by omega)
        simpa [put_all, rucells, txt_data] using e
      case measure => simp [intOf]; omega
    · have HO := hid hown
      clear hown
      go_wp2_with fail
      go_ret
      refine ⟨_, rfl, ?_, HB.out⟩
      have e : xs = l.flatMap rucells := by
        have h1 := HO.out.1
        have h2 := flat_len rucells 4 rucells_len l
        have h3 := HV.out.2
        apply List.ext_getElem?
        intro j
        by_cases hj : j < k * 4
        · exact HX.out j hj
        · rw [List.getElem?_eq_none (by omega), List.getElem?_eq_none (by omega)]
      rw [← e]
      exact HO.out

set_option maxHeartbeats 1000000 in
set_option maxRecDepth 100000 in
theorem eqRule_c (ac : Int) (wd : ByteArray) (md : ByteArray) (ln : Int) (w : World) :
    Calls Tryz.prog 46 #[.agg #[.int .i64 ac, .string wd, .string md, .int .i64 ln], .agg #[.int .i64 ac, .string wd, .string md, .int .i64 ln]] w (BoolPost w true) := by
  have b0 : (ac != ac) = false := by simp
  have b1 : (wd.toList != wd.toList) = false := by simp
  have b2 : (md.toList != md.toList) = false := by simp
  have b3 : (ln != ln) = false := by simp
  go_enter Tryz.func46, Tryz.ntmps46
  go_wp2_with fail
  go_ret
  exact ⟨rfl, by go_grown⟩

set_option maxHeartbeats 4000000 in
set_option maxRecDepth 100000 in
/-- two slices that read alike -/
theorem eqRuleS_c (v1 v2 : Value) (n B : Nat) (l : List Rul) (w : World) (h1 : Sl w B 4 n v1 (l.flatMap rucells)) (h2 : Sl w B 4 n v2 (l.flatMap rucells)) (hB : B ≤ w.heap.size) :
    Calls Tryz.prog 15 #[v1, v2] w (BoolPost w true) := by
  obtain ⟨A1, k1, rfl, _, hm1⟩ := h1.form
  obtain ⟨A2, k2, rfl, _, hm2⟩ := h2.form
  unfold maxLen at hm1 hm2
  have HS := hid (And.intro h1 h2)
  have b0 : ((n : Int) != (n : Int)) = false := by simp
  clear h1 h2
  go_enter Tryz.func15, Tryz.ntmps15
  go_wp2_with fail
  go_loopw [5] (fun iv wr => ∃ (i : Nat), iv = .int .i64 i ∧ i ≤ n ∧ Hid (Below w.heap.size w wr)) (fun iv _ => n - (intOf iv).toNat)
  case atStart => exact ⟨0, rfl, by omega, Below.refl _ _⟩
  case round =>
    obtain ⟨k, rfl, hi, HB⟩ := hrel
    by_cases hlt : k < n
    · obtain ⟨b, o, ac, wd, md, ln, rfl, hb1, hx, g0, g1, g2, g3⟩ := rucells_at HS.out.1 hlt
      obtain ⟨b', o', ac', wd', md', ln', rfl, hb2, hx', g0', g1', g2', g3'⟩ := rucells_at HS.out.2 hlt
      rw [hx] at hx'
      have hx'' := Option.some.inj hx'
      simp only [Rul.mk.injEq, bytes_eq_iff] at hx''
      obtain ⟨rfl, rfl, rfl, rfl⟩ := hx''
      have c0 : wr.cell? ⟨b, o + k * 4, none⟩ = some (.int .i64 ac) := (HB.out.cell (p := ⟨b, o + k * 4, none⟩) (by show b < _; omega)).trans g0
      have c1 : wr.cell? ⟨b, o + k * 4 + 1, none⟩ = some (.string wd) := (HB.out.cell (p := ⟨b, o + k * 4 + 1, none⟩) (by show b < _; omega)).trans g1
      have c2 : wr.cell? ⟨b, o + k * 4 + 2, none⟩ = some (.string md) := (HB.out.cell (p := ⟨b, o + k * 4 + 2, none⟩) (by show b < _; omega)).trans g2
      have c3 : wr.cell? ⟨b, o + k * 4 + 3, none⟩ = some (.int .i64 ln) := (HB.out.cell (p := ⟨b, o + k * 4 + 3, none⟩) (by show b < _; omega)).trans g3
      have c0' : wr.cell? ⟨b', o' + k * 4, none⟩ = some (.int .i64 ac) := (HB.out.cell (p := ⟨b', o' + k * 4, none⟩) (by show b' < _; omega)).trans g0'
      have c1' : wr.cell? ⟨b', o' + k * 4 + 1, none⟩ = some (.string wd) := (HB.out.cell (p := ⟨b', o' + k * 4 + 1, none⟩) (by show b' < _; omega)).trans g1'
      have c2' : wr.cell? ⟨b', o' + k * 4 + 2, none⟩ = some (.string md) := (HB.out.cell (p := ⟨b', o' + k * 4 + 2, none⟩) (by show b' < _; omega)).trans g2'
      have c3' : wr.cell? ⟨b', o' + k * 4 + 3, none⟩ = some (.int .i64 ln) := (HB.out.cell (p := ⟨b', o' + k * 4 + 3, none⟩) (by show b' < _; omega)).trans g3'
      have hcall := hid (fun W => eqRule_c ac wd md ln W)
      have hlt1 : b < wr.heap.size := by have := HB.out.size; omega
      have hlt2 : b' < wr.heap.size := by have := HB.out.size; omega
      clear hx hx' g0 g1 g2 g3 g0' g1' g2' g3'
      go_wp2_with fail
      go_region_with (go_at_call 46; refine (hcall.out _).mono ?_; rintro e w1 ⟨rfl, hb⟩)
      all_goals go_wp2_with fail
      all_goals
        go_roundw
        case rel => exact ⟨k + 1, by go_num, by omega, by first | exact HB.out.trans (hb.mono HB.out.size) | exact HB.out.drew.trans (hb.mono HB.out.drew.size)⟩
        case measure => simp [intOf]; omega
    · go_wp2_with fail
      go_ret
      exact ⟨rfl, HB.out⟩
def rucellsKinds : List Bool := [false, true, true, false]

set_option maxHeartbeats 4000000 in
set_option maxRecDepth 100000 in
theorem markRuleS_c (v : Value) (n base k : Nat) (xs : List Value) (w : World) (hv : w.ownsRow base 63 4 v n xs) (hn : n * 4 + k ≤ 17592186044416) :
    Calls Tryz.prog 18 #[v, .int .i64 k] w (MarkPost w v base 63 rucellsKinds 4 n k) := by
  obtain ⟨A, c, rfl, hnc, hcm⟩ := (Sl.of_own hv).form
  unfold maxLen at hcm
  have HV := hid hv
  clear hv
  go_enter Tryz.func18, Tryz.ntmps18
  go_wp2_with fail
  go_loopw [1, 5] (fun kv iv wr => ∃ (i : Nat) (q : Int) (ys : List Value), kv = .int .i64 q ∧ iv = .int .i64 i ∧ i ≤ n ∧ 0 ≤ q ∧ q ≤ 17592186044416 ∧ Hid (q = ((k + i * 4 : Nat) : Int)) ∧ Hid (wr.ownsRow base 63 4 (.slice A n c) n ys) ∧ Hid (MarkedK rucellsKinds 4 ys k (i * 4)) ∧ Hid (w.grownBy wr (Value.slice A n c).ownBlock)) (fun _ iv _ => n - (intOf iv).toNat)
  case atStart => exact ⟨0, _, xs, rfl, rfl, Nat.zero_le _, by omega, by omega, by show (k : Int) = _; simp, HV.out, fun j hj => absurd hj (by omega), World.grownBy.refl _ _⟩
  case round =>
    obtain ⟨i, q, ys, rfl, rfl, hi, hq0, hq1, HQ, HO, HM, HG⟩ := hrel
    by_cases hlt : i < n
    · obtain ⟨g, rfl, hglt⟩ := own_some HO.out (by omega)
      have hid2 : i * 4 + 4 ≤ n * 4 := by have := Nat.mul_le_mul_right 4 hlt; omega
      have hq2 : q ≤ 17592186044416 - 4 := by have := HQ.out; omega
      obtain ⟨x1, hx1, _⟩ := txt_mk (mt (k + i * 4 + 1))
      have HC1 := hid (fun W => mark_at (q := (q + 1)) (m := k + i * 4 + 1) W (by have := HQ.out; omega) (by have := HQ.out; omega) hx1)
      have HX1 := hid hx1
      clear hx1
      obtain ⟨x2, hx2, _⟩ := txt_mk (mt (k + i * 4 + 2))
      have HC2 := hid (fun W => mark_at (q := (q + 1 + 1)) (m := k + i * 4 + 2) W (by have := HQ.out; omega) (by have := HQ.out; omega) hx2)
      have HX2 := hid hx2
      clear hx2
      have hown := HO.out
      obtain ⟨u0, d0⟩ := own_cell hown (j := i * 4) (by have := Nat.mul_le_mul_right 4 hlt; omega)
      have f0 := hown.frozenAt (i * 4)
      have hs0 := hown.stored (i * 4) (.int .i64 q)
      have HO0 := hid hs0.1
      have HG0 := hid (grown_tr HG.out hs0.2)
      clear hown hs0
      go_wp2_with fail
      refine (HC1.out _).mono ?_
      rintro e w1 ⟨rfl, hb⟩
      have hown := own_below HO0.out hb
      have HG1a := hid (grown_tr HG0.out (grown_of hb _))
      clear hb
      obtain ⟨u1, d1⟩ := own_cell hown (j := i * 4 + 1) (by have := Nat.mul_le_mul_right 4 hlt; omega)
      have f1 := hown.frozenAt (i * 4 + 1)
      have hs1 := hown.stored (i * 4 + 1) (.string x1)
      have HO1 := hid hs1.1
      have HG1 := hid (grown_tr HG1a.out hs1.2)
      clear hown hs1
      go_wp2_with fail
      refine (HC2.out _).mono ?_
      rintro e w2 ⟨rfl, hb⟩
      have hown := own_below HO1.out hb
      have HG2a := hid (grown_tr HG1.out (grown_of hb _))
      clear hb
      obtain ⟨u2, d2⟩ := own_cell hown (j := i * 4 + 2) (by have := Nat.mul_le_mul_right 4 hlt; omega)
      have f2 := hown.frozenAt (i * 4 + 2)
      obtain ⟨u3, d3⟩ := own_cell hown (j := i * 4 + 3) (by have := Nat.mul_le_mul_right 4 hlt; omega)
      have f3 := hown.frozenAt (i * 4 + 3)
      have hs2 := hown.stored (i * 4 + 2) (.string x2)
      have hs3 := hs2.1.stored (i * 4 + 3) (.int .i64 (q + 1 + 1 + 1))
      have HO2 := hid hs3.1
      have HG2 := hid (grown_tr (grown_tr HG2a.out hs2.2) hs3.2)
      clear hown hs2 hs3
      go_wp2_with fail
      go_roundw
      case rel =>
        refine ⟨i + 1, _, _, rfl, by go_num, by omega, by omega, by omega, ?_, HO2.out, ?_, HG2.out⟩
        · have := HQ.out; show _ = _; rw [this]; omega
        · have hm := marked_put (ks := rucellsKinds) (d := 4) HM.out [.int .i64 q, .string x1, .string x2, .int .i64 (q + 1 + 1 + 1)] rfl (by have := HO.out.1; have := Nat.mul_le_mul_right 4 hlt; omega) (by
            intro j hj
            have := HQ.out
            match j, hj with
            | 0, _ => simp [rucellsKinds, mkv]; omega
            | 1, _ => (have := HX1.out; simpa [rucellsKinds, mkv] using this.symm)
            | 2, _ => (have := HX2.out; simpa [rucellsKinds, mkv] using this.symm)
            | 3, _ => simp [rucellsKinds, mkv]; omega)
          exact hm
      case measure => simp [intOf]; omega
    · obtain rfl : i = n := by omega
      go_wp2_with fail
      go_ret
      exact ⟨ret_int HQ.out, ⟨ys, HO.out, HM.out⟩, HG.out⟩

end Go.Proofs.YtlifaeleoiodkaaGreatDoor
