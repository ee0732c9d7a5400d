/-
  Warning: how slices of them lie in memory, and the walks of what the laws do with them (sized, copied, compared, marked, held). By gen_flat.py.
-/
import Derived.Test.YtlifaeleoiodkaaGreatDoorHelps
namespace Go.Proofs.YtlifaeleoiodkaaGreatDoor
open Go.RowKit Nm
set_option linter.unusedSimpArgs false
set_option linter.unusedVariables false

structure Wrn where
  tx : List UInt8
  md : List UInt8
  ln : Int
deriving DecidableEq
def wncells (x : Wrn) : List Value := [txt x.tx, txt x.md, .int .i64 x.ln]
theorem wncells_len (x : Wrn) : (wncells x).length = 3 := rfl
def wncellsFit (x : Wrn) : Prop := x.tx.length ≤ maxTxt ∧ x.md.length ≤ maxTxt
def Wrns (w : World) (B n : Nat) (v : Value) (l : List Wrn) : Prop := Sl w B 3 n v (l.flatMap wncells) ∧ ∀ x ∈ l, wncellsFit x
section
variable {w w' : World} {B B' n : Nat} {v : Value} {l : List Wrn}
theorem Wrns.below (h : Wrns w B n v l) (hb : Below B' w w') (hB : B ≤ B') : Wrns w' B n v l := ⟨h.1.below hb hB, h.2⟩
theorem Wrns.more (h : Wrns w B n v l) (hB : B ≤ B') : Wrns w B' n v l := ⟨h.1.more hB, h.2⟩
theorem Wrns.count (h : Wrns w B n v l) : l.length = n := Sl.count wncells_len h.1 (by omega)
end
/-- element k: its cells -/
theorem wncells_at {w : World} {B n c : Nat} {A : Option Addr} {l : List Wrn} (h : Sl w B 3 n (.slice A n c) (l.flatMap wncells)) {k : Nat} (hk : k < n) :
    ∃ (b o : Nat) (tx : ByteArray) (md : ByteArray) (ln : Int), A = some ⟨b, o, none⟩ ∧ b < B ∧ l[k]? = some ⟨tx.data.toList, md.data.toList, ln⟩ ∧ w.cell? ⟨b, o + k * 3, none⟩ = some (.string tx) ∧ w.cell? ⟨b, o + k * 3 + 1, none⟩ = some (.string md) ∧ w.cell? ⟨b, o + k * 3 + 2, none⟩ = some (.int .i64 ln) := by
  obtain ⟨b, o, x, e, hb, hx, hc⟩ := Sl.elem wncells_len h (by omega) hk
  obtain ⟨tx, md, ln⟩ := x
  exact ⟨b, o, ⟨tx.toArray⟩, ⟨md.toArray⟩, ln, e, hb, by simpa using hx, hc 0 _ rfl, hc 1 _ rfl, hc 2 _ rfl⟩
theorem wncells_fit {l : List Wrn} {k : Nat} {tx : ByteArray} {md : ByteArray} {ln : Int} (h : ∀ x ∈ l, wncellsFit x) (hx : l[k]? = some ⟨tx.data.toList, md.data.toList, ln⟩) : tx.size ≤ maxTxt ∧ md.size ≤ maxTxt := by
  have := h _ (List.mem_of_getElem? hx)
  simpa [wncellsFit, ← Lib.size_eq] using this

set_option maxHeartbeats 1000000 in
set_option maxRecDepth 100000 in
theorem szWarning_c (tx : ByteArray) (md : ByteArray) (ln : Int) (left : Int) (w : World) (htx : tx.size ≤ maxLen) (hmd : md.size ≤ maxLen) (h0 : 0 ≤ left) (h1 : left ≤ 1048576) :
    Calls Tryz.prog 31 #[.agg #[.string tx, .string md, .int .i64 ln], .int .i64 left] w (SzPost left (tx.size ≤ maxTxt ∧ md.size ≤ maxTxt) w) := by
  unfold maxLen at htx hmd
  go_enter Tryz.func31, Tryz.ntmps31
  go_wp2_with fail
  all_goals go_ret
  all_goals exact ⟨_, rfl, by go_grown, by unfold maxTxt; omega⟩

set_option maxHeartbeats 2000000 in
set_option maxRecDepth 100000 in
theorem szWarningS_c (v : Value) (n B : Nat) (l : List Wrn) (left : Int) (w : World) (hv : Sl w B 3 n v (l.flatMap wncells)) (hB : B ≤ w.heap.size) (hm : ∀ x ∈ l, x.tx.length ≤ maxLen ∧ x.md.length ≤ maxLen) (h0 : 0 ≤ left) (h1 : left ≤ 1048576) :
    Calls Tryz.prog 7 #[v, .int .i64 left] w (SzPost left (n ≤ maxTxt ∧ ∀ x ∈ l, wncellsFit x) w) := by
  have hln := Sl.count wncells_len hv (by omega)
  obtain ⟨A, c, rfl, hnc, hcm⟩ := hv.form
  unfold maxLen at hcm
  have HV := hid (And.intro hv (And.intro hm hln))
  clear hv hm hln
  by_cases hl : left - (n : Int) < 0
  · go_enter Tryz.func7, Tryz.ntmps7
    go_wp2_with fail
    go_ret
    exact ⟨_, rfl, Below.refl _ _, .inl (by omega)⟩
  go_enter Tryz.func7, Tryz.ntmps7
  go_wp2_with fail
  go_loopw [1, 5] (fun lv iv wr => ∃ (k : Nat) (q : Int), iv = .int .i64 k ∧ lv = .int .i64 q ∧ k ≤ n ∧ 0 ≤ q ∧ q ≤ left ∧ Hid (∀ x ∈ l.take k, wncellsFit x) ∧ Hid (Below w.heap.size w wr)) (fun _ iv _ => n - (intOf iv).toNat)
  case atStart => exact ⟨0, _, rfl, rfl, by omega, by omega, by omega, by intro f hf; simp at hf, Below.refl _ _⟩
  case round =>
    obtain ⟨k, q, rfl, rfl, hk, hq0, hq1, HL, HB⟩ := hrel
    by_cases hlt : k < n
    · obtain ⟨b, o, tx, md, ln, rfl, hbB, hx, g0, g1, g2⟩ := wncells_at HV.out.1 hlt
      have c0 : wr.cell? ⟨b, o + k * 3, none⟩ = some (.string tx) := (HB.out.cell (p := ⟨b, o + k * 3, none⟩) (by show b < _; omega)).trans g0
      have c1 : wr.cell? ⟨b, o + k * 3 + 1, none⟩ = some (.string md) := (HB.out.cell (p := ⟨b, o + k * 3 + 1, none⟩) (by show b < _; omega)).trans g1
      have c2 : wr.cell? ⟨b, o + k * 3 + 2, none⟩ = some (.int .i64 ln) := (HB.out.cell (p := ⟨b, o + k * 3 + 2, none⟩) (by show b < _; omega)).trans g2
      have hms := HV.out.2.1 _ (List.mem_of_getElem? hx)
      simp only [← Lib.size_eq] at hms
      have hcall := hid (fun W => szWarning_c tx md ln q W hms.1 hms.2 hq0 (by omega))
      have HX := hid hx
      clear hx g0 g1 g2 hms
      go_wp2_with fail
      refine (hcall.out _).mono ?_
      rintro e w1 ⟨r, rfl, hb, hr⟩
      have HB1 := hid (HB.out.trans (hb.mono HB.out.size))
      clear hb
      rcases hr with hr | ⟨hr0, hr1, hr2⟩
      · go_wp2_with fail
        go_ret
        exact ⟨_, rfl, HB1.out, .inl (by omega)⟩
      · have HR := hid hr2
        clear hr2
        go_wp2_with fail
        go_roundw
        case rel =>
          refine ⟨k + 1, r, by go_num, rfl, by omega, hr0, by omega, ?_, HB1.out⟩
          intro g hg
          rcases mem_take_succ l k _ g HX.out hg with rfl | hg
          · have := HR.out; simpa [wncellsFit, ← Lib.size_eq] using this
          · exact HL.out g hg
        case measure => simp [intOf]; omega
    · go_wp2_with fail
      go_ret
      refine ⟨_, rfl, HB.out, .inr ⟨hq0, hq1, by unfold maxTxt; omega, ?_⟩⟩
      have := HL.out
      rwa [List.take_of_length_le (by have := HV.out.2.2; omega)] at this

set_option maxHeartbeats 1000000 in
set_option maxRecDepth 100000 in
theorem toWarning_c (tx : ByteArray) (md : ByteArray) (ln : Int) (w : World) :
    Calls Tryz.prog 41 #[.agg #[.string tx, .string md, .int .i64 ln]] w fun e w' => e = .returned (.agg #[.string tx, .string md, .int .i64 ln]) ∧ Below w.heap.size w w' := by
  go_enter Tryz.func41, Tryz.ntmps41
  go_wp2_with fail
  go_returns
  exact ⟨rfl, by go_grown⟩
theorem Tryz.infoWarning : (Tryz.prog.info? 59).map (fun i => (i.zero, i.size, i.bytes)) = some (some (.agg #[.string ByteArray.empty, .string ByteArray.empty, .int .i64 0]), 3, 40) := by kernel_rfl

/-- append of one Warning -/
theorem appWarning (w : World) {ops : Array Oper} {rest : List Oper} {o : Oper} {a : Act} {Q : Exit → Act → World → Prop} (hg : o.guard = none) (s x : Operand)
    (ho : o.op = .call { callee := .builtin .append, args := #[s, x], argTypes := #[40, 40] }) (base : Nat) (v : Value) (l : List Wrn) (hs : a.eval s = v)
    (hown : w.ownsRow base 59 3 v l.length (l.flatMap wncells)) (tx : ByteArray) (md : ByteArray) (ln : Int) (b0 c : Nat) (te : TypeId) (hx : a.eval x = .slice (some ⟨b0, 0, none⟩) 1 c) (hb0 : b0 = w.heap.size) (hl : l.length ≤ 1048576) (hbase : base ≤ w.heap.size)
    (h : ∀ v' w', w'.ownsRow base 59 3 v' (l ++ [(⟨tx.data.toList, md.data.toList, ln⟩ : Wrn)]).length ((l ++ [(⟨tx.data.toList, md.data.toList, ln⟩ : Wrn)]).flatMap wncells) → Below base w w' → wpList Tryz.prog ops Q rest (a.put o.dst v') w') :
    wpList Tryz.prog ops Q (o :: rest) a (w.alloc (.cells #[.string tx, .string md, .int .i64 ln] te)) := by
  subst hb0
  obtain ⟨i0, hi, hz0, hz1, hz2⟩ := info_parts Tryz.infoWarning
  refine wpList_app1 w hg s x 40 ho base 59 i0 _ 3 40 Tryz.underlying40 hi hz0 hz1 hz2 rfl (by decide) v l.length _ hs hown [.string tx, .string md, .int .i64 ln] c te hx rfl (List.all_eq_true.1 rfl) (by unfold maxLen; omega) (by omega) hbase fun v' w' h1 h2 => h v' w' ?_ h2
  simpa [wncells, txt_data] using h1

theorem wncells_one (l : List Wrn) : ∀ u ∈ l.flatMap wncells, u.oneCell' = true := by
  intro u hu
  obtain ⟨x, _, hx⟩ := List.mem_flatMap.1 hu
  simp only [wncells, List.mem_cons, List.not_mem_nil, or_false] at hx
  rcases hx with rfl | rfl | rfl <;> rfl
/-- append of a slice -/
theorem appWarningS (w : World) {ops : Array Oper} {rest : List Oper} {o : Oper} {a : Act} {Q : Exit → Act → World → Prop} (hg : o.guard = none) (s x : Operand)
    (ho : o.op = .call { callee := .builtin .append, args := #[s, x], argTypes := #[40, 40] }) (base : Nat) (v : Value) (l l2 : List Wrn) (hs : a.eval s = v)
    (hown : w.ownsRow base 59 3 v l.length (l.flatMap wncells)) (B : Nat) (src : Value) (hx : a.eval x = src) (hsl : Sl w B 3 l2.length src (l2.flatMap wncells)) (hl : l.length + l2.length ≤ 4194304) (hbase : base ≤ w.heap.size)
    (h : ∀ v' w', w'.ownsRow base 59 3 v' (l ++ l2).length ((l ++ l2).flatMap wncells) → Below base w w' → wpList Tryz.prog ops Q rest (a.put o.dst v') w') :
    wpList Tryz.prog ops Q (o :: rest) a w := by
  obtain ⟨i0, hi, hz0, hz1, hz2⟩ := info_parts Tryz.infoWarning
  refine wpList_appSl w hg s x 40 ho base 59 i0 _ 3 40 Tryz.underlying40 hi hz0 hz1 hz2 rfl (by decide) v l.length _ hs hown B l2.length src _ hx hsl (wncells_one l2) (by unfold maxLen; omega) (by omega) hbase fun v' w' h1 h2 => h v' w' ?_ h2
  simpa using h1

set_option maxHeartbeats 4000000 in
set_option maxRecDepth 100000 in
theorem toWarningS_c (v : Value) (n B : Nat) (l : List Wrn) (w : World) (hv : Sl w B 3 n v (l.flatMap wncells)) (hB : B ≤ w.heap.size) (hn : n ≤ 1048576) :
    Calls Tryz.prog 11 #[v] w (RowPost w 59 3 n (l.flatMap wncells)) := by
  have hln := Sl.count wncells_len hv (by omega)
  obtain ⟨A, c, rfl, hnc, hcm⟩ := hv.form
  obtain ⟨i0, hi, hz0, hz1, hz2⟩ := info_parts Tryz.infoWarning
  unfold maxLen at hcm
  have HV := hid (And.intro hv hln)
  clear hv hln
  go_enter Tryz.func11, Tryz.ntmps11
  go_wp2_with (at_make; refine wpList_make_full _ rfl _ _ 40 rfl w.heap.size 59 i0 _ 3 Tryz.underlying40 hi hz0 hz1 .i64 .i64 _ _ n rfl rfl rfl rfl (by rw [hz2]; omega) (by unfold maxLen; omega) (Nat.le_refl _) ?_)
  intro w1 hown hg1
  have H1 := hid (And.intro hown (below_of_grown hg1 (Nat.le_refl _) (by simp)))
  clear hown hg1
  go_wp2_with fail
  go_loopw [4] (fun iv wr => ∃ (k : Nat) (xs : List Value), iv = .int .i64 k ∧ k ≤ n ∧ wr.ownsRow w.heap.size 59 3 (.slice (some ⟨w.heap.size, 0, none⟩) n n) n xs ∧ Hid (∀ j, j < k * 3 → xs[j]? = (l.flatMap wncells)[j]?) ∧ Hid (Below w.heap.size w wr)) (fun iv _ => n - (intOf iv).toNat)
  case atStart => exact ⟨0, _, rfl, by omega, H1.out.1, fun j hj => by omega, H1.out.2⟩
  case round =>
    obtain ⟨k, xs, rfl, hk, hown, HX, HB⟩ := hrel
    by_cases hlt : k < n
    · obtain ⟨b, o, tx, md, ln, rfl, hbB, hx, g0, g1, g2⟩ := wncells_at HV.out.1 hlt
      have c0 : wr.cell? ⟨b, o + k * 3, none⟩ = some (.string tx) := (HB.out.cell (p := ⟨b, o + k * 3, none⟩) (by show b < _; omega)).trans g0
      have c1 : wr.cell? ⟨b, o + k * 3 + 1, none⟩ = some (.string md) := (HB.out.cell (p := ⟨b, o + k * 3 + 1, none⟩) (by show b < _; omega)).trans g1
      have c2 : wr.cell? ⟨b, o + k * 3 + 2, none⟩ = some (.int .i64 ln) := (HB.out.cell (p := ⟨b, o + k * 3 + 2, none⟩) (by show b < _; omega)).trans g2
      have hcall := hid (fun W => toWarning_c tx md ln W)
      have HX2 := hid hx
      have HO := hid hown
      clear hx g0 g1 g2 hown
      go_wp2_with fail
      refine (hcall.out _).mono ?_
      rintro e w2 ⟨rfl, hb⟩
      have hown2 := own_below HO.out hb
      obtain ⟨u0, d0⟩ := own_cell hown2 (j := k * 3) (by omega)
      obtain ⟨u1, d1⟩ := own_cell hown2 (j := k * 3 + 1) (by omega)
      obtain ⟨u2, d2⟩ := own_cell hown2 (j := k * 3 + 2) (by omega)
      have f0 := hown2.frozenAt (k * 3)
      have f1 := hown2.frozenAt (k * 3 + 1)
      have f2 := hown2.frozenAt (k * 3 + 2)
      have R := hid (own_put3 hown2 (k * 3) (.string tx) (.string md) (.int .i64 ln))
      have HB2 := hid (HB.out.trans (hb.mono HB.out.size))
      have hxl := hown2.1
      clear hown2 hb c0 c1 c2
      go_wp2_with fail
      go_roundw
      case rel =>
        refine ⟨k + 1, _, by go_num, by omega, R.out, ?_, (((HB2.out.setCell (Nat.le_refl _) _).setCell (Nat.le_refl _) _).setCell (Nat.le_refl _) _)⟩
        intro j hj
        have e := flat_put wncells 3 wncells_len l k _ HX2.out xs (by omega) (by rw [Sl.count wncells_len HV.out.1 (by omega)]; exact hxl) HX.out j (by omega)
        simpa [put_all, wncells, txt_data] using e
      case measure => simp [intOf]; omega
    · have HO := hid hown
      clear hown
      go_wp2_with fail
      go_ret
      refine ⟨_, rfl, ?_, HB.out⟩
      have e : xs = l.flatMap wncells := by
        have h1 := HO.out.1
        have h2 := flat_len wncells 3 wncells_len l
        have h3 := HV.out.2
        apply List.ext_getElem?
        intro j
        by_cases hj : j < k * 3
        · exact HX.out j hj
        · rw [List.getElem?_eq_none (by omega), List.getElem?_eq_none (by omega)]
      rw [← e]
      exact HO.out

set_option maxHeartbeats 1000000 in
set_option maxRecDepth 100000 in
theorem eqWarning_c (tx : ByteArray) (md : ByteArray) (ln : Int) (w : World) :
    Calls Tryz.prog 47 #[.agg #[.string tx, .string md, .int .i64 ln], .agg #[.string tx, .string md, .int .i64 ln]] w (BoolPost w true) := by
  have b0 : (tx.toList != tx.toList) = false := by simp
  have b1 : (md.toList != md.toList) = false := by simp
  have b2 : (ln != ln) = false := by simp
  go_enter Tryz.func47, Tryz.ntmps47
  go_wp2_with fail
  go_ret
  exact ⟨rfl, by go_grown⟩

set_option maxHeartbeats 4000000 in
set_option maxRecDepth 100000 in
/-- two slices that read alike -/
theorem eqWarningS_c (v1 v2 : Value) (n B : Nat) (l : List Wrn) (w : World) (h1 : Sl w B 3 n v1 (l.flatMap wncells)) (h2 : Sl w B 3 n v2 (l.flatMap wncells)) (hB : B ≤ w.heap.size) :
    Calls Tryz.prog 16 #[v1, v2] w (BoolPost w true) := by
  obtain ⟨A1, k1, rfl, _, hm1⟩ := h1.form
  obtain ⟨A2, k2, rfl, _, hm2⟩ := h2.form
  unfold maxLen at hm1 hm2
  have HS := hid (And.intro h1 h2)
  have b0 : ((n : Int) != (n : Int)) = false := by simp
  clear h1 h2
  go_enter Tryz.func16, Tryz.ntmps16
  go_wp2_with fail
  go_loopw [5] (fun iv wr => ∃ (i : Nat), iv = .int .i64 i ∧ i ≤ n ∧ Hid (Below w.heap.size w wr)) (fun iv _ => n - (intOf iv).toNat)
  case atStart => exact ⟨0, rfl, by omega, Below.refl _ _⟩
  case round =>
    obtain ⟨k, rfl, hi, HB⟩ := hrel
    by_cases hlt : k < n
    · obtain ⟨b, o, tx, md, ln, rfl, hb1, hx, g0, g1, g2⟩ := wncells_at HS.out.1 hlt
      obtain ⟨b', o', tx', md', ln', rfl, hb2, hx', g0', g1', g2'⟩ := wncells_at HS.out.2 hlt
      rw [hx] at hx'
      have hx'' := Option.some.inj hx'
      simp only [Wrn.mk.injEq, bytes_eq_iff] at hx''
      obtain ⟨rfl, rfl, rfl⟩ := hx''
      have c0 : wr.cell? ⟨b, o + k * 3, none⟩ = some (.string tx) := (HB.out.cell (p := ⟨b, o + k * 3, none⟩) (by show b < _; omega)).trans g0
      have c1 : wr.cell? ⟨b, o + k * 3 + 1, none⟩ = some (.string md) := (HB.out.cell (p := ⟨b, o + k * 3 + 1, none⟩) (by show b < _; omega)).trans g1
      have c2 : wr.cell? ⟨b, o + k * 3 + 2, none⟩ = some (.int .i64 ln) := (HB.out.cell (p := ⟨b, o + k * 3 + 2, none⟩) (by show b < _; omega)).trans g2
      have c0' : wr.cell? ⟨b', o' + k * 3, none⟩ = some (.string tx) := (HB.out.cell (p := ⟨b', o' + k * 3, none⟩) (by show b' < _; omega)).trans g0'
      have c1' : wr.cell? ⟨b', o' + k * 3 + 1, none⟩ = some (.string md) := (HB.out.cell (p := ⟨b', o' + k * 3 + 1, none⟩) (by show b' < _; omega)).trans g1'
      have c2' : wr.cell? ⟨b', o' + k * 3 + 2, none⟩ = some (.int .i64 ln) := (HB.out.cell (p := ⟨b', o' + k * 3 + 2, none⟩) (by show b' < _; omega)).trans g2'
      have hcall := hid (fun W => eqWarning_c tx md ln W)
      have hlt1 : b < wr.heap.size := by have := HB.out.size; omega
      have hlt2 : b' < wr.heap.size := by have := HB.out.size; omega
      clear hx hx' g0 g1 g2 g0' g1' g2'
      go_wp2_with fail
      go_region_with (go_at_call 47; refine (hcall.out _).mono ?_; rintro e w1 ⟨rfl, hb⟩)
      all_goals go_wp2_with fail
      all_goals
        go_roundw
        case rel => exact ⟨k + 1, by go_num, by omega, by first | exact HB.out.trans (hb.mono HB.out.size) | exact HB.out.drew.trans (hb.mono HB.out.drew.size)⟩
        case measure => simp [intOf]; omega
    · go_wp2_with fail
      go_ret
      exact ⟨rfl, HB.out⟩
def wncellsKinds : List Bool := [true, true, false]

set_option maxHeartbeats 4000000 in
set_option maxRecDepth 100000 in
theorem markWarningS_c (v : Value) (n base k : Nat) (xs : List Value) (w : World) (hv : w.ownsRow base 59 3 v n xs) (hn : n * 3 + k ≤ 17592186044416) :
    Calls Tryz.prog 19 #[v, .int .i64 k] w (MarkPost w v base 59 wncellsKinds 3 n k) := by
  obtain ⟨A, c, rfl, hnc, hcm⟩ := (Sl.of_own hv).form
  unfold maxLen at hcm
  have HV := hid hv
  clear hv
  go_enter Tryz.func19, Tryz.ntmps19
  go_wp2_with fail
  go_loopw [1, 5] (fun kv iv wr => ∃ (i : Nat) (q : Int) (ys : List Value), kv = .int .i64 q ∧ iv = .int .i64 i ∧ i ≤ n ∧ 0 ≤ q ∧ q ≤ 17592186044416 ∧ Hid (q = ((k + i * 3 : Nat) : Int)) ∧ Hid (wr.ownsRow base 59 3 (.slice A n c) n ys) ∧ Hid (MarkedK wncellsKinds 3 ys k (i * 3)) ∧ Hid (w.grownBy wr (Value.slice A n c).ownBlock)) (fun _ iv _ => n - (intOf iv).toNat)
  case atStart => exact ⟨0, _, xs, rfl, rfl, Nat.zero_le _, by omega, by omega, by show (k : Int) = _; simp, HV.out, fun j hj => absurd hj (by omega), World.grownBy.refl _ _⟩
  case round =>
    obtain ⟨i, q, ys, rfl, rfl, hi, hq0, hq1, HQ, HO, HM, HG⟩ := hrel
    by_cases hlt : i < n
    · obtain ⟨g, rfl, hglt⟩ := own_some HO.out (by omega)
      have hid2 : i * 3 + 3 ≤ n * 3 := by have := Nat.mul_le_mul_right 3 hlt; omega
      have hq2 : q ≤ 17592186044416 - 3 := by have := HQ.out; omega
      obtain ⟨x0, hx0, _⟩ := txt_mk (mt (k + i * 3 + 0))
      have HC0 := hid (fun W => mark_at (q := q) (m := k + i * 3 + 0) W (by have := HQ.out; omega) (by have := HQ.out; omega) hx0)
      have HX0 := hid hx0
      clear hx0
      obtain ⟨x1, hx1, _⟩ := txt_mk (mt (k + i * 3 + 1))
      have HC1 := hid (fun W => mark_at (q := (q + 1)) (m := k + i * 3 + 1) W (by have := HQ.out; omega) (by have := HQ.out; omega) hx1)
      have HX1 := hid hx1
      clear hx1
      go_wp2_with fail
      refine (HC0.out _).mono ?_
      rintro e w0 ⟨rfl, hb⟩
      have hown := own_below HO.out hb
      have HG0a := hid (grown_tr HG.out (grown_of hb _))
      clear hb
      obtain ⟨u0, d0⟩ := own_cell hown (j := i * 3) (by have := Nat.mul_le_mul_right 3 hlt; omega)
      have f0 := hown.frozenAt (i * 3)
      have hs0 := hown.stored (i * 3) (.string x0)
      have HO0 := hid hs0.1
      have HG0 := hid (grown_tr HG0a.out hs0.2)
      clear hown hs0
      go_wp2_with fail
      refine (HC1.out _).mono ?_
      rintro e w1 ⟨rfl, hb⟩
      have hown := own_below HO0.out hb
      have HG1a := hid (grown_tr HG0.out (grown_of hb _))
      clear hb
      obtain ⟨u1, d1⟩ := own_cell hown (j := i * 3 + 1) (by have := Nat.mul_le_mul_right 3 hlt; omega)
      have f1 := hown.frozenAt (i * 3 + 1)
      obtain ⟨u2, d2⟩ := own_cell hown (j := i * 3 + 2) (by have := Nat.mul_le_mul_right 3 hlt; omega)
      have f2 := hown.frozenAt (i * 3 + 2)
      have hs1 := hown.stored (i * 3 + 1) (.string x1)
      have hs2 := hs1.1.stored (i * 3 + 2) (.int .i64 (q + 1 + 1))
      have HO1 := hid hs2.1
      have HG1 := hid (grown_tr (grown_tr HG1a.out hs1.2) hs2.2)
      clear hown hs1 hs2
      go_wp2_with fail
      go_roundw
      case rel =>
        refine ⟨i + 1, _, _, rfl, by go_num, by omega, by omega, by omega, ?_, HO1.out, ?_, HG1.out⟩
        · have := HQ.out; show _ = _; rw [this]; omega
        · have hm := marked_put (ks := wncellsKinds) (d := 3) HM.out [.string x0, .string x1, .int .i64 (q + 1 + 1)] rfl (by have := HO.out.1; have := Nat.mul_le_mul_right 3 hlt; omega) (by
            intro j hj
            have := HQ.out
            match j, hj with
            | 0, _ => (have := HX0.out; simpa [wncellsKinds, mkv] using this.symm)
            | 1, _ => (have := HX1.out; simpa [wncellsKinds, mkv] using this.symm)
            | 2, _ => simp [wncellsKinds, mkv]; omega)
          exact hm
      case measure => simp [intOf]; omega
    · obtain rfl : i = n := by omega
      go_wp2_with fail
      go_ret
      exact ⟨ret_int HQ.out, ⟨ys, HO.out, HM.out⟩, HG.out⟩

end Go.Proofs.YtlifaeleoiodkaaGreatDoor
