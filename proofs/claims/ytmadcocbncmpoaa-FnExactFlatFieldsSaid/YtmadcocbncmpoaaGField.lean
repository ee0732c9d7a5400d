/-
  Field: how slices of them lie in memory, and the walks of what the laws do with them (sized, copied, compared, marked, held). By gen_flat.py.
-/
import Derived.Test.YtmadcocbncmpoaaHelps
namespace Go.Proofs.Ytmadcocbncmpoaa
open Go.RowKit Nm
set_option linter.unusedSimpArgs false
set_option linter.unusedVariables false

structure Fld where
  ky : List UInt8
  vl : List UInt8
deriving DecidableEq
def fdcells (x : Fld) : List Value := [txt x.ky, txt x.vl]
theorem fdcells_len (x : Fld) : (fdcells x).length = 2 := rfl
def fdcellsFit (x : Fld) : Prop := x.ky.length ≤ maxTxt ∧ x.vl.length ≤ maxTxt
def Flds (w : World) (B n : Nat) (v : Value) (l : List Fld) : Prop := Sl w B 2 n v (l.flatMap fdcells) ∧ ∀ x ∈ l, fdcellsFit x
section
variable {w w' : World} {B B' n : Nat} {v : Value} {l : List Fld}
theorem Flds.below (h : Flds w B n v l) (hb : Below B' w w') (hB : B ≤ B') : Flds w' B n v l := ⟨h.1.below hb hB, h.2⟩
theorem Flds.more (h : Flds w B n v l) (hB : B ≤ B') : Flds w B' n v l := ⟨h.1.more hB, h.2⟩
theorem Flds.count (h : Flds w B n v l) : l.length = n := Sl.count fdcells_len h.1 (by omega)
end
/-- element k: its cells -/
theorem fdcells_at {w : World} {B n c : Nat} {A : Option Addr} {l : List Fld} (h : Sl w B 2 n (.slice A n c) (l.flatMap fdcells)) {k : Nat} (hk : k < n) :
    ∃ (b o : Nat) (ky : ByteArray) (vl : ByteArray), A = some ⟨b, o, none⟩ ∧ b < B ∧ l[k]? = some ⟨ky.data.toList, vl.data.toList⟩ ∧ w.cell? ⟨b, o + k * 2, none⟩ = some (.string ky) ∧ w.cell? ⟨b, o + k * 2 + 1, none⟩ = some (.string vl) := by
  obtain ⟨b, o, x, e, hb, hx, hc⟩ := Sl.elem fdcells_len h (by omega) hk
  obtain ⟨ky, vl⟩ := x
  exact ⟨b, o, ⟨ky.toArray⟩, ⟨vl.toArray⟩, e, hb, by simpa using hx, hc 0 _ rfl, hc 1 _ rfl⟩
theorem fdcells_fit {l : List Fld} {k : Nat} {ky : ByteArray} {vl : ByteArray} (h : ∀ x ∈ l, fdcellsFit x) (hx : l[k]? = some ⟨ky.data.toList, vl.data.toList⟩) : ky.size ≤ maxTxt ∧ vl.size ≤ maxTxt := by
  have := h _ (List.mem_of_getElem? hx)
  simpa [fdcellsFit, ← Lib.size_eq] using this

set_option maxHeartbeats 1000000 in
set_option maxRecDepth 100000 in
theorem szField_c (ky : ByteArray) (vl : ByteArray) (left : Int) (w : World) (hky : ky.size ≤ maxLen) (hvl : vl.size ≤ maxLen) (h0 : 0 ≤ left) (h1 : left ≤ 1048576) :
    Calls Try.prog 21 #[.agg #[.string ky, .string vl], .int .i64 left] w (SzPost left (ky.size ≤ maxTxt ∧ vl.size ≤ maxTxt) w) := by
  unfold maxLen at hky hvl
  go_enter Try.func21, Try.ntmps21
  go_wp2_with fail
  all_goals go_ret
  all_goals exact ⟨_, rfl, by go_grown, by unfold maxTxt; omega⟩

set_option maxHeartbeats 2000000 in
set_option maxRecDepth 100000 in
theorem szFieldS_c (v : Value) (n B : Nat) (l : List Fld) (left : Int) (w : World) (hv : Sl w B 2 n v (l.flatMap fdcells)) (hB : B ≤ w.heap.size) (hm : ∀ x ∈ l, x.ky.length ≤ maxLen ∧ x.vl.length ≤ maxLen) (h0 : 0 ≤ left) (h1 : left ≤ 1048576) :
    Calls Try.prog 13 #[v, .int .i64 left] w (SzPost left (n ≤ maxTxt ∧ ∀ x ∈ l, fdcellsFit x) w) := by
  have hln := Sl.count fdcells_len hv (by omega)
  obtain ⟨A, c, rfl, hnc, hcm⟩ := hv.form
  unfold maxLen at hcm
  have HV := hid (And.intro hv (And.intro hm hln))
  clear hv hm hln
  by_cases hl : left - (n : Int) < 0
  · go_enter Try.func13, Try.ntmps13
    go_wp2_with fail
    go_ret
    exact ⟨_, rfl, Below.refl _ _, .inl (by omega)⟩
  go_enter Try.func13, Try.ntmps13
  go_wp2_with fail
  go_loopw [1, 5] (fun lv iv wr => ∃ (k : Nat) (q : Int), iv = .int .i64 k ∧ lv = .int .i64 q ∧ k ≤ n ∧ 0 ≤ q ∧ q ≤ left ∧ Hid (∀ x ∈ l.take k, fdcellsFit x) ∧ Hid (Below w.heap.size w wr)) (fun _ iv _ => n - (intOf iv).toNat)
  case atStart => exact ⟨0, _, rfl, rfl, by omega, by omega, by omega, by intro f hf; simp at hf, Below.refl _ _⟩
  case round =>
    obtain ⟨k, q, rfl, rfl, hk, hq0, hq1, HL, HB⟩ := hrel
    by_cases hlt : k < n
    · obtain ⟨b, o, ky, vl, rfl, hbB, hx, g0, g1⟩ := fdcells_at HV.out.1 hlt
      have c0 : wr.cell? ⟨b, o + k * 2, none⟩ = some (.string ky) := (HB.out.cell (p := ⟨b, o + k * 2, none⟩) (by show b < _; omega)).trans g0
      have c1 : wr.cell? ⟨b, o + k * 2 + 1, none⟩ = some (.string vl) := (HB.out.cell (p := ⟨b, o + k * 2 + 1, none⟩) (by show b < _; omega)).trans g1
      have hms := HV.out.2.1 _ (List.mem_of_getElem? hx)
      simp only [← Lib.size_eq] at hms
      have hcall := hid (fun W => szField_c ky vl q W hms.1 hms.2 hq0 (by omega))
      have HX := hid hx
      clear hx g0 g1 hms
      go_wp2_with fail
      refine (hcall.out _).mono ?_
      rintro e w1 ⟨r, rfl, hb, hr⟩
      have HB1 := hid (HB.out.trans (hb.mono HB.out.size))
      clear hb
      rcases hr with hr | ⟨hr0, hr1, hr2⟩
      · go_wp2_with fail
        go_ret
        exact ⟨_, rfl, HB1.out, .inl (by omega)⟩
      · have HR := hid hr2
        clear hr2
        go_wp2_with fail
        go_roundw
        case rel =>
          refine ⟨k + 1, r, by go_num, rfl, by omega, hr0, by omega, ?_, HB1.out⟩
          intro g hg
          rcases mem_take_succ l k _ g HX.out hg with rfl | hg
          · have := HR.out; simpa [fdcellsFit, ← Lib.size_eq] using this
          · exact HL.out g hg
        case measure => simp [intOf]; omega
    · go_wp2_with fail
      go_ret
      refine ⟨_, rfl, HB.out, .inr ⟨hq0, hq1, by unfold maxTxt; omega, ?_⟩⟩
      have := HL.out
      rwa [List.take_of_length_le (by have := HV.out.2.2; omega)] at this

set_option maxHeartbeats 1000000 in
set_option maxRecDepth 100000 in
theorem toField_c (ky : ByteArray) (vl : ByteArray) (w : World) :
    Calls Try.prog 24 #[.agg #[.string ky, .string vl]] w fun e w' => e = .returned (.agg #[.string ky, .string vl]) ∧ Below w.heap.size w w' := by
  go_enter Try.func24, Try.ntmps24
  go_wp2_with fail
  go_returns
  exact ⟨rfl, by go_grown⟩
theorem Try.infoField : (Try.prog.info? 40).map (fun i => (i.zero, i.size, i.bytes)) = some (some (.agg #[.string ByteArray.empty, .string ByteArray.empty]), 2, 32) := by kernel_rfl

/-- append of one Field -/
theorem appField (w : World) {ops : Array Oper} {rest : List Oper} {o : Oper} {a : Act} {Q : Exit → Act → World → Prop} (hg : o.guard = none) (s x : Operand)
    (ho : o.op = .call { callee := .builtin .append, args := #[s, x], argTypes := #[24, 24] }) (base : Nat) (v : Value) (l : List Fld) (hs : a.eval s = v)
    (hown : w.ownsRow base 40 2 v l.length (l.flatMap fdcells)) (ky : ByteArray) (vl : ByteArray) (b0 c : Nat) (te : TypeId) (hx : a.eval x = .slice (some ⟨b0, 0, none⟩) 1 c) (hb0 : b0 = w.heap.size) (hl : l.length ≤ 1048576) (hbase : base ≤ w.heap.size)
    (h : ∀ v' w', w'.ownsRow base 40 2 v' (l ++ [(⟨ky.data.toList, vl.data.toList⟩ : Fld)]).length ((l ++ [(⟨ky.data.toList, vl.data.toList⟩ : Fld)]).flatMap fdcells) → Below base w w' → wpList Try.prog ops Q rest (a.put o.dst v') w') :
    wpList Try.prog ops Q (o :: rest) a (w.alloc (.cells #[.string ky, .string vl] te)) := by
  subst hb0
  obtain ⟨i0, hi, hz0, hz1, hz2⟩ := info_parts Try.infoField
  refine wpList_app1 w hg s x 24 ho base 40 i0 _ 2 32 Try.underlying24 hi hz0 hz1 hz2 rfl (by decide) v l.length _ hs hown [.string ky, .string vl] c te hx rfl (List.all_eq_true.1 rfl) (by unfold maxLen; omega) (by omega) hbase fun v' w' h1 h2 => h v' w' ?_ h2
  simpa [fdcells, txt_data] using h1

theorem fdcells_one (l : List Fld) : ∀ u ∈ l.flatMap fdcells, u.oneCell' = true := by
  intro u hu
  obtain ⟨x, _, hx⟩ := List.mem_flatMap.1 hu
  simp only [fdcells, List.mem_cons, List.not_mem_nil, or_false] at hx
  rcases hx with rfl | rfl <;> rfl
/-- append of a slice -/
theorem appFieldS (w : World) {ops : Array Oper} {rest : List Oper} {o : Oper} {a : Act} {Q : Exit → Act → World → Prop} (hg : o.guard = none) (s x : Operand)
    (ho : o.op = .call { callee := .builtin .append, args := #[s, x], argTypes := #[24, 24] }) (base : Nat) (v : Value) (l l2 : List Fld) (hs : a.eval s = v)
    (hown : w.ownsRow base 40 2 v l.length (l.flatMap fdcells)) (B : Nat) (src : Value) (hx : a.eval x = src) (hsl : Sl w B 2 l2.length src (l2.flatMap fdcells)) (hl : l.length + l2.length ≤ 4194304) (hbase : base ≤ w.heap.size)
    (h : ∀ v' w', w'.ownsRow base 40 2 v' (l ++ l2).length ((l ++ l2).flatMap fdcells) → Below base w w' → wpList Try.prog ops Q rest (a.put o.dst v') w') :
    wpList Try.prog ops Q (o :: rest) a w := by
  obtain ⟨i0, hi, hz0, hz1, hz2⟩ := info_parts Try.infoField
  refine wpList_appSl w hg s x 24 ho base 40 i0 _ 2 32 Try.underlying24 hi hz0 hz1 hz2 rfl (by decide) v l.length _ hs hown B l2.length src _ hx hsl (fdcells_one l2) (by unfold maxLen; omega) (by omega) hbase fun v' w' h1 h2 => h v' w' ?_ h2
  simpa using h1

set_option maxHeartbeats 4000000 in
set_option maxRecDepth 100000 in
theorem toFieldS_c (v : Value) (n B : Nat) (l : List Fld) (w : World) (hv : Sl w B 2 n v (l.flatMap fdcells)) (hB : B ≤ w.heap.size) (hn : n ≤ 1048576) :
    Calls Try.prog 16 #[v] w (RowPost w 40 2 n (l.flatMap fdcells)) := by
  have hln := Sl.count fdcells_len hv (by omega)
  obtain ⟨A, c, rfl, hnc, hcm⟩ := hv.form
  obtain ⟨i0, hi, hz0, hz1, hz2⟩ := info_parts Try.infoField
  unfold maxLen at hcm
  have HV := hid (And.intro hv hln)
  clear hv hln
  go_enter Try.func16, Try.ntmps16
  go_wp2_with (at_make; refine wpList_make_full _ rfl _ _ 24 rfl w.heap.size 40 i0 _ 2 Try.underlying24 hi hz0 hz1 .i64 .i64 _ _ n rfl rfl rfl rfl (by rw [hz2]; omega) (by unfold maxLen; omega) (Nat.le_refl _) ?_)
  intro w1 hown hg1
  have H1 := hid (And.intro hown (below_of_grown hg1 (Nat.le_refl _) (by simp)))
  clear hown hg1
  go_wp2_with fail
  go_loopw [4] (fun iv wr => ∃ (k : Nat) (xs : List Value), iv = .int .i64 k ∧ k ≤ n ∧ wr.ownsRow w.heap.size 40 2 (.slice (some ⟨w.heap.size, 0, none⟩) n n) n xs ∧ Hid (∀ j, j < k * 2 → xs[j]? = (l.flatMap fdcells)[j]?) ∧ Hid (Below w.heap.size w wr)) (fun iv _ => n - (intOf iv).toNat)
  case atStart => exact ⟨0, _, rfl, by omega, H1.out.1, fun j hj => by omega, H1.out.2⟩
  case round =>
    obtain ⟨k, xs, rfl, hk, hown, HX, HB⟩ := hrel
    by_cases hlt : k < n
    · obtain ⟨b, o, ky, vl, rfl, hbB, hx, g0, g1⟩ := fdcells_at HV.out.1 hlt
      have c0 : wr.cell? ⟨b, o + k * 2, none⟩ = some (.string ky) := (HB.out.cell (p := ⟨b, o + k * 2, none⟩) (by show b < _; omega)).trans g0
      have c1 : wr.cell? ⟨b, o + k * 2 + 1, none⟩ = some (.string vl) := (HB.out.cell (p := ⟨b, o + k * 2 + 1, none⟩) (by show b < _; omega)).trans g1
      have hcall := hid (fun W => toField_c ky vl W)
      have HX2 := hid hx
      have HO := hid hown
      clear hx g0 g1 hown
      go_wp2_with fail
      refine (hcall.out _).mono ?_
      rintro e w2 ⟨rfl, hb⟩
      have hown2 := own_below HO.out hb
      obtain ⟨u0, d0⟩ := own_cell hown2 (j := k * 2) (by omega)
      obtain ⟨u1, d1⟩ := own_cell hown2 (j := k * 2 + 1) (by omega)
      have f0 := hown2.frozenAt (k * 2)
      have f1 := hown2.frozenAt (k * 2 + 1)
      have R := hid (own_put2 hown2 (k * 2) (.string ky) (.string vl))
      have HB2 := hid (HB.out.trans (hb.mono HB.out.size))
      have hxl := hown2.1
      clear hown2 hb c0 c1
      go_wp2_with fail
      go_roundw
      case rel =>
        refine ⟨k + 1, _, by go_num, by omega, R.out, ?_, ((HB2.out.setCell (Nat.le_refl _) _).setCell (Nat.le_refl _) _)⟩
        intro j hj
        have e := flat_put fdcells 2 fdcells_len l k _ HX2.out xs (by omega) (by rw [Sl.count fdcells_len HV.out.1 (by omega)]; exact hxl) HX.out j (by omega)
        simpa [put_all, fdcells, txt_data] using e
      case measure => simp [intOf]; omega
    · have HO := hid hown
      clear hown
      go_wp2_with fail
      go_ret
      refine ⟨_, rfl, ?_, HB.out⟩
      have e : xs = l.flatMap fdcells := by
        have h1 := HO.out.1
        have h2 := flat_len fdcells 2 fdcells_len l
        have h3 := HV.out.2
        apply List.ext_getElem?
        intro j
        by_cases hj : j < k * 2
        · exact HX.out j hj
        · rw [List.getElem?_eq_none (by omega), List.getElem?_eq_none (by omega)]
      rw [← e]
      exact HO.out

set_option maxHeartbeats 1000000 in
set_option maxRecDepth 100000 in
theorem eqField_c (ky : ByteArray) (vl : ByteArray) (w : World) :
    Calls Try.prog 19 #[.agg #[.string ky, .string vl], .agg #[.string ky, .string vl]] w (BoolPost w true) := by
  have b0 : (ky.toList != ky.toList) = false := by simp
  have b1 : (vl.toList != vl.toList) = false := by simp
  go_enter Try.func19, Try.ntmps19
  go_wp2_with fail
  go_ret
  exact ⟨rfl, by go_grown⟩

set_option maxHeartbeats 4000000 in
set_option maxRecDepth 100000 in
/-- two slices that read alike -/
theorem eqFieldS_c (v1 v2 : Value) (n B : Nat) (l : List Fld) (w : World) (h1 : Sl w B 2 n v1 (l.flatMap fdcells)) (h2 : Sl w B 2 n v2 (l.flatMap fdcells)) (hB : B ≤ w.heap.size) :
    Calls Try.prog 8 #[v1, v2] w (BoolPost w true) := by
  obtain ⟨A1, k1, rfl, _, hm1⟩ := h1.form
  obtain ⟨A2, k2, rfl, _, hm2⟩ := h2.form
  unfold maxLen at hm1 hm2
  have HS := hid (And.intro h1 h2)
  have b0 : ((n : Int) != (n : Int)) = false := by simp
  clear h1 h2
  go_enter Try.func8, Try.ntmps8
  go_wp2_with fail
  go_loopw [5] (fun iv wr => ∃ (i : Nat), iv = .int .i64 i ∧ i ≤ n ∧ Hid (Below w.heap.size w wr)) (fun iv _ => n - (intOf iv).toNat)
  case atStart => exact ⟨0, rfl, by omega, Below.refl _ _⟩
  case round =>
    obtain ⟨k, rfl, hi, HB⟩ := hrel
    by_cases hlt : k < n
    · obtain ⟨b, o, ky, vl, rfl, hb1, hx, g0, g1⟩ := fdcells_at HS.out.1 hlt
      obtain ⟨b', o', ky', vl', rfl, hb2, hx', g0', g1'⟩ := fdcells_at HS.out.2 hlt
      rw [hx] at hx'
      have hx'' := Option.some.inj hx'
      simp only [Fld.mk.injEq, bytes_eq_iff] at hx''
      obtain ⟨rfl, rfl⟩ := hx''
      have c0 : wr.cell? ⟨b, o + k * 2, none⟩ = some (.string ky) := (HB.out.cell (p := ⟨b, o + k * 2, none⟩) (by show b < _; omega)).trans g0
      have c1 : wr.cell? ⟨b, o + k * 2 + 1, none⟩ = some (.string vl) := (HB.out.cell (p := ⟨b, o + k * 2 + 1, none⟩) (by show b < _; omega)).trans g1
      have c0' : wr.cell? ⟨b', o' + k * 2, none⟩ = some (.string ky) := (HB.out.cell (p := ⟨b', o' + k * 2, none⟩) (by show b' < _; omega)).trans g0'
      have c1' : wr.cell? ⟨b', o' + k * 2 + 1, none⟩ = some (.string vl) := (HB.out.cell (p := ⟨b', o' + k * 2 + 1, none⟩) (by show b' < _; omega)).trans g1'
      have hcall := hid (fun W => eqField_c ky vl W)
      have hlt1 : b < wr.heap.size := by have := HB.out.size; omega
      have hlt2 : b' < wr.heap.size := by have := HB.out.size; omega
      clear hx hx' g0 g1 g0' g1'
      go_wp2_with fail
      go_region_with (go_at_call 19; refine (hcall.out _).mono ?_; rintro e w1 ⟨rfl, hb⟩)
      all_goals go_wp2_with fail
      all_goals
        go_roundw
        case rel => exact ⟨k + 1, by go_num, by omega, by first | exact HB.out.trans (hb.mono HB.out.size) | exact HB.out.drew.trans (hb.mono HB.out.drew.size)⟩
        case measure => simp [intOf]; omega
    · go_wp2_with fail
      go_ret
      exact ⟨rfl, HB.out⟩
def fdcellsKinds : List Bool := [true, true]

set_option maxHeartbeats 4000000 in
set_option maxRecDepth 100000 in
theorem markFieldS_c (v : Value) (n base k : Nat) (xs : List Value) (w : World) (hv : w.ownsRow base 40 2 v n xs) (hn : n * 2 + k ≤ 17592186044416) :
    Calls Try.prog 11 #[v, .int .i64 k] w (MarkPost w v base 40 fdcellsKinds 2 n k) := by
  obtain ⟨A, c, rfl, hnc, hcm⟩ := (Sl.of_own hv).form
  unfold maxLen at hcm
  have HV := hid hv
  clear hv
  go_enter Try.func11, Try.ntmps11
  go_wp2_with fail
  go_loopw [1, 5] (fun kv iv wr => ∃ (i : Nat) (q : Int) (ys : List Value), kv = .int .i64 q ∧ iv = .int .i64 i ∧ i ≤ n ∧ 0 ≤ q ∧ q ≤ 17592186044416 ∧ Hid (q = ((k + i * 2 : Nat) : Int)) ∧ Hid (wr.ownsRow base 40 2 (.slice A n c) n ys) ∧ Hid (MarkedK fdcellsKinds 2 ys k (i * 2)) ∧ Hid (w.grownBy wr (Value.slice A n c).ownBlock)) (fun _ iv _ => n - (intOf iv).toNat)
  case atStart => exact ⟨0, _, xs, rfl, rfl, Nat.zero_le _, by omega, by omega, by show (k : Int) = _; simp, HV.out, fun j hj => absurd hj (by omega), World.grownBy.refl _ _⟩
  case round =>
    obtain ⟨i, q, ys, rfl, rfl, hi, hq0, hq1, HQ, HO, HM, HG⟩ := hrel
    by_cases hlt : i < n
    · obtain ⟨g, rfl, hglt⟩ := own_some HO.out (by omega)
      have hid2 : i * 2 + 2 ≤ n * 2 := by have := Nat.mul_le_mul_right 2 hlt; omega
      have hq2 : q ≤ 17592186044416 - 2 := by have := HQ.out; omega
      obtain ⟨x0, hx0, _⟩ := txt_mk (mt (k + i * 2 + 0))
      have HC0 := hid (fun W => mark_at (q := q) (m := k + i * 2 + 0) W (by have := HQ.out; omega) (by have := HQ.out; omega) hx0)
      have HX0 := hid hx0
      clear hx0
      obtain ⟨x1, hx1, _⟩ := txt_mk (mt (k + i * 2 + 1))
      have HC1 := hid (fun W => mark_at (q := (q + 1)) (m := k + i * 2 + 1) W (by have := HQ.out; omega) (by have := HQ.out; omega) hx1)
      have HX1 := hid hx1
      clear hx1
      go_wp2_with fail
      refine (HC0.out _).mono ?_
      rintro e w0 ⟨rfl, hb⟩
      have hown := own_below HO.out hb
      have HG0a := hid (grown_tr HG.out (grown_of hb _))
      clear hb
      obtain ⟨u0, d0⟩ := own_cell hown (j := i * 2) (by have := Nat.mul_le_mul_right 2 hlt; omega)
      have f0 := hown.frozenAt (i * 2)
      have hs0 := hown.stored (i * 2) (.string x0)
      have HO0 := hid hs0.1
      have HG0 := hid (grown_tr HG0a.out hs0.2)
      clear hown hs0
      go_wp2_with fail
      refine (HC1.out _).mono ?_
      rintro e w1 ⟨rfl, hb⟩
      have hown := own_below HO0.out hb
      have HG1a := hid (grown_tr HG0.out (grown_of hb _))
      clear hb
      obtain ⟨u1, d1⟩ := own_cell hown (j := i * 2 + 1) (by have := Nat.mul_le_mul_right 2 hlt; omega)
      have f1 := hown.frozenAt (i * 2 + 1)
      have hs1 := hown.stored (i * 2 + 1) (.string x1)
      have HO1 := hid hs1.1
      have HG1 := hid (grown_tr HG1a.out hs1.2)
      clear hown hs1
      go_wp2_with fail
      go_roundw
      case rel =>
        refine ⟨i + 1, _, _, rfl, by go_num, by omega, by omega, by omega, ?_, HO1.out, ?_, HG1.out⟩
        · have := HQ.out; show _ = _; rw [this]; omega
        · have hm := marked_put (ks := fdcellsKinds) (d := 2) HM.out [.string x0, .string x1] rfl (by have := HO.out.1; have := Nat.mul_le_mul_right 2 hlt; omega) (by
            intro j hj
            have := HQ.out
            match j, hj with
            | 0, _ => (have := HX0.out; simpa [fdcellsKinds, mkv] using this.symm)
            | 1, _ => (have := HX1.out; simpa [fdcellsKinds, mkv] using this.symm))
          exact hm
      case measure => simp [intOf]; omega
    · obtain rfl : i = n := by omega
      go_wp2_with fail
      go_ret
      exact ⟨ret_int HQ.out, ⟨ys, HO.out, HM.out⟩, HG.out⟩

set_option maxHeartbeats 4000000 in
set_option maxRecDepth 100000 in
theorem heldFieldS_c (v : Value) (n B k : Nat) (xs : List Value) (w : World) (hv : Sl w B 2 n v xs) (hB : B ≤ w.heap.size) (hM : MarkedK fdcellsKinds 2 xs k (n * 2)) (hn : n * 2 + k ≤ 17592186044416) :
    Calls Try.prog 12 #[v, .int .i64 k] w fun e w' => e = .returned (.int .i64 ((k + n * 2 : Nat) : Int)) ∧ Below w.heap.size w w' := by
  obtain ⟨A, c, rfl, hnc, hcm⟩ := hv.form
  unfold maxLen at hcm
  have HV := hid (And.intro hv hM)
  clear hv hM
  go_enter Try.func12, Try.ntmps12
  go_wp2_with fail
  go_loopw [1, 5] (fun kv iv wr => ∃ (i : Nat) (q : Int), kv = .int .i64 q ∧ iv = .int .i64 i ∧ i ≤ n ∧ 0 ≤ q ∧ q ≤ 17592186044416 ∧ Hid (q = ((k + i * 2 : Nat) : Int)) ∧ Hid (Below w.heap.size w wr)) (fun _ iv _ => n - (intOf iv).toNat)
  case atStart => exact ⟨0, _, rfl, rfl, Nat.zero_le _, by omega, by omega, by show (k : Int) = _; simp, Below.refl _ _⟩
  case round =>
    obtain ⟨i, q, rfl, rfl, hi, hq0, hq1, HQ, HB⟩ := hrel
    by_cases hlt : i < n
    · obtain ⟨b, o, rfl, hbB, hcl⟩ := sl_elem HV.out.1 hlt
      have hM := HV.out.2
      have hid2 : i * 2 + 2 ≤ n * 2 := by have := Nat.mul_le_mul_right 2 hlt; omega
      have hq2 : q ≤ 17592186044416 - 2 := by have := HQ.out; omega
      obtain ⟨x0, hx0, _⟩ := txt_mk (mt (k + i * 2 + 0))
      have HC0 := hid (fun W => mark_at (q := q) (m := k + i * 2 + 0) W (by have := HQ.out; omega) (by have := HQ.out; omega) hx0)
      have e0 := eq_true_of (a := x0) (b := x0) rfl
      obtain ⟨x1, hx1, _⟩ := txt_mk (mt (k + i * 2 + 1))
      have HC1 := hid (fun W => mark_at (q := (q + 1)) (m := k + i * 2 + 1) W (by have := HQ.out; omega) (by have := HQ.out; omega) hx1)
      have e1 := eq_true_of (a := x1) (b := x1) rfl
      have c0 : wr.cell? ⟨b, o + i * 2, none⟩ = some (.string x0) := (HB.out.cell (p := ⟨b, o + i * 2, none⟩) (by show b < _; omega)).trans (hcl 0 _ (marked_at hM (i := i) (by omega) (by omega) (by simpa [fdcellsKinds, mkv] using hx0)))
      have c1 : wr.cell? ⟨b, o + i * 2 + 1, none⟩ = some (.string x1) := (HB.out.cell (p := ⟨b, o + i * 2 + 1, none⟩) (by show b < _; omega)).trans (hcl 1 _ (marked_at hM (i := i) (by omega) (by omega) (by simpa [fdcellsKinds, mkv] using hx1)))
      have hblt : b < wr.heap.size := by have := HB.out.size; omega
      clear hcl hM
      have HBx := HB
      all_goals go_wp2_with fail
      all_goals go_region_with (go_at_call 20; refine (HC0.out _).mono ?_; rintro e w1 ⟨rfl, hb⟩; have c0 := (hb.cell (p := ⟨b, o + i * 2, none⟩) hblt).trans c0; have c1 := (hb.cell (p := ⟨b, o + i * 2 + 1, none⟩) hblt).trans c1; replace HBx := hid (Below.trans (by first | exact HBx.out | exact HBx.out.drew) (hb.mono (by first | exact HBx.out.size | simpa using HBx.out.size))); replace hblt : b < w1.heap.size := (by have := hb.size; first | omega | (simp at this; omega)); clear hb)
      all_goals go_wp2_with fail
      all_goals go_region_with (go_at_call 20; refine (HC1.out _).mono ?_; rintro e w1 ⟨rfl, hb⟩; have c1 := (hb.cell (p := ⟨b, o + i * 2 + 1, none⟩) hblt).trans c1; replace HBx := hid (Below.trans (by first | exact HBx.out | exact HBx.out.drew) (hb.mono (by first | exact HBx.out.size | simpa using HBx.out.size))); replace hblt : b < w1.heap.size := (by have := hb.size; first | omega | (simp at this; omega)); clear hb)
      all_goals go_wp2_with fail
      all_goals
        go_roundw
        case rel => exact ⟨i + 1, _, rfl, by go_num, by omega, by omega, by omega, by have := HQ.out; show _ = _; rw [this]; omega, by first | exact HBx.out | exact HBx.out.drew⟩
        case measure => simp [intOf]; omega
    · obtain rfl : i = n := by omega
      go_wp2_with fail
      go_ret
      exact ⟨ret_int HQ.out, HB.out⟩
end Go.Proofs.Ytmadcocbncmpoaa
