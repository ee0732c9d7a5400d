/-
  Sent: how slices of them lie in memory, and the walks of what the laws do with them (sized, copied, compared, marked, held). By gen_flat.py.
-/
import Derived.Test.YteekkccgdkmjoaaGreatGRecord
import Derived.Test.YteekkccgdkmjoaaGreatHelps
namespace Go.Proofs.YteekkccgdkmjoaaGreat
open Go.RowKit Nm
set_option linter.unusedSimpArgs false
set_option linter.unusedVariables false

structure Snt where
  lg : List UInt8
  hd : List UInt8
  rc : Rec
deriving DecidableEq
def sncells (x : Snt) : List Value := [txt x.lg, txt x.hd, txt x.rc.nm, .int .i64 x.rc.lv, txt x.rc.tx, .int .i64 x.rc.sq]
theorem sncells_len (x : Snt) : (sncells x).length = 6 := rfl
def sncellsFit (x : Snt) : Prop := x.lg.length ≤ maxTxt ∧ x.hd.length ≤ maxTxt ∧ x.rc.nm.length ≤ maxTxt ∧ x.rc.tx.length ≤ maxTxt
def Snts (w : World) (B n : Nat) (v : Value) (l : List Snt) : Prop := Sl w B 6 n v (l.flatMap sncells) ∧ ∀ x ∈ l, sncellsFit x
section
variable {w w' : World} {B B' n : Nat} {v : Value} {l : List Snt}
theorem Snts.below (h : Snts w B n v l) (hb : Below B' w w') (hB : B ≤ B') : Snts w' B n v l := ⟨h.1.below hb hB, h.2⟩
theorem Snts.more (h : Snts w B n v l) (hB : B ≤ B') : Snts w B' n v l := ⟨h.1.more hB, h.2⟩
theorem Snts.count (h : Snts w B n v l) : l.length = n := Sl.count sncells_len h.1 (by omega)
end
/-- element k: its cells -/
theorem sncells_at {w : World} {B n c : Nat} {A : Option Addr} {l : List Snt} (h : Sl w B 6 n (.slice A n c) (l.flatMap sncells)) {k : Nat} (hk : k < n) :
    ∃ (b o : Nat) (lg : ByteArray) (hd : ByteArray) (nm : ByteArray) (lv : Int) (tx : ByteArray) (sq : Int), A = some ⟨b, o, none⟩ ∧ b < B ∧ l[k]? = some ⟨lg.data.toList, hd.data.toList, ⟨nm.data.toList, lv, tx.data.toList, sq⟩⟩ ∧ w.cell? ⟨b, o + k * 6, none⟩ = some (.string lg) ∧ w.cell? ⟨b, o + k * 6 + 1, none⟩ = some (.string hd) ∧ w.cell? ⟨b, o + k * 6 + 2, none⟩ = some (.string nm) ∧ w.cell? ⟨b, o + k * 6 + 3, none⟩ = some (.int .i64 lv) ∧ w.cell? ⟨b, o + k * 6 + 4, none⟩ = some (.string tx) ∧ w.cell? ⟨b, o + k * 6 + 5, none⟩ = some (.int .i64 sq) := by
  obtain ⟨b, o, x, e, hb, hx, hc⟩ := Sl.elem sncells_len h (by omega) hk
  obtain ⟨lg, hd, ⟨nm, lv, tx, sq⟩⟩ := x
  exact ⟨b, o, ⟨lg.toArray⟩, ⟨hd.toArray⟩, ⟨nm.toArray⟩, lv, ⟨tx.toArray⟩, sq, e, hb, by simpa using hx, hc 0 _ rfl, hc 1 _ rfl, hc 2 _ rfl, hc 3 _ rfl, hc 4 _ rfl, hc 5 _ rfl⟩
theorem sncells_fit {l : List Snt} {k : Nat} {lg : ByteArray} {hd : ByteArray} {nm : ByteArray} {lv : Int} {tx : ByteArray} {sq : Int} (h : ∀ x ∈ l, sncellsFit x) (hx : l[k]? = some ⟨lg.data.toList, hd.data.toList, ⟨nm.data.toList, lv, tx.data.toList, sq⟩⟩) : lg.size ≤ maxTxt ∧ hd.size ≤ maxTxt ∧ nm.size ≤ maxTxt ∧ tx.size ≤ maxTxt := by
  have := h _ (List.mem_of_getElem? hx)
  simpa [sncellsFit, ← Lib.size_eq] using this

theorem Tryz.infoSent : (Tryz.prog.info? 69).map (fun i => (i.zero, i.size, i.bytes)) = some (some (.agg #[.string ByteArray.empty, .string ByteArray.empty, .string ByteArray.empty, .int .i64 0, .string ByteArray.empty, .int .i64 0]), 6, 80) := by kernel_rfl

/-- append of one Sent -/
theorem appSent (w : World) {ops : Array Oper} {rest : List Oper} {o : Oper} {a : Act} {Q : Exit → Act → World → Prop} (hg : o.guard = none) (s x : Operand)
    (ho : o.op = .call { callee := .builtin .append, args := #[s, x], argTypes := #[30, 30] }) (base : Nat) (v : Value) (l : List Snt) (hs : a.eval s = v)
    (hown : w.ownsRow base 69 6 v l.length (l.flatMap sncells)) (lg : ByteArray) (hd : ByteArray) (nm : ByteArray) (lv : Int) (tx : ByteArray) (sq : Int) (b0 c : Nat) (te : TypeId) (hx : a.eval x = .slice (some ⟨b0, 0, none⟩) 1 c) (hb0 : b0 = w.heap.size) (hl : l.length ≤ 1048576) (hbase : base ≤ w.heap.size)
    (h : ∀ v' w', w'.ownsRow base 69 6 v' (l ++ [(⟨lg.data.toList, hd.data.toList, ⟨nm.data.toList, lv, tx.data.toList, sq⟩⟩ : Snt)]).length ((l ++ [(⟨lg.data.toList, hd.data.toList, ⟨nm.data.toList, lv, tx.data.toList, sq⟩⟩ : Snt)]).flatMap sncells) → Below base w w' → wpList Tryz.prog ops Q rest (a.put o.dst v') w') :
    wpList Tryz.prog ops Q (o :: rest) a (w.alloc (.cells #[.string lg, .string hd, .string nm, .int .i64 lv, .string tx, .int .i64 sq] te)) := by
  subst hb0
  obtain ⟨i0, hi, hz0, hz1, hz2⟩ := info_parts Tryz.infoSent
  refine wpList_app1 w hg s x 30 ho base 69 i0 _ 6 80 Tryz.underlying30 hi hz0 hz1 hz2 rfl (by decide) v l.length _ hs hown [.string lg, .string hd, .string nm, .int .i64 lv, .string tx, .int .i64 sq] c te hx rfl (List.all_eq_true.1 rfl) (by unfold maxLen; omega) (by omega) hbase fun v' w' h1 h2 => h v' w' ?_ h2
  simpa [sncells, txt_data] using h1

theorem sncells_one (l : List Snt) : ∀ u ∈ l.flatMap sncells, u.oneCell' = true := by
  intro u hu
  obtain ⟨x, _, hx⟩ := List.mem_flatMap.1 hu
  simp only [sncells, List.mem_cons, List.not_mem_nil, or_false] at hx
  rcases hx with rfl | rfl | rfl | rfl | rfl | rfl <;> rfl
/-- append of a slice -/
theorem appSentS (w : World) {ops : Array Oper} {rest : List Oper} {o : Oper} {a : Act} {Q : Exit → Act → World → Prop} (hg : o.guard = none) (s x : Operand)
    (ho : o.op = .call { callee := .builtin .append, args := #[s, x], argTypes := #[30, 30] }) (base : Nat) (v : Value) (l l2 : List Snt) (hs : a.eval s = v)
    (hown : w.ownsRow base 69 6 v l.length (l.flatMap sncells)) (B : Nat) (src : Value) (hx : a.eval x = src) (hsl : Sl w B 6 l2.length src (l2.flatMap sncells)) (hl : l.length + l2.length ≤ 4194304) (hbase : base ≤ w.heap.size)
    (h : ∀ v' w', w'.ownsRow base 69 6 v' (l ++ l2).length ((l ++ l2).flatMap sncells) → Below base w w' → wpList Tryz.prog ops Q rest (a.put o.dst v') w') :
    wpList Tryz.prog ops Q (o :: rest) a w := by
  obtain ⟨i0, hi, hz0, hz1, hz2⟩ := info_parts Tryz.infoSent
  refine wpList_appSl w hg s x 30 ho base 69 i0 _ 6 80 Tryz.underlying30 hi hz0 hz1 hz2 rfl (by decide) v l.length _ hs hown B l2.length src _ hx hsl (sncells_one l2) (by unfold maxLen; omega) (by omega) hbase fun v' w' h1 h2 => h v' w' ?_ h2
  simpa using h1

set_option maxHeartbeats 1000000 in
set_option maxRecDepth 100000 in
theorem eqSent_c (lg : ByteArray) (hd : ByteArray) (nm : ByteArray) (lv : Int) (tx : ByteArray) (sq : Int) (w : World) :
    Calls Tryz.prog 36 #[.agg #[.string lg, .string hd, .string nm, .int .i64 lv, .string tx, .int .i64 sq], .agg #[.string lg, .string hd, .string nm, .int .i64 lv, .string tx, .int .i64 sq]] w (BoolPost w true) := by
  have b0 : (lg.toList != lg.toList) = false := by simp
  have b1 : (hd.toList != hd.toList) = false := by simp
  have b2 : (nm.toList != nm.toList) = false := by simp
  have b3 : (lv != lv) = false := by simp
  have b4 : (tx.toList != tx.toList) = false := by simp
  have b5 : (sq != sq) = false := by simp
  go_enter Tryz.func36, Tryz.ntmps36
  go_wp2_with go_in
  go_ret
  exact ⟨rfl, by go_grown⟩

set_option maxHeartbeats 4000000 in
set_option maxRecDepth 100000 in
/-- two slices that read alike -/
theorem eqSentS_c (v1 v2 : Value) (n B : Nat) (l : List Snt) (w : World) (h1 : Sl w B 6 n v1 (l.flatMap sncells)) (h2 : Sl w B 6 n v2 (l.flatMap sncells)) (hB : B ≤ w.heap.size) :
    Calls Tryz.prog 12 #[v1, v2] w (BoolPost w true) := by
  obtain ⟨A1, k1, rfl, _, hm1⟩ := h1.form
  obtain ⟨A2, k2, rfl, _, hm2⟩ := h2.form
  unfold maxLen at hm1 hm2
  have HS := hid (And.intro h1 h2)
  have b0 : ((n : Int) != (n : Int)) = false := by simp
  clear h1 h2
  go_enter Tryz.func12, Tryz.ntmps12
  go_wp2_with fail
  go_loopw [5] (fun iv wr => ∃ (i : Nat), iv = .int .i64 i ∧ i ≤ n ∧ Hid (Below w.heap.size w wr)) (fun iv _ => n - (intOf iv).toNat)
  case atStart => exact ⟨0, rfl, by omega, Below.refl _ _⟩
  case round =>
    obtain ⟨k, rfl, hi, HB⟩ := hrel
    by_cases hlt : k < n
    · obtain ⟨b, o, lg, hd, nm, lv, tx, sq, rfl, hb1, hx, g0, g1, g2, g3, g4, g5⟩ := sncells_at HS.out.1 hlt
      obtain ⟨b', o', lg', hd', nm', lv', tx', sq', rfl, hb2, hx', g0', g1', g2', g3', g4', g5'⟩ := sncells_at HS.out.2 hlt
      rw [hx] at hx'
      have hx'' := Option.some.inj hx'
      simp only [Snt.mk.injEq, Rec.mk.injEq, bytes_eq_iff] at hx''
      obtain ⟨rfl, rfl, rfl, rfl, rfl, rfl⟩ := hx''
      have c0 : wr.cell? ⟨b, o + k * 6, none⟩ = some (.string lg) := (HB.out.cell (p := ⟨b, o + k * 6, none⟩) (by show b < _; omega)).trans g0
      have c1 : wr.cell? ⟨b, o + k * 6 + 1, none⟩ = some (.string hd) := (HB.out.cell (p := ⟨b, o + k * 6 + 1, none⟩) (by show b < _; omega)).trans g1
      have c2 : wr.cell? ⟨b, o + k * 6 + 2, none⟩ = some (.string nm) := (HB.out.cell (p := ⟨b, o + k * 6 + 2, none⟩) (by show b < _; omega)).trans g2
      have c3 : wr.cell? ⟨b, o + k * 6 + 3, none⟩ = some (.int .i64 lv) := (HB.out.cell (p := ⟨b, o + k * 6 + 3, none⟩) (by show b < _; omega)).trans g3
      have c4 : wr.cell? ⟨b, o + k * 6 + 4, none⟩ = some (.string tx) := (HB.out.cell (p := ⟨b, o + k * 6 + 4, none⟩) (by show b < _; omega)).trans g4
      have c5 : wr.cell? ⟨b, o + k * 6 + 5, none⟩ = some (.int .i64 sq) := (HB.out.cell (p := ⟨b, o + k * 6 + 5, none⟩) (by show b < _; omega)).trans g5
      have c0' : wr.cell? ⟨b', o' + k * 6, none⟩ = some (.string lg) := (HB.out.cell (p := ⟨b', o' + k * 6, none⟩) (by show b' < _; omega)).trans g0'
      have c1' : wr.cell? ⟨b', o' + k * 6 + 1, none⟩ = some (.string hd) := (HB.out.cell (p := ⟨b', o' + k * 6 + 1, none⟩) (by show b' < _; omega)).trans g1'
      have c2' : wr.cell? ⟨b', o' + k * 6 + 2, none⟩ = some (.string nm) := (HB.out.cell (p := ⟨b', o' + k * 6 + 2, none⟩) (by show b' < _; omega)).trans g2'
      have c3' : wr.cell? ⟨b', o' + k * 6 + 3, none⟩ = some (.int .i64 lv) := (HB.out.cell (p := ⟨b', o' + k * 6 + 3, none⟩) (by show b' < _; omega)).trans g3'
      have c4' : wr.cell? ⟨b', o' + k * 6 + 4, none⟩ = some (.string tx) := (HB.out.cell (p := ⟨b', o' + k * 6 + 4, none⟩) (by show b' < _; omega)).trans g4'
      have c5' : wr.cell? ⟨b', o' + k * 6 + 5, none⟩ = some (.int .i64 sq) := (HB.out.cell (p := ⟨b', o' + k * 6 + 5, none⟩) (by show b' < _; omega)).trans g5'
      have hcall := hid (fun W => eqSent_c lg hd nm lv tx sq W)
      have hlt1 : b < wr.heap.size := by have := HB.out.size; omega
      have hlt2 : b' < wr.heap.size := by have := HB.out.size; omega
      clear hx hx' g0 g1 g2 g3 g4 g5 g0' g1' g2' g3' g4' g5'
      go_wp2_with fail
      go_region_with (go_at_call 36; refine (hcall.out _).mono ?_; rintro e w1 ⟨rfl, hb⟩)
      all_goals go_wp2_with fail
      all_goals
        go_roundw
        case rel => exact ⟨k + 1, by go_num, by omega, by first | exact HB.out.trans (hb.mono HB.out.size) | exact HB.out.drew.trans (hb.mono HB.out.drew.size)⟩
        case measure => simp [intOf]; omega
    · go_wp2_with fail
      go_ret
      exact ⟨rfl, HB.out⟩
def sncellsKinds : List Bool := [true, true, true, false, true, false]

set_option maxHeartbeats 4000000 in
set_option maxRecDepth 100000 in
theorem markSentS_c (v : Value) (n base k : Nat) (xs : List Value) (w : World) (hv : w.ownsRow base 69 6 v n xs) (hn : n * 6 + k ≤ 17592186044416) :
    Calls Tryz.prog 15 #[v, .int .i64 k] w (MarkPost w v base 69 sncellsKinds 6 n k) := by
  obtain ⟨A, c, rfl, hnc, hcm⟩ := (Sl.of_own hv).form
  unfold maxLen at hcm
  have HV := hid hv
  clear hv
  go_enter Tryz.func15, Tryz.ntmps15
  go_wp2_with fail
  go_loopw [1, 5] (fun kv iv wr => ∃ (i : Nat) (q : Int) (ys : List Value), kv = .int .i64 q ∧ iv = .int .i64 i ∧ i ≤ n ∧ 0 ≤ q ∧ q ≤ 17592186044416 ∧ Hid (q = ((k + i * 6 : Nat) : Int)) ∧ Hid (wr.ownsRow base 69 6 (.slice A n c) n ys) ∧ Hid (MarkedK sncellsKinds 6 ys k (i * 6)) ∧ Hid (w.grownBy wr (Value.slice A n c).ownBlock)) (fun _ iv _ => n - (intOf iv).toNat)
  case atStart => exact ⟨0, _, xs, rfl, rfl, Nat.zero_le _, by omega, by omega, by show (k : Int) = _; simp, HV.out, fun j hj => absurd hj (by omega), World.grownBy.refl _ _⟩
  case round =>
    obtain ⟨i, q, ys, rfl, rfl, hi, hq0, hq1, HQ, HO, HM, HG⟩ := hrel
    by_cases hlt : i < n
    · obtain ⟨g, rfl, hglt⟩ := own_some HO.out (by omega)
      have hid2 : i * 6 + 6 ≤ n * 6 := by have := Nat.mul_le_mul_right 6 hlt; omega
      have hq2 : q ≤ 17592186044416 - 6 := by have := HQ.out; omega
      obtain ⟨x0, hx0, _⟩ := txt_mk (mt (k + i * 6 + 0))
      have HC0 := hid (fun W => mark_at (q := q) (m := k + i * 6 + 0) W (by have := HQ.out; omega) (by have := HQ.out; omega) hx0)
      have HX0 := hid hx0
      clear hx0
      obtain ⟨x1, hx1, _⟩ := txt_mk (mt (k + i * 6 + 1))
      have HC1 := hid (fun W => mark_at (q := (q + 1)) (m := k + i * 6 + 1) W (by have := HQ.out; omega) (by have := HQ.out; omega) hx1)
      have HX1 := hid hx1
      clear hx1
      obtain ⟨x2, hx2, _⟩ := txt_mk (mt (k + i * 6 + 2))
      have HC2 := hid (fun W => mark_at (q := (q + 1 + 1)) (m := k + i * 6 + 2) W (by have := HQ.out; omega) (by have := HQ.out; omega) hx2)
      have HX2 := hid hx2
      clear hx2
      obtain ⟨x4, hx4, _⟩ := txt_mk (mt (k + i * 6 + 4))
      have HC4 := hid (fun W => mark_at (q := (q + 1 + 1 + 1 + 1)) (m := k + i * 6 + 4) W (by have := HQ.out; omega) (by have := HQ.out; omega) hx4)
      have HX4 := hid hx4
      clear hx4
      go_wp2_with fail
      refine (HC0.out _).mono ?_
      rintro e w0 ⟨rfl, hb⟩
      have hown := own_below HO.out hb
      have HG0a := hid (grown_tr HG.out (grown_of hb _))
      clear hb
      obtain ⟨u0, d0⟩ := own_cell hown (j := i * 6) (by have := Nat.mul_le_mul_right 6 hlt; omega)
      have f0 := hown.frozenAt (i * 6)
      have hs0 := hown.stored (i * 6) (.string x0)
      have HO0 := hid hs0.1
      have HG0 := hid (grown_tr HG0a.out hs0.2)
      clear hown hs0
      go_wp2_with fail
      refine (HC1.out _).mono ?_
      rintro e w1 ⟨rfl, hb⟩
      have hown := own_below HO0.out hb
      have HG1a := hid (grown_tr HG0.out (grown_of hb _))
      clear hb
      obtain ⟨u1, d1⟩ := own_cell hown (j := i * 6 + 1) (by have := Nat.mul_le_mul_right 6 hlt; omega)
      have f1 := hown.frozenAt (i * 6 + 1)
      have hs1 := hown.stored (i * 6 + 1) (.string x1)
      have HO1 := hid hs1.1
      have HG1 := hid (grown_tr HG1a.out hs1.2)
      clear hown hs1
      go_wp2_with fail
      refine (HC2.out _).mono ?_
      rintro e w2 ⟨rfl, hb⟩
      have hown := own_below HO1.out hb
      have HG2a := hid (grown_tr HG1.out (grown_of hb _))
      clear hb
      obtain ⟨u2, d2⟩ := own_cell hown (j := i * 6 + 2) (by have := Nat.mul_le_mul_right 6 hlt; omega)
      have f2 := hown.frozenAt (i * 6 + 2)
      obtain ⟨u3, d3⟩ := own_cell hown (j := i * 6 + 3) (by have := Nat.mul_le_mul_right 6 hlt; omega)
      have f3 := hown.frozenAt (i * 6 + 3)
      have hs2 := hown.stored (i * 6 + 2) (.string x2)
      have hs3 := hs2.1.stored (i * 6 + 3) (.int .i64 (q + 1 + 1 + 1))
      have HO2 := hid hs3.1
      have HG2 := hid (grown_tr (grown_tr HG2a.out hs2.2) hs3.2)
      clear hown hs2 hs3
      go_wp2_with fail
      refine (HC4.out _).mono ?_
      rintro e w3 ⟨rfl, hb⟩
      have hown := own_below HO2.out hb
      have HG3a := hid (grown_tr HG2.out (grown_of hb _))
      clear hb
      obtain ⟨u4, d4⟩ := own_cell hown (j := i * 6 + 4) (by have := Nat.mul_le_mul_right 6 hlt; omega)
      have f4 := hown.frozenAt (i * 6 + 4)
      obtain ⟨u5, d5⟩ := own_cell hown (j := i * 6 + 5) (by have := Nat.mul_le_mul_right 6 hlt; omega)
      have f5 := hown.frozenAt (i * 6 + 5)
      have hs4 := hown.stored (i * 6 + 4) (.string x4)
      have hs5 := hs4.1.stored (i * 6 + 5) (.int .i64 (q + 1 + 1 + 1 + 1 + 1))
      have HO3 := hid hs5.1
      have HG3 := hid (grown_tr (grown_tr HG3a.out hs4.2) hs5.2)
      clear hown hs4 hs5
      go_wp2_with fail
      go_roundw
      case rel =>
        refine ⟨i + 1, _, _, rfl, by go_num, by omega, by omega, by omega, ?_, HO3.out, ?_, HG3.out⟩
        · have := HQ.out; show _ = _; rw [this]; omega
        · have hm := marked_put (ks := sncellsKinds) (d := 6) HM.out [.string x0, .string x1, .string x2, .int .i64 (q + 1 + 1 + 1), .string x4, .int .i64 (q + 1 + 1 + 1 + 1 + 1)] rfl (by have := HO.out.1; have := Nat.mul_le_mul_right 6 hlt; omega) (by
            intro j hj
            have := HQ.out
            match j, hj with
            | 0, _ => (have := HX0.out; simpa [sncellsKinds, mkv] using this.symm)
            | 1, _ => (have := HX1.out; simpa [sncellsKinds, mkv] using this.symm)
            | 2, _ => (have := HX2.out; simpa [sncellsKinds, mkv] using this.symm)
            | 3, _ => simp [sncellsKinds, mkv]; omega
            | 4, _ => (have := HX4.out; simpa [sncellsKinds, mkv] using this.symm)
            | 5, _ => simp [sncellsKinds, mkv]; omega)
          exact hm
      case measure => simp [intOf]; omega
    · obtain rfl : i = n := by omega
      go_wp2_with fail
      go_ret
      exact ⟨ret_int HQ.out, ⟨ys, HO.out, HM.out⟩, HG.out⟩

set_option maxHeartbeats 4000000 in
set_option maxRecDepth 100000 in
theorem heldSentS_c (v : Value) (n B k : Nat) (xs : List Value) (w : World) (hv : Sl w B 6 n v xs) (hB : B ≤ w.heap.size) (hM : MarkedK sncellsKinds 6 xs k (n * 6)) (hn : n * 6 + k ≤ 17592186044416) :
    Calls Tryz.prog 16 #[v, .int .i64 k] w fun e w' => e = .returned (.int .i64 ((k + n * 6 : Nat) : Int)) ∧ Below w.heap.size w w' := by
  obtain ⟨A, c, rfl, hnc, hcm⟩ := hv.form
  unfold maxLen at hcm
  have HV := hid (And.intro hv hM)
  clear hv hM
  go_enter Tryz.func16, Tryz.ntmps16
  go_wp2_with fail
  go_loopw [1, 5] (fun kv iv wr => ∃ (i : Nat) (q : Int), kv = .int .i64 q ∧ iv = .int .i64 i ∧ i ≤ n ∧ 0 ≤ q ∧ q ≤ 17592186044416 ∧ Hid (q = ((k + i * 6 : Nat) : Int)) ∧ Hid (Below w.heap.size w wr)) (fun _ iv _ => n - (intOf iv).toNat)
  case atStart => exact ⟨0, _, rfl, rfl, Nat.zero_le _, by omega, by omega, by show (k : Int) = _; simp, Below.refl _ _⟩
  case round =>
    obtain ⟨i, q, rfl, rfl, hi, hq0, hq1, HQ, HB⟩ := hrel
    by_cases hlt : i < n
    · obtain ⟨b, o, rfl, hbB, hcl⟩ := sl_elem HV.out.1 hlt
      have hM := HV.out.2
      have hid2 : i * 6 + 6 ≤ n * 6 := by have := Nat.mul_le_mul_right 6 hlt; omega
      have hq2 : q ≤ 17592186044416 - 6 := by have := HQ.out; omega
      obtain ⟨x0, hx0, _⟩ := txt_mk (mt (k + i * 6 + 0))
      have HC0 := hid (fun W => mark_at (q := q) (m := k + i * 6 + 0) W (by have := HQ.out; omega) (by have := HQ.out; omega) hx0)
      have e0 := eq_true_of (a := x0) (b := x0) rfl
      obtain ⟨x1, hx1, _⟩ := txt_mk (mt (k + i * 6 + 1))
      have HC1 := hid (fun W => mark_at (q := (q + 1)) (m := k + i * 6 + 1) W (by have := HQ.out; omega) (by have := HQ.out; omega) hx1)
      have e1 := eq_true_of (a := x1) (b := x1) rfl
      obtain ⟨x2, hx2, _⟩ := txt_mk (mt (k + i * 6 + 2))
      have HC2 := hid (fun W => mark_at (q := (q + 1 + 1)) (m := k + i * 6 + 2) W (by have := HQ.out; omega) (by have := HQ.out; omega) hx2)
      have e2 := eq_true_of (a := x2) (b := x2) rfl
      have b3 : (q + 1 + 1 + 1 != q + 1 + 1 + 1) = false := by simp
      obtain ⟨x4, hx4, _⟩ := txt_mk (mt (k + i * 6 + 4))
      have HC4 := hid (fun W => mark_at (q := (q + 1 + 1 + 1 + 1)) (m := k + i * 6 + 4) W (by have := HQ.out; omega) (by have := HQ.out; omega) hx4)
      have e4 := eq_true_of (a := x4) (b := x4) rfl
      have b5 : (q + 1 + 1 + 1 + 1 + 1 != q + 1 + 1 + 1 + 1 + 1) = false := by simp
      have c0 : wr.cell? ⟨b, o + i * 6, none⟩ = some (.string x0) := (HB.out.cell (p := ⟨b, o + i * 6, none⟩) (by show b < _; omega)).trans (hcl 0 _ (marked_at hM (i := i) (by omega) (by omega) (by simpa [sncellsKinds, mkv] using hx0)))
      have c1 : wr.cell? ⟨b, o + i * 6 + 1, none⟩ = some (.string x1) := (HB.out.cell (p := ⟨b, o + i * 6 + 1, none⟩) (by show b < _; omega)).trans (hcl 1 _ (marked_at hM (i := i) (by omega) (by omega) (by simpa [sncellsKinds, mkv] using hx1)))
      have c2 : wr.cell? ⟨b, o + i * 6 + 2, none⟩ = some (.string x2) := (HB.out.cell (p := ⟨b, o + i * 6 + 2, none⟩) (by show b < _; omega)).trans (hcl 2 _ (marked_at hM (i := i) (by omega) (by omega) (by simpa [sncellsKinds, mkv] using hx2)))
      have c3 : wr.cell? ⟨b, o + i * 6 + 3, none⟩ = some (.int .i64 (q + 1 + 1 + 1)) := (HB.out.cell (p := ⟨b, o + i * 6 + 3, none⟩) (by show b < _; omega)).trans (hcl 3 _ (marked_at hM (i := i) (by omega) (by omega) (by simp [sncellsKinds, mkv]; have := HQ.out; omega)))
      have c4 : wr.cell? ⟨b, o + i * 6 + 4, none⟩ = some (.string x4) := (HB.out.cell (p := ⟨b, o + i * 6 + 4, none⟩) (by show b < _; omega)).trans (hcl 4 _ (marked_at hM (i := i) (by omega) (by omega) (by simpa [sncellsKinds, mkv] using hx4)))
      have c5 : wr.cell? ⟨b, o + i * 6 + 5, none⟩ = some (.int .i64 (q + 1 + 1 + 1 + 1 + 1)) := (HB.out.cell (p := ⟨b, o + i * 6 + 5, none⟩) (by show b < _; omega)).trans (hcl 5 _ (marked_at hM (i := i) (by omega) (by omega) (by simp [sncellsKinds, mkv]; have := HQ.out; omega)))
      have hblt : b < wr.heap.size := by have := HB.out.size; omega
      clear hcl hM
      have HBx := HB
      all_goals go_wp2_with fail
      all_goals go_region_with (go_at_call 41; refine (HC0.out _).mono ?_; rintro e w1 ⟨rfl, hb⟩; have c0 := (hb.cell (p := ⟨b, o + i * 6, none⟩) hblt).trans c0; have c1 := (hb.cell (p := ⟨b, o + i * 6 + 1, none⟩) hblt).trans c1; have c2 := (hb.cell (p := ⟨b, o + i * 6 + 2, none⟩) hblt).trans c2; have c3 := (hb.cell (p := ⟨b, o + i * 6 + 3, none⟩) hblt).trans c3; have c4 := (hb.cell (p := ⟨b, o + i * 6 + 4, none⟩) hblt).trans c4; have c5 := (hb.cell (p := ⟨b, o + i * 6 + 5, none⟩) hblt).trans c5; replace HBx := hid (Below.trans (by first | exact HBx.out | exact HBx.out.drew) (hb.mono (by first | exact HBx.out.size | simpa using HBx.out.size))); replace hblt : b < w1.heap.size := (by have := hb.size; first | omega | (simp at this; omega)); clear hb)
      all_goals go_wp2_with fail
      all_goals go_region_with (go_at_call 41; refine (HC1.out _).mono ?_; rintro e w1 ⟨rfl, hb⟩; have c1 := (hb.cell (p := ⟨b, o + i * 6 + 1, none⟩) hblt).trans c1; have c2 := (hb.cell (p := ⟨b, o + i * 6 + 2, none⟩) hblt).trans c2; have c3 := (hb.cell (p := ⟨b, o + i * 6 + 3, none⟩) hblt).trans c3; have c4 := (hb.cell (p := ⟨b, o + i * 6 + 4, none⟩) hblt).trans c4; have c5 := (hb.cell (p := ⟨b, o + i * 6 + 5, none⟩) hblt).trans c5; replace HBx := hid (Below.trans (by first | exact HBx.out | exact HBx.out.drew) (hb.mono (by first | exact HBx.out.size | simpa using HBx.out.size))); replace hblt : b < w1.heap.size := (by have := hb.size; first | omega | (simp at this; omega)); clear hb)
      all_goals go_wp2_with fail
      all_goals go_region_with (go_at_call 41; refine (HC2.out _).mono ?_; rintro e w1 ⟨rfl, hb⟩; have c2 := (hb.cell (p := ⟨b, o + i * 6 + 2, none⟩) hblt).trans c2; have c3 := (hb.cell (p := ⟨b, o + i * 6 + 3, none⟩) hblt).trans c3; have c4 := (hb.cell (p := ⟨b, o + i * 6 + 4, none⟩) hblt).trans c4; have c5 := (hb.cell (p := ⟨b, o + i * 6 + 5, none⟩) hblt).trans c5; replace HBx := hid (Below.trans (by first | exact HBx.out | exact HBx.out.drew) (hb.mono (by first | exact HBx.out.size | simpa using HBx.out.size))); replace hblt : b < w1.heap.size := (by have := hb.size; first | omega | (simp at this; omega)); clear hb)
      all_goals go_wp2_with fail
      all_goals go_region_with (go_at_call 41; refine (HC4.out _).mono ?_; rintro e w1 ⟨rfl, hb⟩; have c4 := (hb.cell (p := ⟨b, o + i * 6 + 4, none⟩) hblt).trans c4; have c5 := (hb.cell (p := ⟨b, o + i * 6 + 5, none⟩) hblt).trans c5; replace HBx := hid (Below.trans (by first | exact HBx.out | exact HBx.out.drew) (hb.mono (by first | exact HBx.out.size | simpa using HBx.out.size))); replace hblt : b < w1.heap.size := (by have := hb.size; first | omega | (simp at this; omega)); clear hb)
      all_goals go_wp2_with fail
      all_goals
        go_roundw
        case rel => exact ⟨i + 1, _, rfl, by go_num, by omega, by omega, by omega, by have := HQ.out; show _ = _; rw [this]; omega, by first | exact HBx.out | exact HBx.out.drew⟩
        case measure => simp [intOf]; omega
    · obtain rfl : i = n := by omega
      go_wp2_with fail
      go_ret
      exact ⟨ret_int HQ.out, HB.out⟩
end Go.Proofs.YteekkccgdkmjoaaGreat
