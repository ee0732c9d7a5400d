/-
  Reason: how slices of them lie in memory, and the walks of what the laws do with them (sized, copied, compared, marked, held). By gen_flat.py.
-/
import Derived.Test.YteekkccgdkmjoaaGreatHelps
import Derived.Test.YteekkccgdkmjoaaGreatHelps
namespace Go.Proofs.YteekkccgdkmjoaaGreat
open Go.RowKit Nm
set_option linter.unusedSimpArgs false
set_option linter.unusedVariables false

structure Rsn where
  kd : Int
  lg : List UInt8
  hd : List UInt8
deriving DecidableEq
def rscells (x : Rsn) : List Value := [.int .i64 x.kd, txt x.lg, txt x.hd]
theorem rscells_len (x : Rsn) : (rscells x).length = 3 := rfl
def rscellsFit (x : Rsn) : Prop := x.lg.length ≤ maxTxt ∧ x.hd.length ≤ maxTxt
def Rsns (w : World) (B n : Nat) (v : Value) (l : List Rsn) : Prop := Sl w B 3 n v (l.flatMap rscells) ∧ ∀ x ∈ l, rscellsFit x
section
variable {w w' : World} {B B' n : Nat} {v : Value} {l : List Rsn}
theorem Rsns.below (h : Rsns w B n v l) (hb : Below B' w w') (hB : B ≤ B') : Rsns w' B n v l := ⟨h.1.below hb hB, h.2⟩
theorem Rsns.more (h : Rsns w B n v l) (hB : B ≤ B') : Rsns w B' n v l := ⟨h.1.more hB, h.2⟩
theorem Rsns.count (h : Rsns w B n v l) : l.length = n := Sl.count rscells_len h.1 (by omega)
end
/-- element k: its cells -/
theorem rscells_at {w : World} {B n c : Nat} {A : Option Addr} {l : List Rsn} (h : Sl w B 3 n (.slice A n c) (l.flatMap rscells)) {k : Nat} (hk : k < n) :
    ∃ (b o : Nat) (kd : Int) (lg : ByteArray) (hd : ByteArray), A = some ⟨b, o, none⟩ ∧ b < B ∧ l[k]? = some ⟨kd, lg.data.toList, hd.data.toList⟩ ∧ w.cell? ⟨b, o + k * 3, none⟩ = some (.int .i64 kd) ∧ w.cell? ⟨b, o + k * 3 + 1, none⟩ = some (.string lg) ∧ w.cell? ⟨b, o + k * 3 + 2, none⟩ = some (.string hd) := by
  obtain ⟨b, o, x, e, hb, hx, hc⟩ := Sl.elem rscells_len h (by omega) hk
  obtain ⟨kd, lg, hd⟩ := x
  exact ⟨b, o, kd, ⟨lg.toArray⟩, ⟨hd.toArray⟩, e, hb, by simpa using hx, hc 0 _ rfl, hc 1 _ rfl, hc 2 _ rfl⟩
theorem rscells_fit {l : List Rsn} {k : Nat} {kd : Int} {lg : ByteArray} {hd : ByteArray} (h : ∀ x ∈ l, rscellsFit x) (hx : l[k]? = some ⟨kd, lg.data.toList, hd.data.toList⟩) : lg.size ≤ maxTxt ∧ hd.size ≤ maxTxt := by
  have := h _ (List.mem_of_getElem? hx)
  simpa [rscellsFit, ← Lib.size_eq] using this

theorem Tryz.infoReason : (Tryz.prog.info? 77).map (fun i => (i.zero, i.size, i.bytes)) = some (some (.agg #[.int .i64 0, .string ByteArray.empty, .string ByteArray.empty]), 3, 40) := by kernel_rfl

/-- append of one Reason -/
theorem appReason (w : World) {ops : Array Oper} {rest : List Oper} {o : Oper} {a : Act} {Q : Exit → Act → World → Prop} (hg : o.guard = none) (s x : Operand)
    (ho : o.op = .call { callee := .builtin .append, args := #[s, x], argTypes := #[44, 44] }) (base : Nat) (v : Value) (l : List Rsn) (hs : a.eval s = v)
    (hown : w.ownsRow base 77 3 v l.length (l.flatMap rscells)) (kd : Int) (lg : ByteArray) (hd : ByteArray) (b0 c : Nat) (te : TypeId) (hx : a.eval x = .slice (some ⟨b0, 0, none⟩) 1 c) (hb0 : b0 = w.heap.size) (hl : l.length ≤ 1048576) (hbase : base ≤ w.heap.size)
    (h : ∀ v' w', w'.ownsRow base 77 3 v' (l ++ [(⟨kd, lg.data.toList, hd.data.toList⟩ : Rsn)]).length ((l ++ [(⟨kd, lg.data.toList, hd.data.toList⟩ : Rsn)]).flatMap rscells) → Below base w w' → wpList Tryz.prog ops Q rest (a.put o.dst v') w') :
    wpList Tryz.prog ops Q (o :: rest) a (w.alloc (.cells #[.int .i64 kd, .string lg, .string hd] te)) := by
  subst hb0
  obtain ⟨i0, hi, hz0, hz1, hz2⟩ := info_parts Tryz.infoReason
  refine wpList_app1 w hg s x 44 ho base 77 i0 _ 3 40 Tryz.underlying44 hi hz0 hz1 hz2 rfl (by decide) v l.length _ hs hown [.int .i64 kd, .string lg, .string hd] c te hx rfl (List.all_eq_true.1 rfl) (by unfold maxLen; omega) (by omega) hbase fun v' w' h1 h2 => h v' w' ?_ h2
  simpa [rscells, txt_data] using h1

theorem rscells_one (l : List Rsn) : ∀ u ∈ l.flatMap rscells, u.oneCell' = true := by
  intro u hu
  obtain ⟨x, _, hx⟩ := List.mem_flatMap.1 hu
  simp only [rscells, List.mem_cons, List.not_mem_nil, or_false] at hx
  rcases hx with rfl | rfl | rfl <;> rfl
/-- append of a slice -/
theorem appReasonS (w : World) {ops : Array Oper} {rest : List Oper} {o : Oper} {a : Act} {Q : Exit → Act → World → Prop} (hg : o.guard = none) (s x : Operand)
    (ho : o.op = .call { callee := .builtin .append, args := #[s, x], argTypes := #[44, 44] }) (base : Nat) (v : Value) (l l2 : List Rsn) (hs : a.eval s = v)
    (hown : w.ownsRow base 77 3 v l.length (l.flatMap rscells)) (B : Nat) (src : Value) (hx : a.eval x = src) (hsl : Sl w B 3 l2.length src (l2.flatMap rscells)) (hl : l.length + l2.length ≤ 4194304) (hbase : base ≤ w.heap.size)
    (h : ∀ v' w', w'.ownsRow base 77 3 v' (l ++ l2).length ((l ++ l2).flatMap rscells) → Below base w w' → wpList Tryz.prog ops Q rest (a.put o.dst v') w') :
    wpList Tryz.prog ops Q (o :: rest) a w := by
  obtain ⟨i0, hi, hz0, hz1, hz2⟩ := info_parts Tryz.infoReason
  refine wpList_appSl w hg s x 44 ho base 77 i0 _ 3 40 Tryz.underlying44 hi hz0 hz1 hz2 rfl (by decide) v l.length _ hs hown B l2.length src _ hx hsl (rscells_one l2) (by unfold maxLen; omega) (by omega) hbase fun v' w' h1 h2 => h v' w' ?_ h2
  simpa using h1

set_option maxHeartbeats 1000000 in
set_option maxRecDepth 100000 in
theorem eqReason_c (kd : Int) (lg : ByteArray) (hd : ByteArray) (w : World) :
    Calls Tryz.prog 43 #[.agg #[.int .i64 kd, .string lg, .string hd], .agg #[.int .i64 kd, .string lg, .string hd]] w (BoolPost w true) := by
  have b0 : (kd != kd) = false := by simp
  have b1 : (lg.toList != lg.toList) = false := by simp
  have b2 : (hd.toList != hd.toList) = false := by simp
  go_enter Tryz.func43, Tryz.ntmps43
  go_wp2_with fail
  go_ret
  exact ⟨rfl, by go_grown⟩

set_option maxHeartbeats 4000000 in
set_option maxRecDepth 100000 in
/-- two slices that read alike -/
theorem eqReasonS_c (v1 v2 : Value) (n B : Nat) (l : List Rsn) (w : World) (h1 : Sl w B 3 n v1 (l.flatMap rscells)) (h2 : Sl w B 3 n v2 (l.flatMap rscells)) (hB : B ≤ w.heap.size) :
    Calls Tryz.prog 19 #[v1, v2] w (BoolPost w true) := by
  obtain ⟨A1, k1, rfl, _, hm1⟩ := h1.form
  obtain ⟨A2, k2, rfl, _, hm2⟩ := h2.form
  unfold maxLen at hm1 hm2
  have HS := hid (And.intro h1 h2)
  have b0 : ((n : Int) != (n : Int)) = false := by simp
  clear h1 h2
  go_enter Tryz.func19, Tryz.ntmps19
  go_wp2_with fail
  go_loopw [5] (fun iv wr => ∃ (i : Nat), iv = .int .i64 i ∧ i ≤ n ∧ Hid (Below w.heap.size w wr)) (fun iv _ => n - (intOf iv).toNat)
  case atStart => exact ⟨0, rfl, by omega, Below.refl _ _⟩
  case round =>
    obtain ⟨k, rfl, hi, HB⟩ := hrel
    by_cases hlt : k < n
    · obtain ⟨b, o, kd, lg, hd, rfl, hb1, hx, g0, g1, g2⟩ := rscells_at HS.out.1 hlt
      obtain ⟨b', o', kd', lg', hd', rfl, hb2, hx', g0', g1', g2'⟩ := rscells_at HS.out.2 hlt
      rw [hx] at hx'
      have hx'' := Option.some.inj hx'
      simp only [Rsn.mk.injEq, bytes_eq_iff] at hx''
      obtain ⟨rfl, rfl, rfl⟩ := hx''
      have c0 : wr.cell? ⟨b, o + k * 3, none⟩ = some (.int .i64 kd) := (HB.out.cell (p := ⟨b, o + k * 3, none⟩) (by show b < _; omega)).trans g0
      have c1 : wr.cell? ⟨b, o + k * 3 + 1, none⟩ = some (.string lg) := (HB.out.cell (p := ⟨b, o + k * 3 + 1, none⟩) (by show b < _; omega)).trans g1
      have c2 : wr.cell? ⟨b, o + k * 3 + 2, none⟩ = some (.string hd) := (HB.out.cell (p := ⟨b, o + k * 3 + 2, none⟩) (by show b < _; omega)).trans g2
      have c0' : wr.cell? ⟨b', o' + k * 3, none⟩ = some (.int .i64 kd) := (HB.out.cell (p := ⟨b', o' + k * 3, none⟩) (by show b' < _; omega)).trans g0'
      have c1' : wr.cell? ⟨b', o' + k * 3 + 1, none⟩ = some (.string lg) := (HB.out.cell (p := ⟨b', o' + k * 3 + 1, none⟩) (by show b' < _; omega)).trans g1'
      have c2' : wr.cell? ⟨b', o' + k * 3 + 2, none⟩ = some (.string hd) := (HB.out.cell (p := ⟨b', o' + k * 3 + 2, none⟩) (by show b' < _; omega)).trans g2'
      have hcall := hid (fun W => eqReason_c kd lg hd W)
      have hlt1 : b < wr.heap.size := by have := HB.out.size; omega
      have hlt2 : b' < wr.heap.size := by have := HB.out.size; omega
      clear hx hx' g0 g1 g2 g0' g1' g2'
      go_wp2_with fail
      go_region_with (go_at_call 43; refine (hcall.out _).mono ?_; rintro e w1 ⟨rfl, hb⟩)
      all_goals go_wp2_with fail
      all_goals
        go_roundw
        case rel => exact ⟨k + 1, by go_num, by omega, by first | exact HB.out.trans (hb.mono HB.out.size) | exact HB.out.drew.trans (hb.mono HB.out.drew.size)⟩
        case measure => simp [intOf]; omega
    · go_wp2_with fail
      go_ret
      exact ⟨rfl, HB.out⟩
def rscellsKinds : List Bool := [false, true, true]

set_option maxHeartbeats 4000000 in
set_option maxRecDepth 100000 in
theorem markReasonS_c (v : Value) (n base k : Nat) (xs : List Value) (w : World) (hv : w.ownsRow base 77 3 v n xs) (hn : n * 3 + k ≤ 17592186044416) :
    Calls Tryz.prog 20 #[v, .int .i64 k] w (MarkPost w v base 77 rscellsKinds 3 n k) := by
  obtain ⟨A, c, rfl, hnc, hcm⟩ := (Sl.of_own hv).form
  unfold maxLen at hcm
  have HV := hid hv
  clear hv
  go_enter Tryz.func20, Tryz.ntmps20
  go_wp2_with fail
  go_loopw [1, 5] (fun kv iv wr => ∃ (i : Nat) (q : Int) (ys : List Value), kv = .int .i64 q ∧ iv = .int .i64 i ∧ i ≤ n ∧ 0 ≤ q ∧ q ≤ 17592186044416 ∧ Hid (q = ((k + i * 3 : Nat) : Int)) ∧ Hid (wr.ownsRow base 77 3 (.slice A n c) n ys) ∧ Hid (MarkedK rscellsKinds 3 ys k (i * 3)) ∧ Hid (w.grownBy wr (Value.slice A n c).ownBlock)) (fun _ iv _ => n - (intOf iv).toNat)
  case atStart => exact ⟨0, _, xs, rfl, rfl, Nat.zero_le _, by omega, by omega, by show (k : Int) = _; simp, HV.out, fun j hj => absurd hj (by omega), World.grownBy.refl _ _⟩
  case round =>
    obtain ⟨i, q, ys, rfl, rfl, hi, hq0, hq1, HQ, HO, HM, HG⟩ := hrel
    by_cases hlt : i < n
    · obtain ⟨g, rfl, hglt⟩ := own_some HO.out (by omega)
      have hid2 : i * 3 + 3 ≤ n * 3 := by have := Nat.mul_le_mul_right 3 hlt; omega
      have hq2 : q ≤ 17592186044416 - 3 := by have := HQ.out; omega
      obtain ⟨x1, hx1, _⟩ := txt_mk (mt (k + i * 3 + 1))
      have HC1 := hid (fun W => mark_at (q := (q + 1)) (m := k + i * 3 + 1) W (by have := HQ.out; omega) (by have := HQ.out; omega) hx1)
      have HX1 := hid hx1
      clear hx1
      obtain ⟨x2, hx2, _⟩ := txt_mk (mt (k + i * 3 + 2))
      have HC2 := hid (fun W => mark_at (q := (q + 1 + 1)) (m := k + i * 3 + 2) W (by have := HQ.out; omega) (by have := HQ.out; omega) hx2)
      have HX2 := hid hx2
      clear hx2
      have hown := HO.out
      obtain ⟨u0, d0⟩ := own_cell hown (j := i * 3) (by have := Nat.mul_le_mul_right 3 hlt; omega)
      have f0 := hown.frozenAt (i * 3)
      have hs0 := hown.stored (i * 3) (.int .i64 q)
      have HO0 := hid hs0.1
      have HG0 := hid (grown_tr HG.out hs0.2)
      clear hown hs0
      go_wp2_with fail
      refine (HC1.out _).mono ?_
      rintro e w1 ⟨rfl, hb⟩
      have hown := own_below HO0.out hb
      have HG1a := hid (grown_tr HG0.out (grown_of hb _))
      clear hb
      obtain ⟨u1, d1⟩ := own_cell hown (j := i * 3 + 1) (by have := Nat.mul_le_mul_right 3 hlt; omega)
      have f1 := hown.frozenAt (i * 3 + 1)
      have hs1 := hown.stored (i * 3 + 1) (.string x1)
      have HO1 := hid hs1.1
      have HG1 := hid (grown_tr HG1a.out hs1.2)
      clear hown hs1
      go_wp2_with fail
      refine (HC2.out _).mono ?_
      rintro e w2 ⟨rfl, hb⟩
      have hown := own_below HO1.out hb
      have HG2a := hid (grown_tr HG1.out (grown_of hb _))
      clear hb
      obtain ⟨u2, d2⟩ := own_cell hown (j := i * 3 + 2) (by have := Nat.mul_le_mul_right 3 hlt; omega)
      have f2 := hown.frozenAt (i * 3 + 2)
      have hs2 := hown.stored (i * 3 + 2) (.string x2)
      have HO2 := hid hs2.1
      have HG2 := hid (grown_tr HG2a.out hs2.2)
      clear hown hs2
      go_wp2_with fail
      go_roundw
      case rel =>
        refine ⟨i + 1, _, _, rfl, by go_num, by omega, by omega, by omega, ?_, HO2.out, ?_, HG2.out⟩
        · have := HQ.out; show _ = _; rw [this]; omega
        · have hm := marked_put (ks := rscellsKinds) (d := 3) HM.out [.int .i64 q, .string x1, .string x2] rfl (by have := HO.out.1; have := Nat.mul_le_mul_right 3 hlt; omega) (by
            intro j hj
            have := HQ.out
            match j, hj with
            | 0, _ => simp [rscellsKinds, mkv]; omega
            | 1, _ => (have := HX1.out; simpa [rscellsKinds, mkv] using this.symm)
            | 2, _ => (have := HX2.out; simpa [rscellsKinds, mkv] using this.symm))
          exact hm
      case measure => simp [intOf]; omega
    · obtain rfl : i = n := by omega
      go_wp2_with fail
      go_ret
      exact ⟨ret_int HQ.out, ⟨ys, HO.out, HM.out⟩, HG.out⟩

set_option maxHeartbeats 4000000 in
set_option maxRecDepth 100000 in
theorem heldReasonS_c (v : Value) (n B k : Nat) (xs : List Value) (w : World) (hv : Sl w B 3 n v xs) (hB : B ≤ w.heap.size) (hM : MarkedK rscellsKinds 3 xs k (n * 3)) (hn : n * 3 + k ≤ 17592186044416) :
    Calls Tryz.prog 21 #[v, .int .i64 k] w fun e w' => e = .returned (.int .i64 ((k + n * 3 : Nat) : Int)) ∧ Below w.heap.size w w' := by
  obtain ⟨A, c, rfl, hnc, hcm⟩ := hv.form
  unfold maxLen at hcm
  have HV := hid (And.intro hv hM)
  clear hv hM
  go_enter Tryz.func21, Tryz.ntmps21
  go_wp2_with fail
  go_loopw [1, 5] (fun kv iv wr => ∃ (i : Nat) (q : Int), kv = .int .i64 q ∧ iv = .int .i64 i ∧ i ≤ n ∧ 0 ≤ q ∧ q ≤ 17592186044416 ∧ Hid (q = ((k + i * 3 : Nat) : Int)) ∧ Hid (Below w.heap.size w wr)) (fun _ iv _ => n - (intOf iv).toNat)
  case atStart => exact ⟨0, _, rfl, rfl, Nat.zero_le _, by omega, by omega, by show (k : Int) = _; simp, Below.refl _ _⟩
  case round =>
    obtain ⟨i, q, rfl, rfl, hi, hq0, hq1, HQ, HB⟩ := hrel
    by_cases hlt : i < n
    · obtain ⟨b, o, rfl, hbB, hcl⟩ := sl_elem HV.out.1 hlt
      have hM := HV.out.2
      have hid2 : i * 3 + 3 ≤ n * 3 := by have := Nat.mul_le_mul_right 3 hlt; omega
      have hq2 : q ≤ 17592186044416 - 3 := by have := HQ.out; omega
      have b0 : (q != q) = false := by simp
      obtain ⟨x1, hx1, _⟩ := txt_mk (mt (k + i * 3 + 1))
      have HC1 := hid (fun W => mark_at (q := (q + 1)) (m := k + i * 3 + 1) W (by have := HQ.out; omega) (by have := HQ.out; omega) hx1)
      have e1 := eq_true_of (a := x1) (b := x1) rfl
      obtain ⟨x2, hx2, _⟩ := txt_mk (mt (k + i * 3 + 2))
      have HC2 := hid (fun W => mark_at (q := (q + 1 + 1)) (m := k + i * 3 + 2) W (by have := HQ.out; omega) (by have := HQ.out; omega) hx2)
      have e2 := eq_true_of (a := x2) (b := x2) rfl
      have c0 : wr.cell? ⟨b, o + i * 3, none⟩ = some (.int .i64 q) := (HB.out.cell (p := ⟨b, o + i * 3, none⟩) (by show b < _; omega)).trans (hcl 0 _ (marked_at hM (i := i) (by omega) (by omega) (by simp [rscellsKinds, mkv]; have := HQ.out; omega)))
      have c1 : wr.cell? ⟨b, o + i * 3 + 1, none⟩ = some (.string x1) := (HB.out.cell (p := ⟨b, o + i * 3 + 1, none⟩) (by show b < _; omega)).trans (hcl 1 _ (marked_at hM (i := i) (by omega) (by omega) (by simpa [rscellsKinds, mkv] using hx1)))
      have c2 : wr.cell? ⟨b, o + i * 3 + 2, none⟩ = some (.string x2) := (HB.out.cell (p := ⟨b, o + i * 3 + 2, none⟩) (by show b < _; omega)).trans (hcl 2 _ (marked_at hM (i := i) (by omega) (by omega) (by simpa [rscellsKinds, mkv] using hx2)))
      have hblt : b < wr.heap.size := by have := HB.out.size; omega
      clear hcl hM
      have HBx := HB
      all_goals go_wp2_with fail
      all_goals go_region_with (go_at_call 41; refine (HC1.out _).mono ?_; rintro e w1 ⟨rfl, hb⟩; have c1 := (hb.cell (p := ⟨b, o + i * 3 + 1, none⟩) hblt).trans c1; have c2 := (hb.cell (p := ⟨b, o + i * 3 + 2, none⟩) hblt).trans c2; replace HBx := hid (Below.trans (by first | exact HBx.out | exact HBx.out.drew) (hb.mono (by first | exact HBx.out.size | simpa using HBx.out.size))); replace hblt : b < w1.heap.size := (by have := hb.size; first | omega | (simp at this; omega)); clear hb)
      all_goals go_wp2_with fail
      all_goals go_region_with (go_at_call 41; refine (HC2.out _).mono ?_; rintro e w1 ⟨rfl, hb⟩; have c2 := (hb.cell (p := ⟨b, o + i * 3 + 2, none⟩) hblt).trans c2; replace HBx := hid (Below.trans (by first | exact HBx.out | exact HBx.out.drew) (hb.mono (by first | exact HBx.out.size | simpa using HBx.out.size))); replace hblt : b < w1.heap.size := (by have := hb.size; first | omega | (simp at this; omega)); clear hb)
      all_goals go_wp2_with fail
      all_goals
        go_roundw
        case rel => exact ⟨i + 1, _, rfl, by go_num, by omega, by omega, by omega, by have := HQ.out; show _ = _; rw [this]; omega, by first | exact HBx.out | exact HBx.out.drew⟩
        case measure => simp [intOf]; omega
    · obtain rfl : i = n := by omega
      go_wp2_with fail
      go_ret
      exact ⟨ret_int HQ.out, HB.out⟩
end Go.Proofs.YteekkccgdkmjoaaGreat
