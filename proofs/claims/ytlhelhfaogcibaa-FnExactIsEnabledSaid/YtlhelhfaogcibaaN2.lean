/-
  TREES: what owns its memory (rows that lie apart), and the laws' copies of trees.
-/
import Derived.Test.YtlhelhfaogcibaaN1
namespace Go.Proofs.Ytlhelhfaogcibaa
open Go.RowKit Nm
set_option linter.unusedSimpArgs false
set_option linter.unusedVariables false

/-- a row of cells that a slice owns -/
structure Row where
  T : TypeId
  d : Nat
  n : Nat
  v : Value
  xs : List Value
def Row.own (w : World) (lo : Nat) (r : Row) : Prop := w.ownsRow lo r.T r.d r.v r.n r.xs
/-- they lie apart -/
def Row.apart (a b : Row) : Prop := (a.v.ownBlock = none ∨ a.v.ownBlock ≠ b.v.ownBlock) ∧ (b.v.ownBlock = none ∨ b.v.ownBlock ≠ a.v.ownBlock)
theorem Row.apart.symm {a b : Row} (h : a.apart b) : b.apart a := And.intro h.2 h.1
def Rows (w : World) (lo : Nat) (rs : List Row) : Prop := (∀ r ∈ rs, r.own w lo) ∧ rs.Pairwise Row.apart
section
variable {w w' : World} {lo lo' : Nat} {rs rs' : List Row} {r : Row}
theorem Rows.nil (w : World) (lo : Nat) : Rows w lo [] := ⟨fun _ h => (by cases h), List.Pairwise.nil⟩
theorem Rows.below (h : Rows w lo rs) (hb : Below w.heap.size w w') : Rows w' lo rs := ⟨fun r hr => own_below (h.1 r hr) hb, h.2⟩
theorem Rows.base (h : Rows w lo rs) (hl : lo' ≤ lo) : Rows w lo' rs := ⟨fun r hr => own_base (h.1 r hr) hl, h.2⟩
theorem Rows.mem (h : Rows w lo rs) (hr : r ∈ rs) : r.own w lo := h.1 r hr
theorem Rows.sub (h : Rows w lo rs) (hs : rs'.Sublist rs) : Rows w lo rs' := ⟨fun r hr => h.1 r (hs.subset hr), h.2.sublist hs⟩
theorem Rows.perm (h : Rows w lo rs) (hp : rs.Perm rs') : Rows w lo rs' := ⟨fun r hr => h.1 r (hp.mem_iff.2 hr), (hp.pairwise_iff (fun h => Row.apart.symm h)).1 h.2⟩
theorem row_apart {w w' : World} {lo : Nat} {a b : Row} (h1 : a.own w lo) (h2 : b.own w' w.heap.size) : a.apart b := by
  constructor
  · cases hq : a.v.ownBlock with
    | none => exact .inl rfl
    | some g => right; intro e; have := (h1.lt g hq).2; have := own_lt h2 g e.symm; omega
  · cases hq : b.v.ownBlock with
    | none => exact .inl rfl
    | some g => right; intro e; have := (h1.lt g e.symm).2; have := own_lt h2 g hq; omega
/-- later rows behind the elder ones -/
theorem Rows.more (h : Rows w lo rs) (hb : Below w.heap.size w w') (h2 : Rows w' w.heap.size rs') (hl : lo ≤ w.heap.size) : Rows w' lo (rs ++ rs') := by
  refine ⟨fun r hr => ?_, List.pairwise_append.2 ⟨h.2, h2.2, fun a ha b hb => row_apart (h.1 a ha) (h2.1 b hb)⟩⟩
  rcases List.mem_append.1 hr with hr | hr
  · exact own_below (h.1 r hr) hb
  · exact own_base (h2.1 r hr) hl
theorem Rows.one (h : r.own w lo) : Rows w lo [r] := ⟨fun x hx => by rw [List.mem_singleton] at hx; rw [hx]; exact h, List.pairwise_singleton _ _⟩
/-- one row is written, the others stand -/
theorem Rows.write {pre post : List Row} {ys : List Value} (h : Rows w lo (pre ++ r :: post)) (hg : w.grownBy w' r.v.ownBlock) (ho : w'.ownsRow lo r.T r.d r.v r.n ys) :
    Rows w' lo (pre ++ { r with xs := ys } :: post) := by
  have hp := List.pairwise_append.1 h.2
  have hp2 := List.pairwise_cons.1 hp.2.1
  refine ⟨fun x hx => ?_, ?_⟩
  · rcases List.mem_append.1 hx with hx | hx
    · exact (h.1 x (List.mem_append.2 (.inl hx))).kept hg (hp.2.2 x hx r (by simp)).1
    · rcases List.mem_cons.1 hx with rfl | hx
      · exact ho
      · exact (h.1 x (List.mem_append.2 (.inr (by simp [hx])))).kept hg (hp2.1 x hx).2
  · refine List.pairwise_append.2 ⟨hp.1, List.pairwise_cons.2 ⟨fun b hb => hp2.1 b hb, hp2.2⟩, fun a ha b hb => ?_⟩
    rcases List.mem_cons.1 hb with rfl | hb
    · exact hp.2.2 a ha r (by simp)
    · exact hp.2.2 a ha b (by simp [hb])
theorem Rows.low {b j : Nat} {u : Value} (h : Rows w lo rs) (hb : b < lo) : Rows (w.setCell ⟨b, j, none⟩ u) lo rs := ⟨fun r hr => own_set_low (h.1 r hr) hb, h.2⟩
theorem Rows.head (h : Rows w lo (r :: rs)) : r.own w lo := h.1 r (by simp)
theorem Rows.tail (h : Rows w lo (r :: rs)) : Rows w lo rs := ⟨fun x hx => h.1 x (by simp [hx]), (List.pairwise_cons.1 h.2).2⟩
end

def lrows (x : LgrV) : List Row := [⟨9, 1, x.hn, x.hv, x.l.hs.map txt⟩, ⟨112, 3, x.fn, x.fv, fsCells x.l.fs⟩]
def hrows (x : HndV) : List Row := [⟨112, 3, x.fn, x.fv, fsCells x.h.fs⟩]
def lsRow (n : Nat) (v : Value) (l : List LgrV) : Row := ⟨55, 6, n, v, l.flatMap lcells⟩
def hsRow (n : Nat) (v : Value) (l : List HndV) : Row := ⟨91, 3, n, v, l.flatMap hcells⟩
def treeRows (n1 : Nat) (v1 : Value) (ls : List LgrV) (n2 : Nat) (v2 : Value) (hs : List HndV) : List Row :=
  (lsRow n1 v1 ls :: ls.flatMap lrows) ++ (hsRow n2 v2 hs :: hs.flatMap hrows)
/-- a tree that owns its memory, from block lo on -/
def TreeOwn (w : World) (lo : Nat) (v : Value) (ls : List LgrV) (hs : List HndV) (q : Int) : Prop :=
  ∃ v1 v2, v = .agg #[v1, v2, .int .i64 q] ∧ Rows w lo (treeRows ls.length v1 ls hs.length v2 hs)

set_option maxHeartbeats 4000000 in
set_option maxRecDepth 100000 in
theorem toStringS_c (v : Value) (n B : Nat) (l : List (List UInt8)) (w : World) (hv : Sl w B 1 n v (l.map txt)) (hB : B ≤ w.heap.size) (hn : n ≤ 1048576) :
    Calls Try.prog 88 #[v] w (RowPost w 9 1 n (l.map txt)) := by
  have hln : l.length = n := by have := hv.1; simpa using this
  obtain ⟨A, c, rfl, hnc, hcm⟩ := hv.form
  obtain ⟨i0, hi, hz0, hz1, hz2⟩ := info_parts Try.infoStr
  unfold maxLen at hcm
  have HV := hid (And.intro hv hln)
  clear hv hln
  go_enter Try.func88, Try.ntmps88
  go_wp2_with (at_make; refine wpList_make_full _ rfl _ _ 35 rfl w.heap.size 9 i0 _ 1 Try.underlying35 hi hz0 hz1 .i64 .i64 _ _ n rfl rfl rfl rfl (by rw [hz2]; omega) (by unfold maxLen; omega) (Nat.le_refl _) ?_)
  intro w1 hown hg1
  have H1 := hid (And.intro hown (below_of_grown hg1 (Nat.le_refl _) (by simp)))
  clear hown hg1
  go_wp2_with fail
  go_loopw [4] (fun iv wr => ∃ (k : Nat) (xs : List Value), iv = .int .i64 k ∧ k ≤ n ∧ wr.ownsRow w.heap.size 9 1 (.slice (some ⟨w.heap.size, 0, none⟩) n n) n xs ∧ Hid (∀ j, j < k → xs[j]? = (l.map txt)[j]?) ∧ Hid (Below w.heap.size w wr)) (fun iv _ => n - (intOf iv).toNat)
  case atStart => exact ⟨0, _, rfl, by omega, H1.out.1, fun j hj => by omega, H1.out.2⟩
  case round =>
    obtain ⟨k, xs, rfl, hk, hown, HX, HB⟩ := hrel
    by_cases hlt : k < n
    · obtain ⟨b, o, p, rfl, hbB, hx, c0⟩ := (HV.out.1.below HB.out hB).text hlt
      have hxl := hown.1
      obtain ⟨u0, d0⟩ := own_cell hown (j := k) (by omega)
      have f0 := hown.frozenAt k
      have R := hid (hown.stored k (.string p)).1
      have HX2 := hid hx
      clear hx hown
      go_wp2_with fail
      try go_region
      all_goals try go_wp2_with fail
      all_goals
        go_roundw
        case rel =>
          refine ⟨k + 1, xs.set k (.string p), by go_num, by omega, by first | exact R.out | exact R.out.drew, ?_, by first | exact HB.out.setCell (Nat.le_refl _) _ | exact (HB.out.drew).setCell (Nat.le_refl _) _⟩
          intro j hj
          rw [List.getElem?_set]
          by_cases e : k = j
          · subst e
            rw [if_pos rfl, if_pos (by omega), List.getElem?_map, HX2.out, ← txt_data]; rfl
          · rw [if_neg e]; exact HX.out j (by omega)
        case measure => simp [intOf]; omega
    · have HO := hid hown
      clear hown
      go_wp2_with fail
      go_ret
      refine ⟨_, rfl, ?_, HB.out⟩
      have e : xs = l.map txt := by
        have h1 := HO.out.1
        have h3 := HV.out.2
        apply List.ext_getElem?
        intro j
        by_cases hj : j < k
        · exact HX.out j hj
        · rw [List.getElem?_eq_none (by omega), List.getElem?_eq_none (by simp; omega)]
      rw [← e]
      exact HO.out

def LgrPost (w : World) (s : ByteArray) (lv : Int) (hs : List (List UInt8)) (fs : List Flt) (b1 b2 : Bool) (n1 n2 : Nat) (e : Ending) (w' : World) : Prop :=
  ∃ hv fv, e = .returned (.agg #[.string s, .int .i64 lv, hv, fv, .bool b1, .bool b2]) ∧ Rows w' w.heap.size (lrows ⟨⟨s.data.toList, lv, hs, fs, b1, b2⟩, hv, n1, fv, n2⟩) ∧ Below w.heap.size w w'

set_option maxHeartbeats 4000000 in
set_option maxRecDepth 100000 in
theorem toLogger_c (s : ByteArray) (lv : Int) (A1 A2 : Option Addr) (n1 c1 n2 c2 B : Nat) (hs : List (List UInt8)) (fs : List Flt) (b1 b2 : Bool) (w : World)
    (h1 : Sl w B 1 n1 (.slice A1 n1 c1) (hs.map txt)) (h2 : Sl w B 3 n2 (.slice A2 n2 c2) (fsCells fs)) (hB : B ≤ w.heap.size) (hn1 : n1 ≤ 1048576) (hn2 : n2 ≤ 1048576) :
    Calls Try.prog 69 #[.agg #[.string s, .int .i64 lv, .slice A1 n1 c1, .slice A2 n2 c2, .bool b1, .bool b2]] w (LgrPost w s lv hs fs b1 b2 n1 n2) := by
  have C1 := hid (fun (W : World) (hW : Below w.heap.size w W) => toStringS_c _ n1 B hs W (h1.below hW hB) (Nat.le_trans hB hW.size) hn1)
  have C2 := hid (fun (W : World) (hW : Below w.heap.size w W) => toFilterS_c _ n2 B fs W (h2.below hW hB) (Nat.le_trans hB hW.size) hn2)
  clear h1 h2
  go_enter Try.func69, Try.ntmps69
  go_wp2_with fail
  refine (C1.out _ ?_).mono ?_
  case refine_1 => go_grown
  rintro e w1 ⟨hv, rfl, ho1, hb1⟩
  obtain ⟨A3, c3, rfl, _, _⟩ := (Sl.of_own ho1).form
  have K1 := (Blk.new _ _ _).to hb1
  have R1 := ((Blk.new _ _ _).alloc _).to hb1
  have I1 := (((Blk.new _ _ _).alloc _).alloc _).to hb1
  simp only [World.size_alloc] at K1 R1 I1
  have HB1 := hid (Below.trans (by go_grown) (hb1.mono (by simp; omega)) : Below w.heap.size w w1)
  have HO1 := hid (own_base ho1 (by simp) : w1.ownsRow (w.heap.size + 3) _ _ _ _ _)
  have HS1 := hid (show w.heap.size + 3 ≤ w1.heap.size by have := hb1.size; simp at this; omega)
  have d3 := (I1.2 3 _ rfl).1
  have e2 := K1.2 2 _ rfl
  obtain ⟨e2c, e2f⟩ := e2
  have HK := hid (And.intro K1 (And.intro R1 I1))
  clear K1 R1 I1 hb1 ho1
  go_wp2_with fail
  refine (C2.out _ (HB1.out.setCell (by simp; omega) _)).mono ?_
  rintro e w2 ⟨fv, rfl, ho2, hb2⟩
  obtain ⟨A4, c4, rfl, _, _⟩ := (Sl.of_own ho2).form
  obtain ⟨K1, R1, I1⟩ := HK.out
  have hs1 := HS1.out
  have K2 := (K1.set 2 (.slice A3 n1 c3)).to hb2
  have R2 := (R1.apart ⟨w.heap.size + 1 + 1, 2, none⟩ (.slice A3 n1 c3) (by simp)).to hb2
  have HB2 := hid ((HB1.out.setCell (p := ⟨w.heap.size + 1 + 1, 2, none⟩) (by simp; omega) (.slice A3 n1 c3)).trans (hb2.mono (by simp; omega)))
  have hr1 : Row.own (w1.setCell ⟨w.heap.size + 1 + 1, 2, none⟩ (.slice A3 n1 c3)) (w.heap.size + 3) ⟨9, 1, n1, .slice A3 n1 c3, hs.map txt⟩ := own_set_low HO1.out (by omega)
  have HR2 := hid ((Rows.one hr1).more hb2 (Rows.one (r := ⟨112, 3, n2, .slice A4 n2 c4, fsCells fs⟩) ho2) (by simp; omega))
  obtain ⟨e0c, e0f⟩ := K2.2 0 _ rfl
  obtain ⟨e1c, e1f⟩ := K2.2 1 _ rfl
  obtain ⟨e2c', e2f'⟩ := K2.2 2 _ rfl
  obtain ⟨e3c, e3f⟩ := K2.2 3 _ rfl
  obtain ⟨e4c, e4f⟩ := K2.2 4 _ rfl
  obtain ⟨e5c, e5f⟩ := K2.2 5 _ rfl
  obtain ⟨q0c, q0f⟩ := R2.2 0 _ rfl
  obtain ⟨q1c, q1f⟩ := R2.2 1 _ rfl
  obtain ⟨q2c, q2f⟩ := R2.2 2 _ rfl
  obtain ⟨q3c, q3f⟩ := R2.2 3 _ rfl
  obtain ⟨q4c, q4f⟩ := R2.2 4 _ rfl
  obtain ⟨q5c, q5f⟩ := R2.2 5 _ rfl
  have I2 := ((I1.apart ⟨w.heap.size + 1 + 1, 2, none⟩ (.slice A3 n1 c3) (by simp; omega)).to hb2)
  have i4 := (I2.2 4 _ rfl).1
  have i5 := (I2.2 5 _ rfl).1
  have hs2 : w.heap.size + 3 ≤ w2.heap.size := by have := hb2.size; simp at this; omega
  have HRB := hid R2
  clear K1 R1 I1 K2 R2 I2 hb2 ho2 hr1 e2c e2f d3
  go_wp2_with fail
  have RB := ((((((((HRB.out.apart ⟨w.heap.size + 1 + 1, 3, none⟩ (.slice A4 n2 c4) (by simp)).apart ⟨w.heap.size + 1 + 1, 4, none⟩ (.bool b1) (by simp)).apart ⟨w.heap.size + 1 + 1, 5, none⟩ (.bool b2) (by simp)).set 0 (.string s)).set 1 (.int .i64 lv)).set 2 (.slice A3 n1 c3)).set 3 (.slice A4 n2 c4)).set 4 (.bool b1)).set 5 (.bool b2)
  have f0 := (RB.2 0 _ rfl).1
  have f1 := (RB.2 1 _ rfl).1
  have f2 := (RB.2 2 _ rfl).1
  have f3 := (RB.2 3 _ rfl).1
  have f4 := (RB.2 4 _ rfl).1
  have f5 := (RB.2 5 _ rfl).1
  refine bodyPost_ret (v := .agg #[.string s, .int .i64 lv, .slice A3 n1 c3, .slice A4 n2 c4, .bool b1, .bool b2]) (by simp [results, Try.results69, go_sem, f0, f1, f2, f3, f4, f5]) rfl ?_
  refine ⟨_, _, rfl, ?_, ?_⟩
  · refine Rows.base ?_ (show w.heap.size ≤ w.heap.size + 3 by omega)
    iterate 9 refine Rows.low ?_ (by omega)
    exact HR2.out
  · iterate 9 refine Below.setCell ?_ (by simp; try omega) _
    exact HB2.out

def HndPost (w : World) (s : ByteArray) (lv : Int) (fs : List Flt) (n2 : Nat) (e : Ending) (w' : World) : Prop :=
  ∃ fv, e = .returned (.agg #[.string s, .int .i64 lv, fv]) ∧ Rows w' w.heap.size (hrows ⟨⟨s.data.toList, lv, fs⟩, fv, n2⟩) ∧ Below w.heap.size w w'

set_option maxHeartbeats 4000000 in
set_option maxRecDepth 100000 in
theorem toHandler_c (s : ByteArray) (lv : Int) (A2 : Option Addr) (n2 c2 B : Nat) (fs : List Flt) (w : World)
    (h2 : Sl w B 3 n2 (.slice A2 n2 c2) (fsCells fs)) (hB : B ≤ w.heap.size) (hn2 : n2 ≤ 1048576) :
    Calls Try.prog 70 #[.agg #[.string s, .int .i64 lv, .slice A2 n2 c2]] w (HndPost w s lv fs n2) := by
  have C2 := hid (fun (W : World) (hW : Below w.heap.size w W) => toFilterS_c _ n2 B fs W (h2.below hW hB) (Nat.le_trans hB hW.size) hn2)
  clear h2
  go_enter Try.func70, Try.ntmps70
  go_wp2_with fail
  refine (C2.out _ ?_).mono ?_
  case refine_1 => go_grown
  rintro e w1 ⟨fv, rfl, ho1, hb1⟩
  obtain ⟨A4, c4, rfl, _, _⟩ := (Sl.of_own ho1).form
  have K1 := (Blk.new _ _ _).to hb1
  have R1 := ((Blk.new _ _ _).alloc _).to hb1
  simp only [World.size_alloc] at K1 R1
  have HB1 := hid (Below.trans (by go_grown) (hb1.mono (by simp; omega)) : Below w.heap.size w w1)
  have HR1 := hid (Rows.one (r := ⟨112, 3, n2, .slice A4 n2 c4, fsCells fs⟩) (own_base ho1 (by simp) : w1.ownsRow (w.heap.size + 3) _ _ _ _ _))
  have hs1 : w.heap.size + 3 ≤ w1.heap.size := by have := hb1.size; simp at this; omega
  obtain ⟨e0c, e0f⟩ := K1.2 0 _ rfl
  obtain ⟨e1c, e1f⟩ := K1.2 1 _ rfl
  obtain ⟨e2c, e2f⟩ := K1.2 2 _ rfl
  obtain ⟨q0c, q0f⟩ := R1.2 0 _ rfl
  obtain ⟨q1c, q1f⟩ := R1.2 1 _ rfl
  obtain ⟨q2c, q2f⟩ := R1.2 2 _ rfl
  have HRB := hid R1
  clear K1 R1 hb1 ho1
  go_wp2_with fail
  have RB := ((((HRB.out.apart ⟨w.heap.size + 1 + 1, 2, none⟩ (.slice A4 n2 c4) (by simp)).set 0 (.string s)).set 1 (.int .i64 lv)).set 2 (.slice A4 n2 c4))
  have f0 := (RB.2 0 _ rfl).1
  have f1 := (RB.2 1 _ rfl).1
  have f2 := (RB.2 2 _ rfl).1
  refine bodyPost_ret (v := .agg #[.string s, .int .i64 lv, .slice A4 n2 c4]) (by simp [results, Try.results70, go_sem, f0, f1, f2]) rfl ?_
  refine ⟨_, rfl, ?_, ?_⟩
  · refine Rows.base ?_ (show w.heap.size ≤ w.heap.size + 3 by omega)
    iterate 4 refine Rows.low ?_ (by omega)
    exact HR1.out
  · iterate 4 refine Below.setCell ?_ (by simp; try omega) _
    exact HB1.out

theorem Try.infoLogger : (Try.prog.info? 55).map (fun i => (i.zero, i.size, i.bytes)) = some (some (.agg #[.string ByteArray.empty, .int .i64 0, .slice none 0 0, .slice none 0 0, .bool false, .bool false]), 6, 80) := by kernel_rfl
theorem Try.infoHandler : (Try.prog.info? 91).map (fun i => (i.zero, i.size, i.bytes)) = some (some (.agg #[.string ByteArray.empty, .int .i64 0, .slice none 0 0]), 3, 48) := by kernel_rfl

def LgrsPost (w : World) (n : Nat) (l : List LgrV) (e : Ending) (w' : World) : Prop :=
  ∃ v l', e = .returned v ∧ lsOf l' = lsOf l ∧ Rows w' w.heap.size (lsRow n v l' :: l'.flatMap lrows) ∧ Below w.heap.size w w'
def HndsPost (w : World) (n : Nat) (l : List HndV) (e : Ending) (w' : World) : Prop :=
  ∃ v l', e = .returned v ∧ hsOf l' = hsOf l ∧ Rows w' w.heap.size (hsRow n v l' :: l'.flatMap hrows) ∧ Below w.heap.size w w'

set_option maxHeartbeats 4000000 in
set_option maxRecDepth 100000 in
theorem toLoggerS_c (v : Value) (n B : Nat) (l : List LgrV) (w : World) (hv : Sl w B 6 n v (l.flatMap lcells)) (hm : ∀ x ∈ l, lraw w B x) (hf : ∀ x ∈ l, lfit x) (hB : B ≤ w.heap.size) (hn : n ≤ 1048576) :
    Calls Try.prog 42 #[v] w (LgrsPost w n l) := by
  have hln := Sl.count lcells_len hv (by omega)
  obtain ⟨A, c, rfl, hnc, hcm⟩ := hv.form
  obtain ⟨i0, hi, hz0, hz1, hz2⟩ := info_parts Try.infoLogger
  unfold maxLen at hcm
  have HV := hid (And.intro hv (And.intro hm (And.intro hf hln)))
  clear hv hm hf hln
  go_enter Try.func42, Try.ntmps42
  go_wp2_with (at_make; refine wpList_make_full _ rfl _ _ 28 rfl w.heap.size 55 i0 _ 6 Try.underlying28 hi hz0 hz1 .i64 .i64 _ _ n rfl rfl rfl rfl (by rw [hz2]; omega) (by unfold maxLen; omega) (Nat.le_refl _) ?_)
  intro w1 hown hg1
  have H1 := hid (And.intro hown (And.intro (below_of_grown hg1 (Nat.le_refl _) (by simp)) (show w.heap.size < w1.heap.size from (hown.lt _ rfl).2)))
  clear hown hg1
  go_wp2_with fail
  go_loopw [4] (fun iv wr => ∃ (k : Nat) (xs : List Value) (l' : List LgrV), iv = .int .i64 k ∧ k ≤ n ∧ wr.ownsRow w.heap.size 55 6 (.slice (some ⟨w.heap.size, 0, none⟩) n n) n xs ∧ Hid (lsOf l' = lsOf (l.take k) ∧ (∀ j, j < k * 6 → xs[j]? = (l'.flatMap lcells)[j]?) ∧ Rows wr (w.heap.size + 1) (l'.flatMap lrows)) ∧ w.heap.size < wr.heap.size ∧ Hid (Below w.heap.size w wr)) (fun iv _ => n - (intOf iv).toNat)
  case atStart => exact ⟨0, _, [], rfl, by omega, H1.out.1, ⟨rfl, fun j hj => by omega, Rows.nil _ _⟩, H1.out.2.2, H1.out.2.1⟩
  case round =>
    obtain ⟨k, xs, l', rfl, hk, hown, HX, hsz, HB⟩ := hrel
    by_cases hlt : k < n
    · obtain ⟨b, o, x, s, rfl, hbB, hx, hs, c0, c1, c2, c3, c4, c5⟩ := lcells_at (HV.out.1.below HB.out hB) hlt
      obtain ⟨r1, ⟨r2, r3⟩, ⟨r4, r5⟩⟩ := (HV.out.2.1 _ (List.mem_of_getElem? hx)).below HB.out hB
      obtain ⟨f1, ⟨f2, f3⟩, ⟨f4, f5⟩⟩ := HV.out.2.2.1 _ (List.mem_of_getElem? hx)
      obtain ⟨A3, k3, hhv, _, _⟩ := r2.form
      obtain ⟨A4, k4, hfv, _, _⟩ := r4.form
      rw [hhv] at c2 r2
      rw [hfv] at c3 r4
      have hcall := hid (toLogger_c s x.l.lv A3 A4 x.hn k3 x.fn k4 B x.l.hs x.l.fs x.l.stop x.l.off wr r2 r4 (Nat.le_trans hB HB.out.size) f2 f4)
      have HX2 := hid (And.intro hx hs)
      have HO := hid hown
      clear hx hs r1 r2 r3 r4 r5 f1 f2 f3 f4 f5 hhv hfv hown
      go_wp2_with fail
      refine hcall.out.mono ?_
      rintro e w2 ⟨hv', fv', rfl, hrows, hb⟩
      have ohv : w2.ownsRow wr.heap.size 9 1 hv' x.hn (x.l.hs.map txt) := hrows.1 _ (List.mem_cons_self ..)
      have ofv : w2.ownsRow wr.heap.size 112 3 fv' x.fn (fsCells x.l.fs) := hrows.1 _ (List.mem_cons_of_mem _ (List.mem_cons_self ..))
      obtain ⟨A5, k5, rfl, _, _⟩ := (Sl.of_own ohv).form
      obtain ⟨A6, k6, rfl, _, _⟩ := (Sl.of_own ofv).form
      clear ohv ofv
      have hown2 := own_below HO.out hb
      have hid2 : k * 6 + 6 ≤ n * 6 := by have := Nat.mul_le_mul_right 6 hlt; omega
      obtain ⟨u0, d0⟩ := own_cell hown2 (j := k * 6) (by omega)
      obtain ⟨u1, d1⟩ := own_cell hown2 (j := k * 6 + 1) (by omega)
      obtain ⟨u2, d2⟩ := own_cell hown2 (j := k * 6 + 2) (by omega)
      obtain ⟨u3, d3⟩ := own_cell hown2 (j := k * 6 + 3) (by omega)
      obtain ⟨u4, d4⟩ := own_cell hown2 (j := k * 6 + 4) (by omega)
      obtain ⟨u5, d5⟩ := own_cell hown2 (j := k * 6 + 5) (by omega)
      have g0 := hown2.frozenAt (k * 6)
      have g1 := hown2.frozenAt (k * 6 + 1)
      have g2 := hown2.frozenAt (k * 6 + 2)
      have g3 := hown2.frozenAt (k * 6 + 3)
      have g4 := hown2.frozenAt (k * 6 + 4)
      have g5 := hown2.frozenAt (k * 6 + 5)
      have R := hid (own_put6 hown2 (k * 6) (.string s) (.int .i64 x.l.lv) (.slice A5 x.hn k5) (.slice A6 x.fn k6) (.bool x.l.stop) (.bool x.l.off))
      have HRW := hid (HX.out.2.2.more hb (rs' := lrows ⟨⟨s.data.toList, x.l.lv, x.l.hs, x.l.fs, x.l.stop, x.l.off⟩, .slice A5 x.hn k5, x.hn, .slice A6 x.fn k6, x.fn⟩) hrows (by omega))
      have HB2 := hid (HB.out.trans (hb.mono HB.out.size))
      have hsz2 : w.heap.size < w2.heap.size := Nat.lt_of_lt_of_le hsz hb.size
      have hxl := hown2.1
      have hll : l'.length = k := by
        have h1 := congrArg List.length HX.out.1
        simp only [lsOf, List.length_map, List.length_take] at h1
        have := HV.out.2.2.2; omega
      clear hown2 hb c0 c1 c2 c3 c4 c5 hrows
      go_wp2_with fail
      go_roundw
      case rel =>
        refine ⟨k + 1, _, l' ++ [⟨⟨s.data.toList, x.l.lv, x.l.hs, x.l.fs, x.l.stop, x.l.off⟩, .slice A5 x.hn k5, x.hn, .slice A6 x.fn k6, x.fn⟩], by go_num, by omega, R.out, ⟨?_, ?_, ?_⟩, by simpa using hsz2, ?_⟩
        · unfold lsOf at HX ⊢
          rw [List.map_append, HX.out.1, List.take_add_one, HX2.out.1, List.map_append]
          simp only [Option.toList, List.map_cons, List.map_nil]
          rw [HX2.out.2]
        · intro j hj
          have e := flat_grow lcells 6 lcells_len l' ⟨⟨s.data.toList, x.l.lv, x.l.hs, x.l.fs, x.l.stop, x.l.off⟩, .slice A5 x.hn k5, x.hn, .slice A6 x.fn k6, x.fn⟩ xs k hll (by omega) HX.out.2.1 j (by omega)
          simpa [put_all, lcells, txt_data] using e
        · rw [List.flatMap_append]
          iterate 6 refine Rows.low ?_ (by omega)
          simpa using HRW.out
        · iterate 6 refine Below.setCell ?_ (by simp) _
          exact HB2.out
      case measure => simp [intOf]; omega
    · have HO := hid hown
      clear hown
      go_wp2_with fail
      go_ret
      have hkn : k = n := by omega
      subst hkn
      have hll : l'.length = k := by
        have h1 := congrArg List.length HX.out.1
        simp only [lsOf, List.length_map, List.length_take] at h1
        have := HV.out.2.2.2; omega
      have e : xs = l'.flatMap lcells := by
        have h1 := HO.out.1
        have h2 := flat_len lcells 6 lcells_len l'
        apply List.ext_getElem?
        intro j
        by_cases hj : j < k * 6
        · exact HX.out.2.1 j hj
        · rw [List.getElem?_eq_none (by omega), List.getElem?_eq_none (by omega)]
      refine ⟨_, l', rfl, by rw [HX.out.1, List.take_of_length_le (by have := HV.out.2.2.2; omega)], ?_, HB.out⟩
      have ho := HO.out
      rw [e] at ho
      refine ⟨fun r hr => ?_, List.pairwise_cons.2 ⟨fun b hb => ?_, HX.out.2.2.2⟩⟩
      · rcases List.mem_cons.1 hr with rfl | hr
        · exact ho
        · exact own_base (HX.out.2.2.1 r hr) (by omega)
      · have h3 := HX.out.2.2.1 b hb
        constructor
        · right; intro e2; have := own_lt h3 w.heap.size e2.symm; omega
        · cases hq : b.v.ownBlock with
          | none => exact .inl rfl
          | some g => right; intro e2; have e3 : g = w.heap.size := Option.some.inj e2; have := own_lt h3 g hq; omega

set_option maxHeartbeats 4000000 in
set_option maxRecDepth 100000 in
theorem toHandlerS_c (v : Value) (n B : Nat) (l : List HndV) (w : World) (hv : Sl w B 3 n v (l.flatMap hcells)) (hm : ∀ x ∈ l, hraw w B x) (hf : ∀ x ∈ l, hfit x) (hB : B ≤ w.heap.size) (hn : n ≤ 1048576) :
    Calls Try.prog 43 #[v] w (HndsPost w n l) := by
  have hln := Sl.count hcells_len hv (by omega)
  obtain ⟨A, c, rfl, hnc, hcm⟩ := hv.form
  obtain ⟨i0, hi, hz0, hz1, hz2⟩ := info_parts Try.infoHandler
  unfold maxLen at hcm
  have HV := hid (And.intro hv (And.intro hm (And.intro hf hln)))
  clear hv hm hf hln
  go_enter Try.func43, Try.ntmps43
  go_wp2_with (at_make; refine wpList_make_full _ rfl _ _ 29 rfl w.heap.size 91 i0 _ 3 Try.underlying29 hi hz0 hz1 .i64 .i64 _ _ n rfl rfl rfl rfl (by rw [hz2]; omega) (by unfold maxLen; omega) (Nat.le_refl _) ?_)
  intro w1 hown hg1
  have H1 := hid (And.intro hown (And.intro (below_of_grown hg1 (Nat.le_refl _) (by simp)) (show w.heap.size < w1.heap.size from (hown.lt _ rfl).2)))
  clear hown hg1
  go_wp2_with fail
  go_loopw [4] (fun iv wr => ∃ (k : Nat) (xs : List Value) (l' : List HndV), iv = .int .i64 k ∧ k ≤ n ∧ wr.ownsRow w.heap.size 91 3 (.slice (some ⟨w.heap.size, 0, none⟩) n n) n xs ∧ Hid (hsOf l' = hsOf (l.take k) ∧ (∀ j, j < k * 3 → xs[j]? = (l'.flatMap hcells)[j]?) ∧ Rows wr (w.heap.size + 1) (l'.flatMap hrows)) ∧ w.heap.size < wr.heap.size ∧ Hid (Below w.heap.size w wr)) (fun iv _ => n - (intOf iv).toNat)
  case atStart => exact ⟨0, _, [], rfl, by omega, H1.out.1, ⟨rfl, fun j hj => by omega, Rows.nil _ _⟩, H1.out.2.2, H1.out.2.1⟩
  case round =>
    obtain ⟨k, xs, l', rfl, hk, hown, HX, hsz, HB⟩ := hrel
    by_cases hlt : k < n
    · obtain ⟨b, o, x, s, rfl, hbB, hx, hs, c0, c1, c2⟩ := hcells_at (HV.out.1.below HB.out hB) hlt
      obtain ⟨r1, ⟨r4, r5⟩⟩ := (HV.out.2.1 _ (List.mem_of_getElem? hx)).below HB.out hB
      obtain ⟨f1, ⟨f4, f5⟩⟩ := HV.out.2.2.1 _ (List.mem_of_getElem? hx)
      obtain ⟨A4, k4, hfv, _, _⟩ := r4.form
      rw [hfv] at c2 r4
      have hcall := hid (toHandler_c s x.h.lv A4 x.fn k4 B x.h.fs wr r4 (Nat.le_trans hB HB.out.size) f4)
      have HX2 := hid (And.intro hx hs)
      have HO := hid hown
      clear hx hs r1 r4 r5 f1 f4 f5 hfv hown
      go_wp2_with fail
      refine hcall.out.mono ?_
      rintro e w2 ⟨fv', rfl, hrw, hb⟩
      have ofv : w2.ownsRow wr.heap.size 112 3 fv' x.fn (fsCells x.h.fs)   := hrw.1 _ (List.mem_cons_self ..)
      obtain ⟨A6, k6, rfl, _, _⟩ := (Sl.of_own ofv).form
      clear ofv
      have hown2 := own_below HO.out hb
      have hid2 : k * 3 + 3 ≤ n * 3 := by have := Nat.mul_le_mul_right 3 hlt; omega
      obtain ⟨u0, d0⟩ := own_cell hown2 (j := k * 3) (by omega)
      obtain ⟨u1, d1⟩ := own_cell hown2 (j := k * 3 + 1) (by omega)
      obtain ⟨u2, d2⟩ := own_cell hown2 (j := k * 3 + 2) (by omega)
      have g0 := hown2.frozenAt (k * 3)
      have g1 := hown2.frozenAt (k * 3 + 1)
      have g2 := hown2.frozenAt (k * 3 + 2)
      have R := hid (own_put3 hown2 (k * 3) (.string s) (.int .i64 x.h.lv) (.slice A6 x.fn k6))
      have HRW := hid (HX.out.2.2.more hb (rs' := hrows ⟨⟨s.data.toList, x.h.lv, x.h.fs⟩, .slice A6 x.fn k6, x.fn⟩) hrw (by omega))
      have HB2 := hid (HB.out.trans (hb.mono HB.out.size))
      have hsz2 : w.heap.size < w2.heap.size := Nat.lt_of_lt_of_le hsz hb.size
      have hxl := hown2.1
      have hll : l'.length = k := by
        have h1 := congrArg List.length HX.out.1
        simp only [hsOf, List.length_map, List.length_take] at h1
        have := HV.out.2.2.2; omega
      clear hown2 hb c0 c1 c2 hrw
      go_wp2_with fail
      go_roundw
      case rel =>
        refine ⟨k + 1, _, l' ++ [⟨⟨s.data.toList, x.h.lv, x.h.fs⟩, .slice A6 x.fn k6, x.fn⟩], by go_num, by omega, R.out, ⟨?_, ?_, ?_⟩, by simpa using hsz2, ?_⟩
        · unfold hsOf at HX ⊢
          rw [List.map_append, HX.out.1, List.take_add_one, HX2.out.1, List.map_append]
          simp only [Option.toList, List.map_cons, List.map_nil]
          rw [HX2.out.2]
        · intro j hj
          have e := flat_grow hcells 3 hcells_len l' ⟨⟨s.data.toList, x.h.lv, x.h.fs⟩, .slice A6 x.fn k6, x.fn⟩ xs k hll (by omega) HX.out.2.1 j (by omega)
          simpa [put_all, hcells, txt_data] using e
        · rw [List.flatMap_append]
          iterate 3 refine Rows.low ?_ (by omega)
          simpa using HRW.out
        · iterate 3 refine Below.setCell ?_ (by simp) _
          exact HB2.out
      case measure => simp [intOf]; omega
    · have HO := hid hown
      clear hown
      go_wp2_with fail
      go_ret
      have hkn : k = n := by omega
      subst hkn
      have hll : l'.length = k := by
        have h1 := congrArg List.length HX.out.1
        simp only [hsOf, List.length_map, List.length_take] at h1
        have := HV.out.2.2.2; omega
      have e : xs = l'.flatMap hcells := by
        have h1 := HO.out.1
        have h2 := flat_len hcells 3 hcells_len l'
        apply List.ext_getElem?
        intro j
        by_cases hj : j < k * 3
        · exact HX.out.2.1 j hj
        · rw [List.getElem?_eq_none (by omega), List.getElem?_eq_none (by omega)]
      refine ⟨_, l', rfl, by rw [HX.out.1, List.take_of_length_le (by have := HV.out.2.2.2; omega)], ?_, HB.out⟩
      have ho := HO.out
      rw [e] at ho
      refine ⟨fun r hr => ?_, List.pairwise_cons.2 ⟨fun b hb => ?_, HX.out.2.2.2⟩⟩
      · rcases List.mem_cons.1 hr with rfl | hr
        · exact ho
        · exact own_base (HX.out.2.2.1 r hr) (by omega)
      · have h3 := HX.out.2.2.1 b hb
        constructor
        · right; intro e2; have := own_lt h3 w.heap.size e2.symm; omega
        · cases hq : b.v.ownBlock with
          | none => exact .inl rfl
          | some g => right; intro e2; have e3 : g = w.heap.size := Option.some.inj e2; have := own_lt h3 g hq; omega

def ToTreePost (w : World) (na nb : Nat) (la : List LgrV) (lb : List HndV) (q : Int) (e : Ending) (w' : World) : Prop :=
  ∃ v1 v2 ls hs, e = .returned (.agg #[v1, v2, .int .i64 q]) ∧ lsOf ls = lsOf la ∧ hsOf hs = hsOf lb ∧ Rows w' w.heap.size (treeRows na v1 ls nb v2 hs) ∧ Below w.heap.size w w'

set_option maxHeartbeats 4000000 in
set_option maxRecDepth 100000 in
theorem toTree_c (Aa : Option Addr) (na ca : Nat) (Ab : Option Addr) (nb cb B : Nat) (q : Int) (la : List LgrV) (lb : List HndV) (w : World) (h : treeRaw w B Aa na ca Ab nb cb la lb) (hf : treeFit na nb la lb) (hB : B ≤ w.heap.size) :
    Calls Try.prog 13 #[.agg #[.slice Aa na ca, .slice Ab nb cb, .int .i64 q]] w (ToTreePost w na nb la lb q) := by
  have C1 := hid (fun (W : World) (hW : Below w.heap.size w W) => toLoggerS_c _ na B la W (h.1.1.below hW hB) (fun x hx => (h.1.2 x hx).below hW hB) hf.1.2 (Nat.le_trans hB hW.size) hf.1.1)
  have C2 := hid (fun (W : World) (hW : Below w.heap.size w W) => toHandlerS_c _ nb B lb W (h.2.1.below hW hB) (fun x hx => (h.2.2 x hx).below hW hB) hf.2.2 (Nat.le_trans hB hW.size) hf.2.1)
  clear h hf
  go_enter Try.func13, Try.ntmps13
  go_wp2_with fail
  refine (C1.out _ ?_).mono ?_
  case refine_1 => go_grown
  rintro e w1 ⟨v1, ls, rfl, hls, hr1, hb1⟩
  obtain ⟨A3, c3, rfl, _, _⟩ := (Sl.of_own (show w1.ownsRow _ _ 6 v1 na _ from hr1.head)).form
  have K1 := (Blk.new _ _ _).to hb1
  have R1 := ((Blk.new _ _ _).alloc _).to hb1
  have I1 := (((Blk.new _ _ _).alloc _).alloc _).to hb1
  simp only [World.size_alloc] at K1 R1 I1
  have HB1 := hid (Below.trans (by go_grown) (hb1.mono (by simp; omega)) : Below w.heap.size w w1)
  have HO1 := hid (hr1.base (by simp) : Rows w1 (w.heap.size + 3) _)
  have HS1 := hid (show w.heap.size + 3 ≤ w1.heap.size by have := hb1.size; simp at this; omega)
  have d1 := (I1.2 1 _ rfl).1
  obtain ⟨e0c, e0f⟩ := K1.2 0 _ rfl
  have HK := hid (And.intro K1 (And.intro R1 I1))
  have HL := hid hls
  clear K1 R1 I1 hb1 hr1 hls
  go_wp2_with fail
  refine (C2.out _ (HB1.out.setCell (by simp; omega) _)).mono ?_
  rintro e w2 ⟨v2, hs, rfl, hhs, hr2, hb2⟩
  obtain ⟨A4, c4, rfl, _, _⟩ := (Sl.of_own (show w2.ownsRow _ _ 3 v2 nb _ from hr2.head)).form
  obtain ⟨K1, R1, I1⟩ := HK.out
  have hs1 := HS1.out
  have K2 := (K1.set 0 (.slice A3 na c3)).to hb2
  have R2 := (R1.apart ⟨w.heap.size + 1 + 1, 0, none⟩ (.slice A3 na c3) (by simp)).to hb2
  have I2 := ((I1.apart ⟨w.heap.size + 1 + 1, 0, none⟩ (.slice A3 na c3) (by simp; omega)).to hb2)
  have HB2 := hid ((HB1.out.setCell (p := ⟨w.heap.size + 1 + 1, 0, none⟩) (by simp; omega) (.slice A3 na c3)).trans (hb2.mono (by simp; omega)))
  have HR2 := hid ((HO1.out.low (b := w.heap.size + 1 + 1) (j := 0) (u := .slice A3 na c3) (by omega)).more hb2 hr2 (by simp; omega))
  have HL2 := hid hhs
  obtain ⟨e0c', e0f'⟩ := K2.2 0 _ rfl
  obtain ⟨e1c, e1f⟩ := K2.2 1 _ rfl
  obtain ⟨e2c, e2f⟩ := K2.2 2 _ rfl
  obtain ⟨q0c, q0f⟩ := R2.2 0 _ rfl
  obtain ⟨q1c, q1f⟩ := R2.2 1 _ rfl
  obtain ⟨q2c, q2f⟩ := R2.2 2 _ rfl
  have i2 := (I2.2 2 _ rfl).1
  have hs2 : w.heap.size + 3 ≤ w2.heap.size := by have := hb2.size; simp at this; omega
  have HRB := hid R2
  clear K1 R1 I1 K2 R2 I2 hb2 hr2 hhs e0c e0f d1
  go_wp2_with fail
  have RB := (((((HRB.out.apart ⟨w.heap.size + 1 + 1, 1, none⟩ (.slice A4 nb c4) (by simp)).apart ⟨w.heap.size + 1 + 1, 2, none⟩ (.int .i64 q) (by simp)).set 0 (.slice A3 na c3)).set 1 (.slice A4 nb c4)).set 2 (.int .i64 q))
  have f0 := (RB.2 0 _ rfl).1
  have f1 := (RB.2 1 _ rfl).1
  have f2 := (RB.2 2 _ rfl).1
  refine bodyPost_ret (v := .agg #[.slice A3 na c3, .slice A4 nb c4, .int .i64 q]) (by simp [results, Try.results13, go_sem, f0, f1, f2]) rfl ?_
  refine ⟨_, _, ls, hs, rfl, HL.out, HL2.out, ?_, ?_⟩
  · refine Rows.base ?_ (show w.heap.size ≤ w.heap.size + 3 by omega)
    iterate 5 refine Rows.low ?_ (by omega)
    exact HR2.out
  · iterate 5 refine Below.setCell ?_ (by simp; try omega) _
    exact HB2.out
end Go.Proofs.Ytlhelhfaogcibaa
