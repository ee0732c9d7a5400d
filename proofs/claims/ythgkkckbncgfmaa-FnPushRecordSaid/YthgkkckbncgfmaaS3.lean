/-
  STORES: copies of records; FlushBuffer of both.
-/
import Derived.Test.YthgkkckbncgfmaaS2
import Derived.Test.YthgkkckbncgfmaaApp
namespace Go.Proofs.Ythgkkckbncgfmaa
open Go.RowKit Nm
set_option linter.unusedSimpArgs false
set_option linter.unusedVariables false

set_option maxHeartbeats 1000000 in
set_option maxRecDepth 100000 in
theorem freshRecs_c {v : Value} {B : Nat} {l : List Rec} {w : World} (h : RecsIn w B v l) :
    Calls Try.prog 50 #[v] w (RowPost w 33 4 l.length (l.flatMap rcells)) := by
  obtain ⟨A, n, c, rfl⟩ := h.form
  have hn := h.2
  unfold maxTxt at hn
  have HV := hid h.1.1
  clear h
  go_enter Try.func50, Try.ntmps50
  go_wp2_with (at_builtin; refine appRecordS _ rfl _ _ rfl w.heap.size (.slice none 0 0) [] l (by rfl) (World.ownsRow_nil _ _ _ _) B _ (by rfl) HV.out (by simp; omega) (Nat.le_refl _) ?_)
  intro v' w' ho hb
  have HO := hid (show w'.ownsRow w.heap.size 33 4 v' l.length (l.flatMap rcells) by simpa using ho)
  have HB := hid hb
  clear ho hb
  go_wp2_with fail
  go_ret
  exact ⟨v', rfl, HO.out, HB.out⟩
set_option maxHeartbeats 1000000 in
set_option maxRecDepth 100000 in
theorem copyRecords_c {v : Value} {B : Nat} {l : List Rec} {w : World} (h : RecsIn w B v l) (hB : B ≤ w.heap.size) :
    Calls Try.prog 51 #[v] w (RowPost w 33 4 l.length (l.flatMap rcells)) := by
  obtain ⟨A, n, c, rfl⟩ := h.form
  have hn := h.2
  unfold maxTxt at hn
  have HV := hid (h.1.1.below ((Below.refl w.heap.size w).alloc (Nat.le_refl _) (.cells #[] 33)) hB)
  have HL := hid (World.ownsRow_lit w #[] 0 (Nat.le_refl _) (by unfold maxLen; omega) (by simp) : (w.alloc (.cells #[] 33)).ownsRow w.heap.size 33 4 (.slice (some ⟨w.heap.size, 0, none⟩) 0 0) 0 [])
  clear h
  go_enter Try.func51, Try.ntmps51
  go_wp2_with (at_builtin; refine appRecordS _ rfl _ _ rfl w.heap.size _ [] l (by rfl) HL.out B _ (by rfl) HV.out (by simp; omega) (by simp) ?_)
  intro v' w' ho hb
  have HO := hid (show w'.ownsRow w.heap.size 33 4 v' l.length (l.flatMap rcells) by simpa using ho)
  have HB := hid (Below.trans (by go_grown : Below w.heap.size w (w.alloc (.cells #[] 33))) hb)
  clear ho hb
  go_wp2_with fail
  go_ret
  exact ⟨v', rfl, HO.out, HB.out⟩

def flushB (d : Buf) : Buf := if bufOk d then ⟨d.rm, d.lv, []⟩ else ⟨0, 0, []⟩
def flushR (d : Buf) : List Rec := if bufOk d then d.rc else []
def FlushPost (w : World) (X0 : Buf) (X1 : List Rec) (e : Ending) (w2 : World) : Prop :=
  ∃ (u0 : Value) (rs0 : List Row), ∃ (u1 : Value) (rs1 : List Row), e = .returned (.tuple #[u0, u1]) ∧ BufR rs0 u0 X0 ∧ RecsR rs1 u1 X1 ∧ Rows w2 w.heap.size (rs0 ++ (rs1)) ∧ Below w.heap.size w w2
theorem flush_none {w w2 : World} {e : Ending} (he : e = .returned (.tuple #[.agg #[.int .i64 0, .int .i64 0, .slice none 0 0], .slice none 0 0])) (hb : Below w.heap.size w w2) : FlushPost w ⟨0, 0, []⟩ [] e w2 :=
  ⟨_, _, _, _, he, ⟨_, rfl, rfl⟩, rfl, Rows.cons_nil (Rows.one (World.ownsRow_nil _ _ _ _)), hb⟩
set_option maxHeartbeats 4000000 in
set_option maxRecDepth 100000 in
theorem implFlush_c {w : World} {B : Nat} {v : Value} {d : Buf} (h : BufIn w B v d) (hB : B ≤ w.heap.size) :
    Calls Try.prog 27 #[v] w (FlushPost w (flushB d) (flushR d)) := by
  obtain ⟨A, n, c, e⟩ := h.form
  have C1 := hid (fun (w1 : World) (hb : Below w.heap.size w w1) => implValidBuffer_c (h.below hb hB) (Nat.le_trans hB hb.size))
  have C2 := hid (fun (w1 : World) (hb : Below w.heap.size w w1) (u : Value) (hu : v = .agg #[.int .i64 d.rm, .int .i64 d.lv, u]) => freshRecs_c (show RecsIn w1 B u d.rc by
    obtain ⟨u', h1, h2⟩ := h; rw [h1] at hu; have := hu; simp at this; rw [← this]; exact h2.below hb hB))
  clear h
  obtain ⟨rm, lv, rc⟩ := d
  subst e
  cases hz : bufOk ⟨rm, lv, rc⟩ with
  | false =>
    have E0 := hid (show flushB ⟨rm, lv, rc⟩ = ⟨0, 0, []⟩ by unfold flushB; rw [hz]; rfl)
    have E1 := hid (show flushR ⟨rm, lv, rc⟩ = [] by unfold flushR; rw [hz]; rfl)
    rw [hz] at C1
    clear hz C2
    go_enter Try.func27, Try.ntmps27
    go_wp2_with fail
    refine (C1.out _ (by go_grown)).mono ?_
    rintro e w1 ⟨rfl, hb1⟩
    have K1 := ((Blk.new _ _ _).to hb1)
    simp only [World.size_alloc] at K1
    have HK1 := hid K1
    have HB1 := hid (Below.trans (by go_grown) (hb1.mono (by simp; try omega)) : Below w.heap.size w w1)
    obtain ⟨q0c, q0f⟩ := HK1.out.2 0 _ rfl
    obtain ⟨q1c, q1f⟩ := HK1.out.2 1 _ rfl
    obtain ⟨q2c, q2f⟩ := HK1.out.2 2 _ rfl
    clear hb1 K1
    go_wp2_with fail
    have RB := ((HK1.out.set 0 (.int .i64 0)).set 1 (.int .i64 0)).set 2 (.slice none 0 0)
    have f0 := (RB.2 0 _ rfl).1
    have f1 := (RB.2 1 _ rfl).1
    have f2 := (RB.2 2 _ rfl).1
    refine bodyPost_ret (v := .tuple #[.agg #[.int .i64 0, .int .i64 0, .slice none 0 0], .slice none 0 0]) (by simp [results, Try.results27, go_sem, f0, f1, f2]) rfl ?_
    rw [E0.out, E1.out]
    refine flush_none rfl ?_
    iterate 3 refine Below.setCell ?_ (by simp) _
    exact HB1.out
  | true =>
    have E0 := hid (show flushB ⟨rm, lv, rc⟩ = ⟨rm, lv, []⟩ by unfold flushB; rw [hz]; rfl)
    have E1 := hid (show flushR ⟨rm, lv, rc⟩ = rc by unfold flushR; rw [hz]; rfl)
    rw [hz] at C1
    clear hz
    go_enter Try.func27, Try.ntmps27
    go_wp2_with fail
    refine (C1.out _ (by go_grown)).mono ?_
    rintro e w1 ⟨rfl, hb1⟩
    have K0 := (((Blk.new _ _ _).alloc _).to hb1)
    have K1 := ((Blk.new _ _ _).to hb1)
    simp only [World.size_alloc] at K0 K1
    have HK0 := hid K0
    have HK1 := hid K1
    have HB1 := hid (Below.trans (by go_grown) (hb1.mono (by simp; try omega)) : Below w.heap.size w w1)
    have HS2 := hid (show w.heap.size + 2 ≤ w1.heap.size by have := hb1.size; simp at this; omega)
    have d2 := (HK0.out.2 2 _ rfl).1
    clear hb1 K0 K1
    go_wp2_with fail
    refine (C2.out _ HB1.out _ rfl).mono ?_
    rintro e w2 ⟨u, rfl, ho, hb2⟩
    obtain ⟨A2, c2, rfl, _, _⟩ := (Sl.of_own ho).form
    have HO := hid ho
    have HB2 := hid (HB1.out.trans (hb2.mono HB1.out.size))
    replace HK0 := hid (HK0.out.to hb2)
    replace HK1 := hid (HK1.out.to hb2)
    obtain ⟨d0c, d0f⟩ := HK0.out.2 0 _ rfl
    obtain ⟨d1c, d1f⟩ := HK0.out.2 1 _ rfl
    obtain ⟨d2c, d2f⟩ := HK0.out.2 2 _ rfl
    obtain ⟨q0c, q0f⟩ := HK1.out.2 0 _ rfl
    obtain ⟨q1c, q1f⟩ := HK1.out.2 1 _ rfl
    obtain ⟨q2c, q2f⟩ := HK1.out.2 2 _ rfl
    clear hb2 ho d2
    go_wp2_with fail
    have RB := (((HK1.out.apart ⟨w.heap.size, 2, none⟩ (.slice none 0 0) (by simp)).set 0 (.int .i64 rm)).set 1 (.int .i64 lv)).set 2 (.slice none 0 0)
    have f0 := (RB.2 0 _ rfl).1
    have f1 := (RB.2 1 _ rfl).1
    have f2 := (RB.2 2 _ rfl).1
    refine bodyPost_ret (v := .tuple #[.agg #[.int .i64 rm, .int .i64 lv, .slice none 0 0], .slice A2 rc.length c2]) (by simp [results, Try.results27, go_sem, f0, f1, f2]) rfl ?_
    rw [E0.out, E1.out]
    have hs2 := HS2.out
    refine ⟨_, _, _, _, rfl, ⟨_, rfl, rfl⟩, rfl, Rows.cons_nil (Rows.base ?_ (show w.heap.size ≤ w1.heap.size from HB1.out.size)), ?_⟩
    · iterate 4 refine Rows.low ?_ (by omega)
      exact Rows.one HO.out
    · iterate 4 refine Below.setCell ?_ (by simp) _
      exact HB2.out
end Go.Proofs.Ythgkkckbncgfmaa
