/-
  DRAWS of the laws of what is sent: a tree and a record, a tree and records. By gen_e25.py.
-/
import Derived.Test.YtioegkcekbkblaaGreatZxEM
import Derived.Test.YtioegkcekbkblaaGreatZxE13
import Derived.Test.YtioegkcekbkblaaGreatZxDM
import Derived.Test.YtioegkcekbkblaaGreatZxStB
namespace Go.Proofs.YtioegkcekbkblaaGreat
open Go.RowKit Nm
set_option linter.unusedSimpArgs false
set_option linter.unusedVariables false

def TreeRecDraw (R p dp : Nat) (w : World) (e : Ending) (w' : World) : Prop :=
  ∃ (v : Value) (rs : List Row) (L : List Lgr) (H : List Hnd) (q : Int) (nm tx : ByteArray) (lv sq : Int) (p' : Nat), e = .returned (.tuple #[v, .agg #[.string nm, .int .i64 lv, .string tx, .int .i64 sq]]) ∧ TreeS rs v L H q ∧ treeSm 9 L H ∧ (nm.size ≤ 20 ∧ tx.size ≤ 20) ∧ (-1000 ≤ lv ∧ lv ≤ 1000) ∧ (-1000 ≤ sq ∧ sq ≤ 1000) ∧ Rows w' w.heap.size rs ∧ p' ≤ p + dp ∧ Rdr w' R p' ∧ w.grownBy w' (some R)
/-- drawn for a law: a tree and a record -/
def DrawTreeRec (w : World) (e : Ending) (w' : World) : Prop :=
  ∃ (v : Value) (rs : List Row) (L : List Lgr) (H : List Hnd) (q : Int) (nm tx : ByteArray) (lv sq : Int), e = .returned (.tuple #[v, .agg #[.string nm, .int .i64 lv, .string tx, .int .i64 sq]]) ∧ TreeS rs v L H q ∧ treeSm 9 L H ∧ (nm.size ≤ 20 ∧ tx.size ≤ 20) ∧ (-1000 ≤ lv ∧ lv ≤ 1000) ∧ (-1000 ≤ sq ∧ sq ≤ 1000) ∧ Rows w' w.heap.size rs ∧ Below w.heap.size w w'

set_option maxHeartbeats 16000000 in
set_option maxRecDepth 100000 in
theorem treeRecord_c (R p : Nat) (w : World) (hr : Rdr w R p) (hp : p ≤ 300000) :
    Calls Tryz.prog 41 #[.pointer (some ⟨R, 0, none⟩)] w (TreeRecDraw R p 470 w) := by
  have hlt := hr.lt
  have hb0 : Below w.heap.size w ((w.alloc (.cells #[.slice none 0 0, .slice none 0 0, .int .i64 0] 26)).alloc (.cells #[.string ByteArray.empty, .int .i64 0, .string ByteArray.empty, .int .i64 0] 28)) := ((Below.refl _ _).alloc (Nat.le_refl _) _).alloc (by simp) _
  have KT := hid ((Blk.new w #[.slice none 0 0, .slice none 0 0, .int .i64 0] 26).alloc (.cells #[.string ByteArray.empty, .int .i64 0, .string ByteArray.empty, .int .i64 0] 28))
  have KR := hid (Blk.new (w.alloc (.cells #[.slice none 0 0, .slice none 0 0, .int .i64 0] 26)) #[.string ByteArray.empty, .int .i64 0, .string ByteArray.empty, .int .i64 0] 28)
  simp only [World.size_alloc] at KR
  have G0 := hid (grown_new (show w.grownBy (w.alloc (.cells #[.slice none 0 0, .slice none 0 0, .int .i64 0] 26)) (some R) from World.grownBy_alloc w _ _) ((Below.refl (w.alloc (.cells #[.slice none 0 0, .slice none 0 0, .int .i64 0] 26)).heap.size (w.alloc (.cells #[.slice none 0 0, .slice none 0 0, .int .i64 0] 26))).alloc (Nat.le_refl _) (.cells #[.string ByteArray.empty, .int .i64 0, .string ByteArray.empty, .int .i64 0] 28)))
  have C := hid (treeName_c R p ((w.alloc (.cells #[.slice none 0 0, .slice none 0 0, .int .i64 0] 26)).alloc (.cells #[.string ByteArray.empty, .int .i64 0, .string ByteArray.empty, .int .i64 0] 28)) (hr.below hb0) hp)
  clear hr hb0
  go_enter Tryz.func41, Tryz.ntmps41
  go_wp2_with fail
  refine C.out.mono ?_
  rintro e w1 ⟨v, rs, L, H, q, nm, p1, rfl, hs, hsm, hnm, hR1, hp1, hr1, hg1⟩
  obtain ⟨A1, n1, k1, A2, n2, k2, rfl, -, -⟩ := hs.form_ hR1
  have hbx : Below w1.heap.size w1 (w1.alloc (.cells #[.slice A1 n1 k1, .slice A2 n2 k2, .int .i64 q] 26)) := (Below.refl _ _).alloc (Nat.le_refl _) _
  have hs0 : w.heap.size + 2 ≤ w1.heap.size := by have := hg1.size; simp at this; omega
  have KT1 := hid ((KT.out.kept hg1 (by simp; omega)).to hbx)
  have KR1 := hid ((KR.out.kept hg1 (by simp; omega)).to hbx)
  have KB := hid (Blk.new w1 #[.slice A1 n1 k1, .slice A2 n2 k2, .int .i64 q] 26)
  have HX := hid (And.intro hs hsm)
  have X1 := hid (show Rows _ (w.heap.size + 2) rs from (hR1.below hbx).base (by simp))
  have G1 := hid (grown_new (grown_tr G0.out hg1) hbx)
  have hs1 : w1.heap.size < (w1.alloc (.cells #[.slice A1 n1 k1, .slice A2 n2 k2, .int .i64 q] 26)).heap.size := by simp
  have C2 := hid (someRecord_c R p1 (w1.alloc (.cells #[.slice A1 n1 k1, .slice A2 n2 k2, .int .i64 q] 26)) (hr1.below hbx) (by omega))
  clear hs hR1 hsm hr1 hg1 C KT KR G0 hbx
  go_wp2_with fail
  generalize hbb : w1.heap.size = bb at *
  generalize w1.alloc (.cells #[.slice A1 n1 k1, .slice A2 n2 k2, .int .i64 q] 26) = w2 at *
  clear hbb
  refine C2.out.mono ?_
  rintro e w3 ⟨nm0, tx, lv, sq, p3, ⟨hnm0, htx⟩, ⟨hl0, hl1⟩, ⟨hq0, hq1⟩, rfl, hp3, hr3, hg3⟩
  have hb3 : Below w3.heap.size w3 (w3.alloc (.cells #[.string nm, .int .i64 lv, .string tx, .int .i64 sq] 28)) := (Below.refl _ _).alloc (Nat.le_refl _) _
  have hs3 : bb < w3.heap.size := Nat.lt_of_lt_of_le hs1 hg3.size
  have KT3 := hid ((KT1.out.kept hg3 (by simp; omega)).to hb3)
  have KR3 := hid ((KR1.out.kept hg3 (by simp; omega)).to hb3)
  have KB3 := hid ((KB.out.kept hg3 (by simp; omega)).to hb3)
  have KX := hid (Blk.new w3 #[.string nm, .int .i64 lv, .string tx, .int .i64 sq] 28)
  have X3 := hid ((X1.out.offR hg3 (by omega)).below hb3)
  have D3 := hid (hr3.below hb3)
  have G3 := hid (grown_new (grown_tr G1.out hg3) hb3)
  clear hr3 hg3 C2 KT1 KR1 KB X1 G1 hb3 hs1
  go_wp2_with fail
  generalize hrb : w3.heap.size = rb at *
  generalize w3.alloc (.cells #[.string nm, .int .i64 lv, .string tx, .int .i64 sq] 28) = w4 at *
  clear hrb
  have sT : (w4.cell? ⟨bb, 0, none⟩ = some (.slice A1 n1 k1) ∧ w4.cell? ⟨bb, 1, none⟩ = some (.slice A2 n2 k2) ∧ w4.cell? ⟨bb, 2, none⟩ = some (.int .i64 q)) := ⟨(KB3.out.2 0 _ rfl).1, (KB3.out.2 1 _ rfl).1, (KB3.out.2 2 _ rfl).1⟩
  have sR : (w4.cell? ⟨rb, 0, none⟩ = some (.string nm) ∧ w4.cell? ⟨rb, 1, none⟩ = some (.int .i64 lv) ∧ w4.cell? ⟨rb, 2, none⟩ = some (.string tx) ∧ w4.cell? ⟨rb, 3, none⟩ = some (.int .i64 sq)) := ⟨(KX.out.2 0 _ rfl).1, (KX.out.2 1 _ rfl).1, (KX.out.2 2 _ rfl).1, (KX.out.2 3 _ rfl).1⟩
  obtain ⟨t0c, t0f⟩ := KT3.out.2 0 _ rfl
  obtain ⟨t1c, t1f⟩ := KT3.out.2 1 _ rfl
  obtain ⟨t2c, t2f⟩ := KT3.out.2 2 _ rfl
  obtain ⟨r0c, r0f⟩ := KR3.out.2 0 _ rfl
  obtain ⟨r1c, r1f⟩ := KR3.out.2 1 _ rfl
  obtain ⟨r2c, r2f⟩ := KR3.out.2 2 _ rfl
  obtain ⟨r3c, r3f⟩ := KR3.out.2 3 _ rfl
  replace sT := hid sT
  replace sR := hid sR
  refine wp_region_held_drew (S := fun w' : World => (w'.cell? ⟨bb, 0, none⟩ = some (.slice A1 n1 k1) ∧ w'.cell? ⟨bb, 1, none⟩ = some (.slice A2 n2 k2) ∧ w'.cell? ⟨bb, 2, none⟩ = some (.int .i64 q)) ∧ (w'.cell? ⟨rb, 0, none⟩ = some (.string nm) ∧ w'.cell? ⟨rb, 1, none⟩ = some (.int .i64 lv) ∧ w'.cell? ⟨rb, 2, none⟩ = some (.string tx) ∧ w'.cell? ⟨rb, 3, none⟩ = some (.int .i64 sq))) (by kernel_rfl) ⟨sT.out, sR.out⟩ (fun hS => ?_)
  refine wpAnyH_take (i := 0) (oi := ?oi101) (v := ?v101) ?hi101 (by kernel_rfl) ?hf101 ?hr101 ?hQ101 (Or.inl ⟨?hw101, ?hy101⟩) (by assumption) ?rest101
  case hi101 => simp only [List.getElem?_toArray, List.getElem?_cons_succ, List.getElem?_cons_zero]; rfl
  case hf101 => kernel_rfl
  case hr101 => kernel_rfl
  case hw101 => rfl
  case hy101 => (intro w hSw; (try dsimp only at hSw); go_simp; all_goals (first | done | with_reducible rfl))
  case hQ101 => exact fun _ _ _ h => h
  simp only [Act.put, List.setIfInBounds_toArray, List.set_cons_zero, List.set_cons_succ]
  refine wpAnyH_take (i := 1) (oi := ?oi102) (v := ?v102) ?hi102 (by kernel_rfl) ?hf102 ?hr102 ?hQ102 (Or.inl ⟨?hw102, ?hy102⟩) (by assumption) ?rest102
  case hi102 => simp only [List.getElem?_toArray, List.getElem?_cons_succ, List.getElem?_cons_zero]; rfl
  case hf102 => kernel_rfl
  case hr102 => kernel_rfl
  case hw102 => rfl
  case hy102 => (intro w hSw; (try dsimp only at hSw); go_simp; all_goals (first | done | with_reducible rfl))
  case hQ102 => exact fun _ _ _ h => h
  simp only [Act.put, List.setIfInBounds_toArray, List.set_cons_zero, List.set_cons_succ]
  have KBt := hid (((KB3.out.apart ⟨w.heap.size, 0, none⟩ (.slice A1 n1 k1) (by show w.heap.size ≠ _; omega)).apart ⟨w.heap.size, 1, none⟩ (.slice A2 n2 k2) (by show w.heap.size ≠ _; omega)).apart ⟨w.heap.size, 2, none⟩ (.int .i64 q) (by show w.heap.size ≠ _; omega))
  have KXt := hid (((KX.out.apart ⟨w.heap.size, 0, none⟩ (.slice A1 n1 k1) (by show w.heap.size ≠ _; omega)).apart ⟨w.heap.size, 1, none⟩ (.slice A2 n2 k2) (by show w.heap.size ≠ _; omega)).apart ⟨w.heap.size, 2, none⟩ (.int .i64 q) (by show w.heap.size ≠ _; omega))
  refine wpAnyH_ready (rs := [2]) (by kernel_rfl) (by simp) ?_
  refine AllReadyH.cons (o := ?oi103) ?hi103 (fun K hK => ?step103) AllReadyH.nil
  case hi103 => simp only [List.getElem?_toArray, List.getElem?_cons_succ, List.getElem?_cons_zero]; rfl
  rw [if_pos (by rfl)]
  go_simp
  refine hK.out _ _ ⟨⟨(KBt.out.2 0 _ rfl).1, (KBt.out.2 1 _ rfl).1, (KBt.out.2 2 _ rfl).1⟩, (KXt.out.2 0 _ rfl).1, (KXt.out.2 1 _ rfl).1, (KXt.out.2 2 _ rfl).1, (KXt.out.2 3 _ rfl).1⟩ (fun hS => ?_)
  have T5 := hid (((KT3.out.set 0 (.slice A1 n1 k1)).set 1 (.slice A2 n2 k2)).set 2 (.int .i64 q))
  have R5 := hid (((KR3.out.apart ⟨w.heap.size, 0, none⟩ (.slice A1 n1 k1) (by show w.heap.size ≠ _; omega)).apart ⟨w.heap.size, 1, none⟩ (.slice A2 n2 k2) (by show w.heap.size ≠ _; omega)).apart ⟨w.heap.size, 2, none⟩ (.int .i64 q) (by show w.heap.size ≠ _; omega))
  have X5 := hid (show Rows (((w4.setCell ⟨w.heap.size, 0, none⟩ (.slice A1 n1 k1)).setCell ⟨w.heap.size, 1, none⟩ (.slice A2 n2 k2)).setCell ⟨w.heap.size, 2, none⟩ (.int .i64 q)) (w.heap.size + 2) rs by
    iterate 3 refine Rows.low ?_ (by omega)
    exact X3.out)
  have D5 := hid (((D3.out.set (b := w.heap.size) (j := 0) (u := .slice A1 n1 k1) (by omega)).set (b := w.heap.size) (j := 1) (u := .slice A2 n2 k2) (by omega)).set (b := w.heap.size) (j := 2) (u := .int .i64 q) (by omega))
  have G5 := hid (grown_at (b := w.heap.size) (j := 2) (u := .int .i64 q) (grown_at (b := w.heap.size) (j := 1) (u := .slice A2 n2 k2) (grown_at (b := w.heap.size) (j := 0) (u := .slice A1 n1 k1) G3.out (by omega)) (by omega)) (by omega))
  clear t0c t0f t1c t1f t2c t2f r0c r0f r1c r1f r2c r2f r3c r3f KT3 KR3 KB3 KX X3 D3 G3 sT sR
  generalize (((w4.setCell ⟨w.heap.size, 0, none⟩ (.slice A1 n1 k1)).setCell ⟨w.heap.size, 1, none⟩ (.slice A2 n2 k2)).setCell ⟨w.heap.size, 2, none⟩ (.int .i64 q)) = w5 at *
  obtain ⟨r0c, r0f⟩ := R5.out.2 0 _ rfl
  obtain ⟨r1c, r1f⟩ := R5.out.2 1 _ rfl
  obtain ⟨r2c, r2f⟩ := R5.out.2 2 _ rfl
  obtain ⟨r3c, r3f⟩ := R5.out.2 3 _ rfl
  have KBu := hid ((((KBt.out.apart ⟨w.heap.size + 1, 0, none⟩ (.string nm) (by show w.heap.size + 1 ≠ _; omega)).apart ⟨w.heap.size + 1, 1, none⟩ (.int .i64 lv) (by show w.heap.size + 1 ≠ _; omega)).apart ⟨w.heap.size + 1, 2, none⟩ (.string tx) (by show w.heap.size + 1 ≠ _; omega)).apart ⟨w.heap.size + 1, 3, none⟩ (.int .i64 sq) (by show w.heap.size + 1 ≠ _; omega))
  have KXu := hid ((((KXt.out.apart ⟨w.heap.size + 1, 0, none⟩ (.string nm) (by show w.heap.size + 1 ≠ _; omega)).apart ⟨w.heap.size + 1, 1, none⟩ (.int .i64 lv) (by show w.heap.size + 1 ≠ _; omega)).apart ⟨w.heap.size + 1, 2, none⟩ (.string tx) (by show w.heap.size + 1 ≠ _; omega)).apart ⟨w.heap.size + 1, 3, none⟩ (.int .i64 sq) (by show w.heap.size + 1 ≠ _; omega))
  refine wpAnyH_ready (rs := [3]) (by kernel_rfl) (by simp) ?_
  refine AllReadyH.cons (o := ?oi104) ?hi104 (fun K hK => ?step104) AllReadyH.nil
  case hi104 => simp only [List.getElem?_toArray, List.getElem?_cons_succ, List.getElem?_cons_zero]; rfl
  rw [if_pos (by rfl)]
  go_simp
  refine hK.out _ _ ⟨⟨(KBu.out.2 0 _ rfl).1, (KBu.out.2 1 _ rfl).1, (KBu.out.2 2 _ rfl).1⟩, (KXu.out.2 0 _ rfl).1, (KXu.out.2 1 _ rfl).1, (KXu.out.2 2 _ rfl).1, (KXu.out.2 3 _ rfl).1⟩ (fun hS => ?_)
  refine wpAnyH_done (by kernel_rfl) ?_ _
  clear r0c r0f r1c r1f r2c r2f r3c r3f
  go_wp2_with fail
  have TA := ((((T5.out.apart ⟨w.heap.size + 1, 0, none⟩ (.string nm) (by simp)).apart ⟨w.heap.size + 1, 1, none⟩ (.int .i64 lv) (by simp)).apart ⟨w.heap.size + 1, 2, none⟩ (.string tx) (by simp)).apart ⟨w.heap.size + 1, 3, none⟩ (.int .i64 sq) (by simp))
  have RA := ((((R5.out.set 0 (.string nm)).set 1 (.int .i64 lv)).set 2 (.string tx)).set 3 (.int .i64 sq))
  have f0 := (TA.2 0 _ rfl).1
  have f1 := (TA.2 1 _ rfl).1
  have f2 := (TA.2 2 _ rfl).1
  have g0 := (RA.2 0 _ rfl).1
  have g1 := (RA.2 1 _ rfl).1
  have g2 := (RA.2 2 _ rfl).1
  have g3 := (RA.2 3 _ rfl).1
  refine bodyPost_ret (v := .tuple #[.agg #[.slice A1 n1 k1, .slice A2 n2 k2, .int .i64 q], .agg #[.string nm, .int .i64 lv, .string tx, .int .i64 sq]]) (by simp [results, Tryz.results41, go_sem, f0, f1, f2, g0, g1, g2, g3]) rfl ?_
  refine ⟨_, rs, L, H, q, nm, tx, lv, sq, p3, rfl, HX.out.1, HX.out.2, ⟨hnm, htx⟩, ⟨hl0, hl1⟩, ⟨hq0, hq1⟩, Rows.base (lo := w.heap.size + 2) ?_ (by omega), by omega, ((((D5.out.set (b := w.heap.size + 1) (j := 0) (u := .string nm) (by omega)).set (b := w.heap.size + 1) (j := 1) (u := .int .i64 lv) (by omega)).set (b := w.heap.size + 1) (j := 2) (u := .string tx) (by omega)).set (b := w.heap.size + 1) (j := 3) (u := .int .i64 sq) (by omega)), (grown_drN (grown_at (b := w.heap.size + 1) (j := 3) (u := .int .i64 sq) (grown_at (b := w.heap.size + 1) (j := 2) (u := .string tx) (grown_at (b := w.heap.size + 1) (j := 1) (u := .int .i64 lv) (grown_at (b := w.heap.size + 1) (j := 0) (u := .string nm) G5.out (by omega)) (by omega)) (by omega)) (by omega)) 1)⟩
  iterate 4 refine Rows.low ?_ (by omega)
  exact X5.out

set_option maxHeartbeats 4000000 in
set_option maxRecDepth 100000 in
theorem drawExplainRecord_c (a : Option Addr) (len cap : Nat) (z : List Int) (w : World) (h : IsRow .u8 w a len cap z) :
    Calls Tryz.prog 20 #[.slice a len cap] w (DrawTreeRec w) := by
  have hb0 : Below w.heap.size w ((w.alloc (.cells #[.slice none 0 0, .slice none 0 0, .int .i64 0] 26)).alloc (.cells #[.string ByteArray.empty, .int .i64 0, .string ByteArray.empty, .int .i64 0] 28)) := ((Below.refl _ _).alloc (Nat.le_refl _) _).alloc (by simp) _
  have KT := hid ((Blk.new w #[.slice none 0 0, .slice none 0 0, .int .i64 0] 26).alloc (.cells #[.string ByteArray.empty, .int .i64 0, .string ByteArray.empty, .int .i64 0] 28))
  have KR := hid (Blk.new (w.alloc (.cells #[.slice none 0 0, .slice none 0 0, .int .i64 0] 26)) #[.string ByteArray.empty, .int .i64 0, .string ByteArray.empty, .int .i64 0] 28)
  simp only [World.size_alloc] at KR
  have C := hid (newReader_c a len cap z ((w.alloc (.cells #[.slice none 0 0, .slice none 0 0, .int .i64 0] 26)).alloc (.cells #[.string ByteArray.empty, .int .i64 0, .string ByteArray.empty, .int .i64 0] 28)) (h.belowT hb0))
  have HB0 := hid hb0
  simp only [World.size_alloc] at C
  clear h hb0
  go_enter Tryz.func20, Tryz.ntmps20
  go_wp2_with fail
  refine C.out.mono ?_
  rintro e w1 ⟨rfl, hr1, hb1⟩
  have hs1 : w.heap.size + 2 < w1.heap.size := by have := hr1.lt; omega
  have KT1 := hid (KT.out.below hb1 (by omega))
  have KR1 := hid (KR.out.below hb1 (by omega))
  have HB1 := hid (HB0.out.trans (hb1.mono (by omega)))
  have C1 := hid (treeRecord_c _ 0 w1 hr1 (by omega))
  clear hr1 hb1 C KT KR HB0
  go_wp2_with fail
  refine C1.out.mono ?_
  rintro e w2 ⟨v, rs, L, H, q, nm, tx, lv, sq, p2, rfl, hs, hsm, hnm, hlv, hsq, hr, hp2, hrd2, hg2⟩
  obtain ⟨A1, n1, k1, A2, n2, k2, rfl, -, -⟩ := hs.form_ hr
  have KT2 := hid (KT1.out.kept hg2 (by simp <;> omega))
  have KR2 := hid (KR1.out.kept hg2 (by simp <;> omega))
  have HX := hid (And.intro hs (And.intro hsm (show Rows w2 (w.heap.size + 2) rs from hr.base (by omega))))
  have HB2 := hid (HB1.out.trans (below_own hg2 HB1.out.size (by omega)))
  clear hs hr hsm hrd2 hg2 C1 KT1 KR1
  go_wp2_with (refine wpList_stB (P := Tryz.prog) rfl 26 _ _ rfl w.heap.size [.slice A1 n1 k1, .slice A2 n2 k2, .int .i64 q] rfl rfl _ KT2.out rfl (by kernel_rfl) (List.all_eq_true.1 rfl) ?_)
  intro w3 hk3 hg3 hs3
  have KT3 := hid hk3
  have KR3 := hid (KR2.out.kept hg3 (by simp))
  have HB3 := hid (HB2.out.grown hg3 HB2.out.size (by intro z hz; cases hz; omega))
  have X3 := hid (HX.out.2.2.offR hg3 (by omega))
  clear hk3 hg3 hs3 KT2 KR2 HB2
  go_wp2_with (refine wpList_stB (P := Tryz.prog) rfl 28 _ _ rfl (w.heap.size + 1) [.string nm, .int .i64 lv, .string tx, .int .i64 sq] rfl rfl _ KR3.out rfl (by kernel_rfl) (List.all_eq_true.1 rfl) ?_)
  intro w4 hk4 hg4 hs4
  have KR4 := hid hk4
  have KT4 := hid (KT3.out.kept hg4 (by simp))
  have HB4 := hid (HB3.out.grown hg4 HB3.out.size (by intro z hz; cases hz; omega))
  have X4 := hid (X3.out.offR hg4 (by omega))
  clear hk4 hg4 hs4 KT3 KR3 HB3 X3
  go_wp2_with fail
  have f0 := (KT4.out.2 0 _ rfl).1
  have f1 := (KT4.out.2 1 _ rfl).1
  have f2 := (KT4.out.2 2 _ rfl).1
  have g0 := (KR4.out.2 0 _ rfl).1
  have g1 := (KR4.out.2 1 _ rfl).1
  have g2 := (KR4.out.2 2 _ rfl).1
  have g3 := (KR4.out.2 3 _ rfl).1
  refine bodyPost_ret (v := .tuple #[.agg #[.slice A1 n1 k1, .slice A2 n2 k2, .int .i64 q], .agg #[.string nm, .int .i64 lv, .string tx, .int .i64 sq]]) (by simp [results, Tryz.results20, go_sem, f0, f1, f2, g0, g1, g2, g3]) rfl ?_
  exact ⟨_, rs, L, H, q, nm, tx, lv, sq, rfl, HX.out.1, HX.out.2.1, hnm, hlv, hsq, X4.out.base (by omega), HB4.out⟩
end Go.Proofs.YtioegkcekbkblaaGreat
