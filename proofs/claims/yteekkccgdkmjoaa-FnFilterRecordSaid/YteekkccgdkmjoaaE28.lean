/-
  DRAWS of the law of filters: filters and a record; filters asked one after the other, plain. By gen_filt.py.
-/
import Derived.Test.YteekkccgdkmjoaaDM
import Derived.Test.YteekkccgdkmjoaaE1
import Derived.Test.YteekkccgdkmjoaaFRM
import Derived.Test.YteekkccgdkmjoaaStB
namespace Go.Proofs.Yteekkccgdkmjoaa
open Go.RowKit Go.Proofs.Yteekkccgdkmjoaa.Nm
set_option linter.unusedSimpArgs false
set_option linter.unusedVariables false

/-- drawn for a law: filters and a record -/
def DrawFltsRec (w : World) (e : Ending) (w' : World) : Prop :=
  ∃ (fA : Option Addr) (fn fc : Nat) (l : List Flt) (nm tx : ByteArray) (lv sq : Int), e = .returned (.tuple #[.slice fA fn fc, .agg #[.string nm, .int .i64 lv, .string tx, .int .i64 sq]]) ∧ l.length = fn ∧ fn ≤ 4 ∧ ffit l ∧ w'.ownsRow w.heap.size 47 3 (.slice fA fn fc) fn (fsCells l) ∧ (nm.size ≤ 20 ∧ tx.size ≤ 20) ∧ (-1000 ≤ lv ∧ lv ≤ 1000) ∧ (-1000 ≤ sq ∧ sq ≤ 1000) ∧ Below w.heap.size w w'
theorem IsRow.leF {k : IntKind} {w : World} {a : Option Addr} {len cap : Nat} {z : List Int} (h : IsRow k w a len cap z) : len ≤ 9223372036854775807 := by
  rcases h with ⟨_, h, _, _⟩ | ⟨x, _, h1, h2, _⟩
  · omega
  · unfold maxLen at h2; omega
theorem IsRow.belowF {k : IntKind} {w w' : World} {a : Option Addr} {len cap : Nat} {z : List Int} (h : IsRow k w a len cap z) (hb : Below w.heap.size w w') : IsRow k w' a len cap z := by
  rcases h with h | ⟨x, h0, h1, h2, h3, h4, h5⟩
  · exact .inl h
  · refine .inr ⟨x, h0, h1, h2, h3, fun i hi => ?_, h5⟩
    have hc := h4 i hi
    exact (hb.cell (p := x.add i) (World.block_lt_of_cell? _ _ hc)).trans hc

set_option maxHeartbeats 4000000 in
set_option maxRecDepth 100000 in
theorem drawFilterRecord_c (a : Option Addr) (len cap : Nat) (z : List Int) (w : World) (h : IsRow .u8 w a len cap z) :
    Calls Try.prog 13 #[.slice a len cap] w (DrawFltsRec w) := by
  have hb0 : Below w.heap.size w (w.alloc (.cells #[.string ByteArray.empty, .int .i64 0, .string ByteArray.empty, .int .i64 0] 27)) := (Below.refl _ _).alloc (Nat.le_refl _) _
  have KR := hid (Blk.new w #[.string ByteArray.empty, .int .i64 0, .string ByteArray.empty, .int .i64 0] 27)
  have C := hid (newReader_c a len cap z (w.alloc (.cells #[.string ByteArray.empty, .int .i64 0, .string ByteArray.empty, .int .i64 0] 27)) (h.belowF hb0))
  have HB0 := hid hb0
  simp only [World.size_alloc] at C
  clear h hb0
  go_enter Try.func13, Try.ntmps13
  go_wp2_with fail
  refine C.out.mono ?_
  rintro e w1 ⟨rfl, hr1, hb1⟩
  have hs1 : w.heap.size + 1 < w1.heap.size := by have := hr1.lt; omega
  have KR1 := hid (KR.out.below hb1 (by omega))
  have HB1 := hid (HB0.out.trans (hb1.mono (by omega)))
  have C1 := hid (bentFilters_c _ 0 w1 hr1 (by omega))
  clear hr1 hb1 C KR HB0
  go_wp2_with fail
  refine C1.out.mono ?_
  rintro e w2 ⟨v, l, p2, rfl, hl4, hfit, ho2, hp2, hr2, hg2⟩
  obtain ⟨fA, fc, rfl, _, _⟩ := (Sl.of_own ho2).form
  have KR2 := hid (KR1.out.kept hg2 (by simp <;> omega))
  have HB2 := hid (HB1.out.trans (below_own hg2 HB1.out.size (by omega)))
  have HO2 := hid ho2
  have HF := hid hfit
  have C2 := hid (someRecord_c _ p2 w2 hr2 (by omega))
  generalize hfn : l.length = fn at *
  replace hfn := hid hfn
  clear hr2 hg2 C1 KR1 ho2 hfit
  go_wp2_with fail
  refine C2.out.mono ?_
  rintro e w3 ⟨nm, tx, lv, sq, p3, hnt, hlv, hsq, rfl, hp3, hr3, hg3⟩
  have KR3 := hid (KR2.out.kept hg3 (by simp <;> omega))
  have HB3 := hid (HB2.out.trans (below_own hg3 HB2.out.size (by omega)))
  have HO3 := hid (own_off HO2.out hg3 hs1)
  clear hr3 hg3 C2 KR2 HB2 HO2
  go_wp2_with (refine wpList_stB (P := Try.prog) rfl 27 _ _ rfl w.heap.size [.string nm, .int .i64 lv, .string tx, .int .i64 sq] rfl rfl _ KR3.out rfl (by kernel_rfl) (List.all_eq_true.1 rfl) ?_)
  intro w4 hk4 hg4 hs4
  have KR4 := hid hk4
  have HB4 := hid (HB3.out.grown hg4 HB3.out.size (by intro z hz; cases hz; omega))
  have HO4 := hid (own_off HO3.out hg4 (by omega))
  clear hk4 hg4 hs4 KR3 HB3 HO3
  go_wp2_with fail
  have g0 := (KR4.out.2 0 _ rfl).1
  have g1 := (KR4.out.2 1 _ rfl).1
  have g2 := (KR4.out.2 2 _ rfl).1
  have g3 := (KR4.out.2 3 _ rfl).1
  refine bodyPost_ret (v := .tuple #[.slice fA fn fc, .agg #[.string nm, .int .i64 lv, .string tx, .int .i64 sq]]) (by simp [results, Try.results13, go_sem, g0, g1, g2, g3]) rfl ?_
  exact ⟨fA, fn, fc, l, nm, tx, lv, sq, rfl, hfn.out, hl4, HF.out, own_base HO4.out (by omega), hnt, hlv, hsq, HB4.out⟩

theorem passF_upF {nm tx : List UInt8} {f : Flt} {lv q : Int} (h : passF nm tx f lv = some q) : lv ≤ q := by
  unfold passF at h
  split at h
  · split at h
    · cases h; exact Int.le_refl _
    · cases h
  · split at h
    · split at h
      · cases h; exact Int.le_refl _
      · cases h
    · split at h
      · split at h
        · cases h
        · cases h; exact Int.le_refl _
      · split at h
        · cases h; split <;> omega
        · cases h; exact Int.le_refl _
theorem filtL_upF {nm tx : List UInt8} {fs : List Flt} {lv q : Int} (h : filtL nm tx fs lv = some q) : lv ≤ q := by
  induction fs generalizing lv with
  | nil => cases h; exact Int.le_refl _
  | cons f fs ih =>
    unfold filtL at h
    cases e : passF nm tx f lv with
    | none => rw [e] at h; cases h
    | some v => rw [e] at h; exact Int.le_trans (passF_upF e) (ih h)
theorem filters_takeF {l : List Flt} (h : filtersOk l = true) (k : Nat) : filtersOk (l.take k) = true := by
  unfold filtersOk at h ⊢
  simp only [Bool.and_eq_true, List.all_eq_true, decide_eq_true_eq] at h ⊢
  exact ⟨fun x hx => h.1 x (List.mem_of_mem_take hx), by rw [List.length_take]; omega⟩
theorem filters_dropF {l : List Flt} (h : filtersOk l = true) (k : Nat) : filtersOk (l.drop k) = true := by
  unfold filtersOk at h ⊢
  simp only [Bool.and_eq_true, List.all_eq_true, decide_eq_true_eq] at h ⊢
  exact ⟨fun x hx => h.1 x (List.mem_of_mem_drop hx), by rw [List.length_drop]; omega⟩
theorem filt_all {l : List Flt} (h : filtersOk l = true) : l.all fltOk = true := by
  unfold filtersOk at h; rw [Bool.and_eq_true] at h; exact h.1
/-- the ways of the law: what both parts of the filters let pass -/
theorem filt_ways (l : List Flt) (nm tx : ByteArray) (lv sq : Int) (k : Nat) :
    (filtersOk l = false ∧ fX l nm tx lv sq = none) ∨ (filtersOk l = true ∧ recOk ⟨nm.data.toList, lv, tx.data.toList, sq⟩ = false ∧ fX l nm tx lv sq = none) ∨
    (filtersOk l = true ∧ recOk ⟨nm.data.toList, lv, tx.data.toList, sq⟩ = true ∧ fX (l.take k) nm tx lv sq = none ∧ fX (l.drop k) ⟨#[]⟩ ⟨#[]⟩ 0 0 = none ∧ fX l nm tx lv sq = none) ∨
    (∃ q1 : Int, filtersOk l = true ∧ recOk ⟨nm.data.toList, lv, tx.data.toList, sq⟩ = true ∧ fX (l.take k) nm tx lv sq = some q1 ∧ fX (l.drop k) nm tx q1 sq = none ∧ fX l nm tx lv sq = none) ∨
    (∃ q1 q2 : Int, filtersOk l = true ∧ recOk ⟨nm.data.toList, lv, tx.data.toList, sq⟩ = true ∧ fX (l.take k) nm tx lv sq = some q1 ∧ fX (l.drop k) nm tx q1 sq = some q2 ∧ fX l nm tx lv sq = some q2 ∧ lv ≤ q2) := by
  cases hf : filtersOk l with
  | false => exact .inl ⟨rfl, by unfold fX; rw [hf]; simp⟩
  | true =>
    right
    cases hr : recOk ⟨nm.data.toList, lv, tx.data.toList, sq⟩ with
    | false => exact .inl ⟨rfl, rfl, by unfold fX; rw [hr]; simp⟩
    | true =>
      right
      have e1 : fX (l.take k) nm tx lv sq = filtL nm.data.toList tx.data.toList (l.take k) lv := by unfold fX; rw [filters_takeF hf, hr]; rfl
      have e0 : fX l nm tx lv sq = filtL nm.data.toList tx.data.toList l lv := by unfold fX; rw [hf, hr]; rfl
      have e3 : filtL nm.data.toList tx.data.toList l lv = (filtL nm.data.toList tx.data.toList (l.take k) lv).bind (filtL nm.data.toList tx.data.toList (l.drop k)) := by
        rw [← filtL_app, List.take_append_drop]
      cases h1 : filtL nm.data.toList tx.data.toList (l.take k) lv with
      | none =>
        refine .inl ⟨rfl, rfl, by rw [e1, h1], ?_, by rw [e0, e3, h1]; rfl⟩
        unfold fX
        rw [show recOk ⟨(⟨#[]⟩ : ByteArray).data.toList, 0, (⟨#[]⟩ : ByteArray).data.toList, 0⟩ = false from rfl]
        simp
      | some q1 =>
        right
        obtain ⟨r1, r2⟩ := rec_range hr
        obtain ⟨g1, g2⟩ := filtL_range (filt_all (filters_takeF hf k)) r1 r2 h1
        have hr1 : recOk ⟨nm.data.toList, q1, tx.data.toList, sq⟩ = true := by
          unfold recOk at hr ⊢
          simp only [Bool.and_eq_true, decide_eq_true_eq] at hr ⊢
          exact ⟨hr.1, g1, g2, hr.2.2.2⟩
        have e2 : fX (l.drop k) nm tx q1 sq = filtL nm.data.toList tx.data.toList (l.drop k) q1 := by unfold fX; rw [filters_dropF hf, hr1]; rfl
        cases h2 : filtL nm.data.toList tx.data.toList (l.drop k) q1 with
        | none => exact .inl ⟨q1, rfl, rfl, by rw [e1, h1], by rw [e2, h2], by rw [e0, e3, h1]; exact h2⟩
        | some q2 =>
          right
          have e4 : fX l nm tx lv sq = some q2 := by rw [e0, e3, h1]; exact h2
          exact ⟨q1, q2, rfl, rfl, by rw [e1, h1], by rw [e2, h2], e4, filtL_upF (by rw [← e0]; exact e4)⟩
theorem rec_litF (W : World) (nm tx : ByteArray) (lv sq : Int) : (W.alloc (.cells #[.string nm, .int .i64 lv, .string tx, .int .i64 sq] 27)).ownsRow W.heap.size 27 4 (.slice (some ⟨W.heap.size, 0, none⟩) 1 1) 1 (([⟨nm.data.toList, lv, tx.data.toList, sq⟩] : List Rec).flatMap rcells) := by
  have h := World.ownsRow_lit (e := 27) (size := 4) (base := W.heap.size) W #[.string nm, .int .i64 lv, .string tx, .int .i64 sq] 1 (Nat.le_refl _) (by unfold maxLen; omega) rfl
  simpa [rcells, txt_data] using h
theorem recLitF_c (W : World) (nm tx : ByteArray) (lv sq : Int) (h1 : nm.size ≤ 1048576) (h2 : tx.size ≤ 1048576) :
    Calls Try.prog 15 #[.slice (some ⟨W.heap.size, 0, none⟩) 1 1] (W.alloc (.cells #[.string nm, .int .i64 lv, .string tx, .int .i64 sq] 27)) (BoolPost (W.alloc (.cells #[.string nm, .int .i64 lv, .string tx, .int .i64 sq] 27)) (recOk ⟨nm.data.toList, lv, tx.data.toList, sq⟩)) := by
  have h9 := implValidRecords_c (.slice (some ⟨W.heap.size, 0, none⟩) 1 1) 1 (W.alloc (.cells #[.string nm, .int .i64 lv, .string tx, .int .i64 sq] 27)).heap.size [⟨nm.data.toList, lv, tx.data.toList, sq⟩] (W.alloc (.cells #[.string nm, .int .i64 lv, .string tx, .int .i64 sq] 27)) ⟨Sl.of_own (rec_litF W nm tx lv sq), fun x hx => by
    rw [List.mem_singleton] at hx; subst hx
    exact ⟨by show nm.data.toList.length ≤ _; rw [← Lib.size_eq]; exact h1, by show tx.data.toList.length ≤ _; rw [← Lib.size_eq]; exact h2⟩⟩ (Nat.le_refl _)
  rw [show recsOk [⟨nm.data.toList, lv, tx.data.toList, sq⟩] = recOk ⟨nm.data.toList, lv, tx.data.toList, sq⟩ by unfold recsOk; simp] at h9
  exact h9
theorem flat_takeF {α : Type} (f : α → List Value) (d : Nat) (hf : ∀ x, (f x).length = d) (l : List α) (k : Nat) : (l.flatMap f).take (k * d) = (l.take k).flatMap f := by
  induction l generalizing k with
  | nil => simp
  | cons a l ih =>
    cases k with
    | zero => simp
    | succ k =>
      rw [List.flatMap_cons, List.take_succ_cons, List.flatMap_cons, Nat.add_mul, Nat.one_mul, Nat.add_comm (k * d) d, ← hf a, List.take_length_add_append, hf a, ih]
theorem Sl.cutF {w : World} {B n c d : Nat} {A : Option Addr} {xs : List Value} (h : Sl w B d n (.slice A n c) xs) {k : Nat} (hk : k ≤ n) : Sl w B d k (.slice A k c) (xs.take (k * d)) := by
  obtain ⟨hl, A', c', he, h2, h3, h4⟩ := h
  obtain ⟨rfl, rfl⟩ : A = A' ∧ c = c' := by simpa using he
  refine ⟨by rw [List.length_take, hl, Nat.min_eq_left (Nat.mul_le_mul_right d hk)], A, c, rfl, by omega, h3, fun hk0 => ?_⟩
  obtain ⟨b, o, e, hb, hc⟩ := h4 (by omega)
  exact ⟨b, o, e, hb, fun j u hu => hc j u (by rw [List.getElem?_take] at hu; split at hu <;> first | exact hu | cases hu)⟩
theorem Fs.takeF {w : World} {B n c : Nat} {A : Option Addr} {l : List Flt} (h : Fs w B n (.slice A n c) l) {k : Nat} (hk : k ≤ n) : Fs w B k (.slice A k c) (l.take k) :=
  ⟨by have h9 := h.1.cutF hk; rwa [show (fsCells l).take (k * 3) = fsCells (l.take k) from flat_takeF fcells 3 (fun _ => rfl) l k] at h9, fun x hx => h.2 x (List.mem_of_mem_take hx)⟩
theorem Fs.dropF {w : World} {B n c b o : Nat} {l : List Flt} (h : Fs w B n (.slice (some ⟨b, o, none⟩) n c) l) {k : Nat} (hk : k ≤ n) : Fs w B (n - k) (.slice (some ⟨b, o + k * 3, none⟩) (n - k) (c - k)) (l.drop k) :=
  ⟨by have h9 := h.1.from_ hk; rwa [show (fsCells l).drop (k * 3) = fsCells (l.drop k) from flat_drop fcells 3 (fun _ => rfl) l k] at h9, fun x hx => h.2 x (List.mem_of_mem_drop hx)⟩
end Go.Proofs.Yteekkccgdkmjoaa
