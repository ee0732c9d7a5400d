/-
  DRAWS: a tree that is valid. By gen_e3g.py.
-/
import Derived.Test.YtihigemelekflaaE3
namespace Go.Proofs.Ytihigemelekflaa
open Go.RowKit Nm
set_option linter.unusedSimpArgs false
set_option linter.unusedVariables false

def NamePost (R p : Nat) (w : World) (e : Ending) (w' : World) : Prop :=
  ∃ (x : ByteArray) (p' : Nat), (x.size ≤ 12 ∧ nameOk x.data.toList = true) ∧ e = .returned (.string x) ∧ p' ≤ p + 1 ∧ Rdr w' R p' ∧ w.grownBy w' (some R)
theorem name_small {R p : Nat} {w w0 w' : World} {e : Ending} (h : OfPost R p aNames w e w') (hw : w0.grownBy w (some R)) : NamePost R p w0 e w' := by
  obtain ⟨x, hx, he, hr, hg⟩ := h
  have h1 : ∀ l ∈ aNames, l.length ≤ 12 := by decide
  have h2 : ∀ l ∈ aNames, nameOk l = true := by decide
  exact ⟨x, p + 1, ⟨by rw [Lib.size_eq]; exact h1 _ hx, h2 _ hx⟩, he, Nat.le_refl _, hr, grown_tr hw hg⟩
set_option maxHeartbeats 1000000 in
set_option maxRecDepth 100000 in
theorem aNameG_c (R p : Nat) (w : World) (hr : Rdr w R p) (hp : p ≤ 1000000) :
    Calls Try.prog 17 #[.pointer (some ⟨R, 0, none⟩)] w (NamePost R p w) := by
  have hlt := hr.lt
  have HR := hid hr
  clear hr
  go_enter Try.func17, Try.ntmps17
  go_wp2_with fail
  refine (of_c R p w.heap.size 9 9 aNames _ ?_ hp rfl (by omega) (by omega) (by omega) (heap_alloc_new w _)).mono ?_
  · exact HR.out.below ((Below.refl _ _).alloc (Nat.le_refl _) _)
  intro e w1 h1
  have H1 := hid (name_small h1 (World.grownBy_alloc w _ _))
  obtain ⟨x, hx, rfl, _, _⟩ := h1
  clear hx
  go_wp2_with fail
  go_ret
  exact H1.out


theorem of_litV (R p n most : Nat) (ws : List (List UInt8)) (w : World) (hr : Rdr w R p) (hp : p ≤ 1000000) (hn : n = ws.length) (hn1 : 1 ≤ n) (hn2 : n ≤ 1000) (hm : ∀ l ∈ ws, l.length ≤ most) :
    Calls Try.prog 13 #[.pointer (some ⟨R, 0, none⟩), .slice (some ⟨w.heap.size, 0, none⟩) n n] (w.alloc (.cells (ws.map txt).toArray 9)) (fun e w' => ∃ (x : ByteArray) (p' : Nat), (x.size ≤ most ∧ x.data.toList ∈ ws) ∧ e = .returned (.string x) ∧ p' ≤ p + 1 ∧ Rdr w' R p' ∧ w.grownBy w' (some R)) := by
  have hlt := hr.lt
  refine (of_c R p w.heap.size n n ws _ (hr.below ((Below.refl _ _).alloc (Nat.le_refl _) _)) hp hn hn1 hn2 (by omega) (heap_alloc_new w _)).mono ?_
  rintro e w' ⟨x, hx, he, hr', hg⟩
  exact ⟨x, p + 1, ⟨by rw [Lib.size_eq]; exact hm _ hx, hx⟩, he, Nat.le_refl _, hr', grown_tr (World.grownBy_alloc w _ _) hg⟩
def FltsPostG (R p dp m : Nat) (w : World) (e : Ending) (w' : World) : Prop :=
  ∃ (v : Value) (l : List Flt) (p' : Nat), e = .returned v ∧ l.length ≤ m ∧ (ffit l ∧ l.all fltOk = true) ∧ w'.ownsRow w.heap.size 70 3 v l.length (fsCells l) ∧ p' ≤ p + dp ∧ Rdr w' R p' ∧ w.grownBy w' (some R)
theorem all_add {l : List Flt} {x : Flt} (h : l.all fltOk = true) (hx : fltOk x = true) : (l ++ [x]).all fltOk = true := by rw [List.all_append, h]; simp [hx]
theorem fl_name {x : List UInt8} (h : x ∈ fNames) : fltOk ⟨0, x, 0⟩ = true := by
  have h1 : ∀ l ∈ fNames, fltOk ⟨0, l, 0⟩ = true := by decide
  exact h1 x h
theorem fl_word {x : List UInt8} (h : x ∈ fWords) : fltOk ⟨2, x, 0⟩ = true := by
  have h1 : ∀ l ∈ fWords, fltOk ⟨2, l, 0⟩ = true := by decide
  exact h1 x h
theorem fl_num1 {z : Int} (h1 : 1 ≤ z) (h2 : z ≤ 60) : fltOk ⟨1, ByteArray.empty.data.toList, z⟩ = true := by
  unfold fltOk
  rw [if_neg (by simp), if_neg (by simp), if_pos (Or.inl rfl)]
  simp only [Bool.and_eq_true, decide_eq_true_eq]
  exact ⟨rfl, h1, h2⟩
theorem fl_num3 {z : Int} (h1 : 1 ≤ z) (h2 : z ≤ 60) : fltOk ⟨3, ByteArray.empty.data.toList, z⟩ = true := by
  unfold fltOk
  rw [if_neg (by simp), if_neg (by simp), if_pos (Or.inr rfl)]
  simp only [Bool.and_eq_true, decide_eq_true_eq]
  exact ⟨rfl, h1, h2⟩
theorem flts_ok {l : List Flt} (h : l.all fltOk = true) (hl : l.length ≤ 3) : filtersOk l = true := by
  unfold filtersOk; rw [h, decide_eq_true hl]; rfl
theorem lv_ok {z : Int} (h0 : 0 ≤ z) (h1 : z ≤ 60) : lvOk z = true := by unfold lvOk; rw [decide_eq_true h0, decide_eq_true h1]; rfl
set_option maxHeartbeats 4000000 in
set_option maxRecDepth 100000 in
theorem someFiltersG_c (R p : Nat) (w : World) (hr : Rdr w R p) (hp : p ≤ 800000) :
    Calls Try.prog 15 #[.pointer (some ⟨R, 0, none⟩)] w (FltsPostG R p 7 3 w) := by
  have hlt := hr.lt
  have HL := hid (World.ownsRow_lit w #[] 0 (Nat.le_refl _) (by unfold maxLen; omega) (by simp) : (w.alloc (.cells #[] 70)).ownsRow w.heap.size 70 3 (.slice (some ⟨w.heap.size, 0, none⟩) 0 0) 0 [])
  have C := hid (one_lit R p 6 [0, 1, 0, 0, 2, 3] (w.alloc (.cells #[] 70)) (hr.below ((Below.refl _ _).alloc (Nat.le_refl _) _)) (by omega) rfl (by omega) (by omega) 0 3 (by decide))
  simp only [World.size_alloc] at C
  have G0 := hid (show w.grownBy (w.alloc (.cells #[] 70)) (some R) from World.grownBy_alloc w _ _)
  clear hr
  go_enter Try.func15, Try.ntmps15
  go_wp2_with fail
  refine C.out.mono ?_
  rintro e w1 ⟨n, ⟨hn0, hn1⟩, rfl, hr1, hg1⟩
  have G1 := hid (grown_tr G0.out hg1)
  have O1 := hid (own_off HL.out hg1 hlt)
  have R1 := hid hr1
  have hs1 : w.heap.size < w1.heap.size := by have := hg1.size; simp at this; omega
  generalize hbase : w.heap.size = base at *
  replace hbase := hid hbase
  clear hr1 hg1 C HL G0
  go_wp2_with fail
  go_loopw [3, 4] (fun av nv wr => ∃ (v : Value) (q : Int) (ln : Nat) (l : List Flt) (p' : Nat), av = v ∧ nv = .int .i64 q ∧ 0 ≤ q ∧ (ln : Int) + q ≤ 3 ∧ p' ≤ p + 1 + 2 * ln ∧ Hid (l.length = ln) ∧ Hid (ffit l ∧ l.all fltOk = true) ∧ Hid (wr.ownsRow base 70 3 v ln (fsCells l)) ∧ Hid (Rdr wr R p') ∧ Hid (w.grownBy wr (some R)) ∧ base ≤ wr.heap.size) (fun _ nv _ => (intOf nv).toNat)
  case atStart => exact ⟨_, n, 0, [], p + 1, rfl, rfl, hn0, by simpa using hn1, by simp, rfl, ⟨(fun x hx => by cases hx), rfl⟩, O1.out, R1.out, G1.out, Nat.le_of_lt hs1⟩
  case round =>
    obtain ⟨v, q, ln, l, p', rfl, rfl, hq0, hq1, hp', hln, HF, HO, HR, HG, hsz⟩ := hrel
    obtain ⟨A, c, rfl, hnc, hcm⟩ := (Sl.of_own HO.out).form
    unfold maxLen at hcm
    by_cases hq : 0 < q
    · have C1 := hid (pick_c R p' 4 wr HR.out (by omega) (by omega))
      go_wp2_with fail
      refine C1.out.mono ?_
      rintro e w2 ⟨k, rfl, hk1, hk2, hr2, hg2⟩
      have hk : k < 4 := by have := hk1 (by omega); omega
      have R2 := hid hr2
      have G2 := hid (grown_tr HG.out hg2)
      have O2 := hid (own_off HO.out hg2 (by omega))
      have hs2 : base ≤ w2.heap.size := Nat.le_trans hsz hg2.size
      clear hr2 hg2 C1 HO HR HG hk1 hk2
      rcases (show k = 0 ∨ k = 1 ∨ k = 2 ∨ k = 3 by omega) with rfl | rfl | rfl | rfl
      · have C3 := hid (of_litV R (p' + 1) 3 20 fNames w2 R2.out (by omega) rfl (by omega) (by omega) (by decide))
        go_wp2_with fail
        refine C3.out.mono ?_
        rintro e w3 ⟨x, p3, ⟨hx, hxm⟩, rfl, hp3, hr3, hg3⟩
        have HXm := hid hxm
        clear hxm
        have R3 := hid hr3
        have G3 := hid (grown_tr G2.out hg3)
        have O3 := hid (own_off O2.out hg3 (by omega))
        have hs3 : base ≤ w3.heap.size := Nat.le_trans hs2 hg3.size
        clear hr3 hg3 C3 R2 G2 O2
        have hl9 : ln ≤ 1048576 := by omega
        go_wp2_with (at_builtin; refine appFlt _ rfl (.tmp 24) (.tmp 29) rfl base _ l ln (by rfl) hln.out O3.out 0 x 0 _ _ _ (by rfl) (by simp) hl9 hs3 ?_)
        intro v5 w5 ho5 hb5
        have O5 := hid ho5
        have R5 := hid (Rdr.low R3.out hb5 hlt)
        have G5 := hid (show w.grownBy w5 (some R) from grown_low G3.out (by rw [hbase.out]; exact hb5))
        have hs5 : base ≤ w5.heap.size := Nat.le_trans hs3 hb5.size
        clear ho5 hb5
        go_wp2_with fail
        go_roundw
        case rel => exact ⟨_, q - 1, ln + 1, l ++ [(⟨0, x.data.toList, 0⟩ : Flt)], p3, rfl, by go_num, by omega, by omega, by omega, (by show List.length _ = _; rw [List.length_append, hln.out]; rfl), ⟨ffit_add HF.out.1 (by rw [← Lib.size_eq]; exact hx), all_add HF.out.2 (fl_name HXm.out)⟩, O5.out, R5.out, G5.out, hs5⟩
        case measure => simp [intOf]; omega
      · have C3 := hid (one_lit R (p' + 1) 3 [30, 40, 20] w2 R2.out (by omega) rfl (by omega) (by omega) 1 60 (by decide))
        go_wp2_with fail
        refine C3.out.mono ?_
        rintro e w3 ⟨z, ⟨hzA, hzB⟩, rfl, hr3, hg3⟩
        have R3 := hid hr3
        have G3 := hid (grown_tr G2.out hg3)
        have O3 := hid (own_off O2.out hg3 (by omega))
        have hs3 : base ≤ w3.heap.size := Nat.le_trans hs2 hg3.size
        clear hr3 hg3 C3 R2 G2 O2
        have hl9 : ln ≤ 1048576 := by omega
        go_wp2_with (at_builtin; refine appFlt _ rfl (.tmp 33) (.tmp 38) rfl base _ l ln (by rfl) hln.out O3.out 1 ByteArray.empty z _ _ _ (by rfl) (by simp) hl9 hs3 ?_)
        intro v5 w5 ho5 hb5
        have O5 := hid ho5
        have R5 := hid (Rdr.low R3.out hb5 hlt)
        have G5 := hid (show w.grownBy w5 (some R) from grown_low G3.out (by rw [hbase.out]; exact hb5))
        have hs5 : base ≤ w5.heap.size := Nat.le_trans hs3 hb5.size
        clear ho5 hb5
        go_wp2_with fail
        go_roundw
        case rel => exact ⟨_, q - 1, ln + 1, l ++ [(⟨1, ByteArray.empty.data.toList, z⟩ : Flt)], p' + 1 + 1, rfl, by go_num, by omega, by omega, by omega, (by show List.length _ = _; rw [List.length_append, hln.out]; rfl), ⟨ffit_add HF.out.1 (show List.length ([] : List UInt8) ≤ 20 from Nat.zero_le 20), all_add HF.out.2 (fl_num1 hzA hzB)⟩, O5.out, R5.out, G5.out, hs5⟩
        case measure => simp [intOf]; omega
      · have C3 := hid (of_litV R (p' + 1) 2 20 fWords w2 R2.out (by omega) rfl (by omega) (by omega) (by decide))
        go_wp2_with fail
        refine C3.out.mono ?_
        rintro e w3 ⟨x, p3, ⟨hx, hxm⟩, rfl, hp3, hr3, hg3⟩
        have HXm := hid hxm
        clear hxm
        have R3 := hid hr3
        have G3 := hid (grown_tr G2.out hg3)
        have O3 := hid (own_off O2.out hg3 (by omega))
        have hs3 : base ≤ w3.heap.size := Nat.le_trans hs2 hg3.size
        clear hr3 hg3 C3 R2 G2 O2
        have hl9 : ln ≤ 1048576 := by omega
        go_wp2_with (at_builtin; refine appFlt _ rfl (.tmp 42) (.tmp 47) rfl base _ l ln (by rfl) hln.out O3.out 2 x 0 _ _ _ (by rfl) (by simp) hl9 hs3 ?_)
        intro v5 w5 ho5 hb5
        have O5 := hid ho5
        have R5 := hid (Rdr.low R3.out hb5 hlt)
        have G5 := hid (show w.grownBy w5 (some R) from grown_low G3.out (by rw [hbase.out]; exact hb5))
        have hs5 : base ≤ w5.heap.size := Nat.le_trans hs3 hb5.size
        clear ho5 hb5
        go_wp2_with fail
        go_roundw
        case rel => exact ⟨_, q - 1, ln + 1, l ++ [(⟨2, x.data.toList, 0⟩ : Flt)], p3, rfl, by go_num, by omega, by omega, by omega, (by show List.length _ = _; rw [List.length_append, hln.out]; rfl), ⟨ffit_add HF.out.1 (by rw [← Lib.size_eq]; exact hx), all_add HF.out.2 (fl_word HXm.out)⟩, O5.out, R5.out, G5.out, hs5⟩
        case measure => simp [intOf]; omega
      · have C3 := hid (one_lit R (p' + 1) 3 [30, 25, 50] w2 R2.out (by omega) rfl (by omega) (by omega) 1 60 (by decide))
        go_wp2_with fail
        refine C3.out.mono ?_
        rintro e w3 ⟨z, ⟨hzA, hzB⟩, rfl, hr3, hg3⟩
        have R3 := hid hr3
        have G3 := hid (grown_tr G2.out hg3)
        have O3 := hid (own_off O2.out hg3 (by omega))
        have hs3 : base ≤ w3.heap.size := Nat.le_trans hs2 hg3.size
        clear hr3 hg3 C3 R2 G2 O2
        have hl9 : ln ≤ 1048576 := by omega
        go_wp2_with (at_builtin; refine appFlt _ rfl (.tmp 15) (.tmp 20) rfl base _ l ln (by rfl) hln.out O3.out 3 ByteArray.empty z _ _ _ (by rfl) (by simp) hl9 hs3 ?_)
        intro v5 w5 ho5 hb5
        have O5 := hid ho5
        have R5 := hid (Rdr.low R3.out hb5 hlt)
        have G5 := hid (show w.grownBy w5 (some R) from grown_low G3.out (by rw [hbase.out]; exact hb5))
        have hs5 : base ≤ w5.heap.size := Nat.le_trans hs3 hb5.size
        clear ho5 hb5
        go_wp2_with fail
        go_roundw
        case rel => exact ⟨_, q - 1, ln + 1, l ++ [(⟨3, ByteArray.empty.data.toList, z⟩ : Flt)], p' + 1 + 1, rfl, by go_num, by omega, by omega, by omega, (by show List.length _ = _; rw [List.length_append, hln.out]; rfl), ⟨ffit_add HF.out.1 (show List.length ([] : List UInt8) ≤ 20 from Nat.zero_le 20), all_add HF.out.2 (fl_num3 hzA hzB)⟩, O5.out, R5.out, G5.out, hs5⟩
        case measure => simp [intOf]; omega
    · obtain rfl : q = 0 := by omega
      go_wp2_with fail
      go_ret
      exact ⟨_, l, p', rfl, by rw [hln.out]; omega, HF.out, (by rw [hbase.out, hln.out]; exact HO.out), by omega, HR.out, HG.out⟩


theorem nm_cellG (k : Nat) (hk : k < 6) : ∃ p : ByteArray, p.size ≤ 20 ∧ treeNames[k]? = some p.data.toList ∧ ∀ (nb lo : Nat) (w : World) (rs : List Row), Rows w lo rs → nmRow nb ∈ rs → w.cell? ⟨nb, k, none⟩ = some (.string p) ∧ nb < w.heap.size := by
  have hk' : k < treeNames.length := hk
  refine ⟨⟨(treeNames[k]).toArray⟩, ?_, ?_, fun nb lo w rs h hm => ?_⟩
  · rw [Lib.size_eq]
    have : ∀ l ∈ treeNames, l.length ≤ 20 := by decide
    simpa using this _ (List.getElem_mem hk')
  · rw [List.getElem?_eq_getElem hk']
  · have ho : w.ownsRow lo 9 1 (.slice (some ⟨nb, 0, none⟩) 6 6) 6 (treeNames.map txt) := h.1 _ hm
    refine ⟨(ho.cellAt k (by omega)).trans ?_, (ho.lt nb rfl).2⟩
    rw [List.getElem?_map, List.getElem?_eq_getElem hk']
    rfl
/-- the first k handlers of a good tree -/
def hsG (k : Nat) (hs : List HndV) : Prop := (∀ x ∈ hs, hndSm 8 x.h) ∧ (hsOf hs).map (·.nm) = treeNames.take k ∧ ∀ x ∈ hs, lvOk x.h.lv = true ∧ filtersOk x.h.fs = true
def hlG (i : Nat) (hl : List (List UInt8)) : Prop := (∀ t ∈ hl, t.length ≤ 20) ∧ hl.Sublist (treeNames.take i)
def lgrG (k : Nat) (l : Lgr) : Prop := nameOk l.nm = true ∧ lvOk l.lv = true ∧ filtersOk l.fs = true ∧ l.hs.Sublist (treeNames.take k)
def lsG (k : Nat) (ls : List LgrV) : Prop := (∀ x ∈ ls, lgrSm 8 x.l) ∧ (lnames ls).Nodup ∧ (∀ x ∈ ls, lgrG k x.l) ∧ (ls ≠ [] → (lnames ls)[0]? = some [])
theorem hsG_nil : hsG 0 [] := ⟨fun x hx => (by cases hx), rfl, fun x hx => (by cases hx)⟩
theorem hlG_nil : hlG 0 [] := ⟨fun x hx => (by cases hx), List.Sublist.refl _⟩
theorem lsG_nil (k : Nat) : lsG k [] := ⟨fun x hx => (by cases hx), List.nodup_nil, fun x hx => (by cases hx), fun h => absurd rfl h⟩
theorem take_sub {α : Type} (l : List α) (i : Nat) : (l.take i).Sublist (l.take (i + 1)) := by rw [List.take_add_one]; exact List.sublist_append_left _ _
theorem hlG_up {i : Nat} {hl : List (List UInt8)} (h : hlG i hl) : hlG (i + 1) hl := ⟨h.1, h.2.trans (take_sub _ _)⟩
theorem hlG_snoc {i : Nat} {hl : List (List UInt8)} {x : List UInt8} (h : hlG i hl) (hx : treeNames[i]? = some x) (hl20 : x.length ≤ 20) : hlG (i + 1) (hl ++ [x]) := by
  refine ⟨fun t ht => ?_, ?_⟩
  · rcases List.mem_append.1 ht with ht | ht
    · exact h.1 t ht
    · rw [List.mem_singleton.1 ht]; exact hl20
  · rw [List.take_add_one, hx]
    exact h.2.append (List.Sublist.refl _)
theorem hsG_snoc {k : Nat} {hs : List HndV} {x : HndV} (h : hsG k hs) (hl : hs.length = k) (hx : treeNames[k]? = some x.h.nm) (hsm : hndSm 8 x.h) (hlv : lvOk x.h.lv = true) (hf : filtersOk x.h.fs = true) : hsG (k + 1) (hs ++ [x]) := by
  refine ⟨fun y hy => ?_, ?_, fun y hy => ?_⟩
  · rcases List.mem_append.1 hy with hy | hy
    · exact h.1 y hy
    · rw [List.mem_singleton.1 hy]; exact hsm
  · have h9 := h.2.1
    unfold hsOf at h9 ⊢
    rw [List.map_append, List.map_append, h9, List.take_add_one, hx]
    rfl
  · rcases List.mem_append.1 hy with hy | hy
    · exact h.2.2 y hy
    · rw [List.mem_singleton.1 hy]; exact ⟨hlv, hf⟩
theorem lsG_snoc {k : Nat} {ls : List LgrV} {x : LgrV} (h : lsG k ls) (hsm : lgrSm 8 x.l) (hg : lgrG k x.l) (hn : x.l.nm ∉ lnames ls) (h0 : ls = [] → x.l.nm = []) : lsG k (ls ++ [x]) := by
  refine ⟨fun y hy => ?_, ?_, fun y hy => ?_, fun _ => ?_⟩
  · rcases List.mem_append.1 hy with hy | hy
    · exact h.1 y hy
    · rw [List.mem_singleton.1 hy]; exact hsm
  · have h9 := h.2.1
    unfold lnames at h9 hn ⊢
    rw [List.map_append]
    refine List.nodup_append.2 ⟨h9, by simp, fun a ha b hb => ?_⟩
    simp at hb
    rw [hb]
    exact fun e => hn (e ▸ ha)
  · rcases List.mem_append.1 hy with hy | hy
    · exact h.2.2.1 y hy
    · rw [List.mem_singleton.1 hy]; exact hg
  · cases ls with
    | nil => simp [lnames, h0 rfl]
    | cons a l =>
      have h9 := h.2.2.2 (by simp)
      simpa [lnames] using h9
theorem treeG_ok {k : Nat} {q : Int} {ls : List LgrV} {hs : List HndV} (hq : lvOk q = true) (hh : hsG k hs) (hk : hs.length = k) (hk6 : k ≤ 6) (hl : lsG k ls) (h1 : 1 ≤ ls.length) (h8 : ls.length ≤ 8) : treeOk (lsOf ls) (hsOf hs) q = true := by
  have hnd : treeNames.Nodup := by decide
  have hw : ∀ t ∈ treeNames, wordOk t = true ∧ ¬ t = lastL := by decide
  have hH : hndsOk (hsOf hs) = true := by
    unfold hndsOk
    simp only [Bool.and_eq_true, List.all_eq_true, decide_eq_true_eq]
    refine ⟨fun h hy => ?_, ?_, ?_⟩
    · obtain ⟨x, hx, rfl⟩ := List.mem_map.1 hy
      have hm : x.h.nm ∈ treeNames := by
        have h9 : x.h.nm ∈ (hsOf hs).map (·.nm) := List.mem_map.2 ⟨x.h, List.mem_map.2 ⟨x, hx, rfl⟩, rfl⟩
        rw [hh.2.1] at h9
        exact List.mem_of_mem_take h9
      unfold hndOk
      rw [(hw _ hm).1, decide_eq_false (hw _ hm).2, (hh.2.2 x hx).1, (hh.2.2 x hx).2]; rfl
    · rw [hh.2.1]; exact hnd.sublist (List.take_sublist _ _)
    · simp [hsOf]; omega
  have hL : lgrsOk (hsOf hs) (lsOf ls) = true := by
    unfold lgrsOk
    simp only [Bool.and_eq_true, List.all_eq_true, decide_eq_true_eq]
    have e : (lsOf ls).map (·.nm) = lnames ls := by simp [lsOf, lnames]
    refine ⟨fun l hy => ?_, ?_, ?_, ?_, ?_⟩
    · obtain ⟨x, hx, rfl⟩ := List.mem_map.1 hy
      obtain ⟨g1, g2, g3, g4⟩ := hl.2.2.1 x hx
      have g5 : x.l.hs.all (hasL (hsOf hs)) = true := by
        refine List.all_eq_true.2 fun t ht => ?_
        have h9 := g4.subset ht
        rw [← hh.2.1] at h9
        obtain ⟨h, hm, he⟩ := List.mem_map.1 h9
        unfold hasL
        exact List.any_eq_true.2 ⟨h, hm, decide_eq_true he⟩
      have g6 : x.l.hs.Nodup := hnd.sublist (g4.trans (List.take_sublist _ _))
      unfold lgrOk
      rw [g1, g2, g3, g5, decide_eq_true g6]; rfl
    · rw [e]; exact hl.2.1
    · simp [lsOf]; omega
    · simp [lsOf]; omega
    · rw [e]; exact hl.2.2.2 (fun h => by rw [h] at h1; simp at h1)
  unfold treeOk
  rw [hq, hH, hL]; rfl
/-- a valid tree, drawn -/
def TreeDrawG (m R p dp : Nat) (w : World) (e : Ending) (w' : World) : Prop :=
  ∃ (v : Value) (rs : List Row) (L : List Lgr) (H : List Hnd) (q : Int) (p' : Nat), e = .returned v ∧ TreeS rs v L H q ∧ treeSm m L H ∧ treeOk L H q = true ∧ Rows w' w.heap.size rs ∧ p' ≤ p + dp ∧ Rdr w' R p' ∧ w.grownBy w' (some R)

set_option maxHeartbeats 16000000 in
set_option maxRecDepth 100000 in
theorem goodTreeG_c (R p : Nat) (w : World) (hr : Rdr w R p) (hp : p ≤ 500000) :
    Calls Try.prog 10 #[.pointer (some ⟨R, 0, none⟩)] w (TreeDrawG 8 R p 400 w) := by
  have hlt := hr.lt
  have HZ := hid (show Rows (w.alloc (.cells #[.slice none 0 0, .slice none 0 0, .int .i64 0] 41)) w.heap.size [bxRow 41 3 w.heap.size [.slice none 0 0, .slice none 0 0, .int .i64 0]] from Rows.box w #[.slice none 0 0, .slice none 0 0, .int .i64 0] 41 3 rfl)
  have C := hid (one_lit R p 5 [0, 0, 0, 10, 20] (w.alloc (.cells #[.slice none 0 0, .slice none 0 0, .int .i64 0] 41)) (hr.below ((Below.refl _ _).alloc (Nat.le_refl _) _)) (by omega) rfl (by omega) (by omega) 0 60 (by decide))
  simp only [World.size_alloc] at C
  have G0 := hid (show w.grownBy (w.alloc (.cells #[.slice none 0 0, .slice none 0 0, .int .i64 0] 41)) (some R) from World.grownBy_alloc w _ _)
  clear hr
  go_enter Try.func10, Try.ntmps10
  go_wp2_with fail
  refine C.out.mono ?_
  rintro e w1 ⟨q, ⟨hq0, hq1⟩, rfl, hr1, hg1⟩
  have G1 := grown_tr G0.out hg1
  have Z1 := HZ.out.offR hg1 hlt
  have hs1 : w.heap.size < w1.heap.size := by have := hg1.size; simp at this; omega
  have Z2 := Z1.newer ((Below.refl w1.heap.size w1).alloc (Nat.le_refl _) (.cells #[.slice none 0 0, .slice none 0 0, .int .i64 q] 41)) (Rows.box w1 #[.slice none 0 0, .slice none 0 0, .int .i64 q] 41 3 rfl) (Nat.le_of_lt hs1)
  have O3 : ((w1.alloc (.cells #[.slice none 0 0, .slice none 0 0, .int .i64 q] 41)).alloc (.cells #[.string ⟨#[104]⟩, .string ⟨#[111, 117, 116]⟩, .string ⟨#[101, 114, 114]⟩, .string ⟨#[109, 97, 105, 108]⟩, .string ⟨#[100, 105, 115, 107]⟩, .string ⟨#[110, 101, 116]⟩] 9)).ownsRow (w1.alloc (.cells #[.slice none 0 0, .slice none 0 0, .int .i64 q] 41)).heap.size 9 1 (.slice (some ⟨(w1.alloc (.cells #[.slice none 0 0, .slice none 0 0, .int .i64 q] 41)).heap.size, 0, none⟩) 6 6) 6 (treeNames.map txt) := World.ownsRow_lit (w1.alloc (.cells #[.slice none 0 0, .slice none 0 0, .int .i64 q] 41)) #[.string ⟨#[104]⟩, .string ⟨#[111, 117, 116]⟩, .string ⟨#[101, 114, 114]⟩, .string ⟨#[109, 97, 105, 108]⟩, .string ⟨#[100, 105, 115, 107]⟩, .string ⟨#[110, 101, 116]⟩] 6 (Nat.le_refl _) (by unfold maxLen; omega) rfl
  have Z3 := Z2.newer ((Below.refl _ _).alloc (Nat.le_refl _) (.cells #[.string ⟨#[104]⟩, .string ⟨#[111, 117, 116]⟩, .string ⟨#[101, 114, 114]⟩, .string ⟨#[109, 97, 105, 108]⟩, .string ⟨#[100, 105, 115, 107]⟩, .string ⟨#[110, 101, 116]⟩] 9)) (Rows.one (r := nmRow (w1.alloc (.cells #[.slice none 0 0, .slice none 0 0, .int .i64 q] 41)).heap.size) O3) (by simp; omega)
  have G3 := grown_new (grown_new G1 ((Below.refl w1.heap.size w1).alloc (Nat.le_refl _) (.cells #[.slice none 0 0, .slice none 0 0, .int .i64 q] 41))) ((Below.refl _ (w1.alloc (.cells #[.slice none 0 0, .slice none 0 0, .int .i64 q] 41))).alloc (Nat.le_refl _) (.cells #[.string ⟨#[104]⟩, .string ⟨#[111, 117, 116]⟩, .string ⟨#[101, 114, 114]⟩, .string ⟨#[109, 97, 105, 108]⟩, .string ⟨#[100, 105, 115, 107]⟩, .string ⟨#[110, 101, 116]⟩] 9))
  have D3 := (hr1.below ((Below.refl _ _).alloc (Nat.le_refl _) (.cells #[.slice none 0 0, .slice none 0 0, .int .i64 q] 41))).below ((Below.refl _ _).alloc (Nat.le_refl _) (.cells #[.string ⟨#[104]⟩, .string ⟨#[111, 117, 116]⟩, .string ⟨#[101, 114, 114]⟩, .string ⟨#[109, 97, 105, 108]⟩, .string ⟨#[100, 105, 115, 107]⟩, .string ⟨#[110, 101, 116]⟩] 9))
  have C2 := hid (one_lit R (p + 1) 6 [2, 3, 1, 0, 4, 6] _ D3 (by omega) rfl (by omega) (by omega) 0 6 (by decide))
  simp only [World.size_alloc] at C2 Z3
  replace Z3 := hid Z3
  replace G3 := hid G3
  have hs3 : w1.heap.size + 2 ≤ ((w1.alloc (.cells #[.slice none 0 0, .slice none 0 0, .int .i64 q] 41)).alloc (.cells #[.string ⟨#[104]⟩, .string ⟨#[111, 117, 116]⟩, .string ⟨#[101, 114, 114]⟩, .string ⟨#[109, 97, 105, 108]⟩, .string ⟨#[100, 105, 115, 107]⟩, .string ⟨#[110, 101, 116]⟩] 9)).heap.size := by simp
  clear hr1 hg1 C G1 Z1 Z2 O3 D3 HZ G0
  go_wp2_with fail
  generalize hbb : w1.heap.size = bb at *
  generalize hrb : w.heap.size = rb at *
  replace hrb := hid hrb
  generalize (w1.alloc (.cells #[.slice none 0 0, .slice none 0 0, .int .i64 q] 41)).alloc (.cells #[.string ⟨#[104]⟩, .string ⟨#[111, 117, 116]⟩, .string ⟨#[101, 114, 114]⟩, .string ⟨#[109, 97, 105, 108]⟩, .string ⟨#[100, 105, 115, 107]⟩, .string ⟨#[110, 101, 116]⟩] 9) = w3 at *
  clear hbb
  refine C2.out.mono ?_
  rintro e w4 ⟨zn, ⟨hn0, hn1⟩, rfl, hr4, hg4⟩
  obtain ⟨n, rfl⟩ : ∃ n : Nat, zn = (n : Int) := ⟨zn.toNat, by omega⟩
  have G4 := hid (grown_tr G3.out hg4)
  have D4 := hid hr4
  have X4 := hid (show Rows w4 rb ([bxRow 41 3 bb [.slice none 0 0, .slice none 0 0, .int .i64 q]] ++ ([bxRow 41 3 rb [.slice none 0 0, .slice none 0 0, .int .i64 0], nmRow (bb + 1)] ++ treeRows 0 (.slice none 0 0) [] 0 (.slice none 0 0) [])) from (Rows.cons_nil (T := 56) (d := 6) (Rows.cons_nil (T := 53) (d := 3) (Z3.out.offR hg4 hlt))).perm (perm_five _ _ _ _ _))
  have hs4 : bb + 1 < w4.heap.size := by have := hg4.size; omega
  clear hr4 hg4 C2 Z3 G3 hs3
  go_wp2_with fail
  go_loopw [6] (fun iv wr => ∃ (k : Nat) (A2 : Option Addr) (c2 : Nat) (hs : List HndV) (p' : Nat), iv = .int .i64 k ∧ k ≤ n ∧ p' ≤ p + 2 + 8 * k ∧ Hid (hs.length = k) ∧ Hid (hsG k hs) ∧ Hid (Rows wr rb ([bxRow 41 3 bb [.slice none 0 0, (.slice A2 k c2), .int .i64 q]] ++ ([bxRow 41 3 rb [.slice none 0 0, .slice none 0 0, .int .i64 0], nmRow (bb + 1)] ++ treeRows 0 (.slice none 0 0) [] k ((.slice A2 k c2)) hs))) ∧ Hid (Rdr wr R p') ∧ Hid (w.grownBy wr (some R)) ∧ bb + 1 < wr.heap.size) (fun iv _ => n - (intOf iv).toNat)
  case atStart => exact ⟨0, none, 0, [], p + 1 + 1, rfl, Nat.zero_le _, by omega, rfl, hsG_nil, X4.out, D4.out, G4.out, hs4⟩
  case round =>
    obtain ⟨k, A2, c2, hs, p', rfl, hk, hp', hln, HF, HR, HD, HG, hsz⟩ := hrel
    obtain ⟨b0, b0f, hbl⟩ := Rows.bcell2 (pre := []) (q := 0) HR.out rfl
    obtain ⟨b1, b1f, _⟩ := Rows.bcell2 (pre := []) (q := 1) HR.out rfl
    obtain ⟨b2, b2f, _⟩ := Rows.bcell2 (pre := []) (q := 2) HR.out rfl
    by_cases hkn : k < n
    · obtain ⟨nk, hnk, hnkv, HNm⟩ := nm_cellG k (by omega)
      replace HNm := hid HNm
      replace hnkv := hid hnkv
      obtain ⟨c0, hnl⟩ := HNm.out (bb + 1) _ _ _ HR.out (by simp)
      have C1 := hid (one_lit R p' 5 [0, 20, 30, 10, 40] wr.drew (HD.out.below (Below.refl _ _).drew) (by omega) rfl (by omega) (by omega) 0 60 (by decide))
      have c0d : wr.drew.cell? ⟨bb + 1, k, none⟩ = some (.string nk) := c0
      have b1d : wr.drew.cell? ⟨bb, 1, none⟩ = some (.slice A2 k c2) := b1
      have HA := hid (fun o => And.intro (show (wr.drew.alloc o).cell? ⟨bb + 1, k, none⟩ = some (.string nk) from (World.cell?_alloc_past _ _ _ hnl).trans c0d) (show (wr.drew.alloc o).cell? ⟨bb, 1, none⟩ = some (.slice A2 k c2) from (World.cell?_alloc_past _ _ _ hbl).trans b1d))
      have s0 : (0 : Int) ≤ (k : Int) := by omega
      have s1 : (k : Int) < 6 := by omega
      have s2 : ((k : Int)).toNat = k := by simp
      go_wp2_with fail
      refine wp_region_let 13 (fun w' : World => w'.cell? ⟨bb + 1, k, none⟩ = some (.string nk)) (fun w' : World => w'.cell? ⟨bb, 1, none⟩ = some (.slice A2 k c2)) (by kernel_rfl) c0d b1d (fun hS => ?_)
      refine wpAnyL_take (i := 0) (oi := ?oi101) (v := ?v101) ?hi101 (by kernel_rfl) ?hf101 ?hr101 (by decide) ?hQ101 (Or.inl ⟨?hw101, ?hy101⟩) (⟨hS.1, fun h => hS.2 (by first | rfl | exact h)⟩) ?rest101
      case hi101 => simp only [List.getElem?_toArray, List.getElem?_cons_succ, List.getElem?_cons_zero]; rfl
      case hf101 => kernel_rfl
      case hr101 => kernel_rfl
      case hw101 => rfl
      case hy101 => (intro w hSw; (try dsimp only at hSw); go_simp; all_goals (first | done | with_reducible rfl))
      case hQ101 => exact fun _ _ _ h => h
      simp only [Act.put, List.setIfInBounds_toArray, List.set_cons_zero, List.set_cons_succ]
      refine wpAnyL_take (i := 2) (oi := ?oi102) (v := ?v102) ?hi102 (by kernel_rfl) ?hf102 ?hr102 (by decide) ?hQ102 (Or.inl ⟨?hw102, ?hy102⟩) (⟨hS.1, fun h => hS.2 (by first | rfl | exact h)⟩) ?rest102
      case hi102 => simp only [List.getElem?_toArray, List.getElem?_cons_succ, List.getElem?_cons_zero]; rfl
      case hf102 => kernel_rfl
      case hr102 => kernel_rfl
      case hw102 => rfl
      case hy102 => (intro w hSw; (try dsimp only at hSw); go_simp; all_goals (first | done | with_reducible rfl))
      case hQ102 => exact fun _ _ _ h => h
      simp only [Act.put, List.setIfInBounds_toArray, List.set_cons_zero, List.set_cons_succ]
      refine wpAnyL_take (i := 3) (oi := ?oi103) (v := ?v103) ?hi103 (by kernel_rfl) ?hf103 ?hr103 (by decide) ?hQ103 (Or.inl ⟨?hw103, ?hy103⟩) (⟨hS.1, fun h => hS.2 (by first | rfl | exact h)⟩) ?rest103
      case hi103 => simp only [List.getElem?_toArray, List.getElem?_cons_succ, List.getElem?_cons_zero]; rfl
      case hf103 => kernel_rfl
      case hr103 => kernel_rfl
      case hw103 => rfl
      case hy103 => (intro w hSw; (try dsimp only at hSw); go_simp; all_goals (first | done | with_reducible rfl))
      case hQ103 => exact fun _ _ _ h => h
      simp only [Act.put, List.setIfInBounds_toArray, List.set_cons_zero, List.set_cons_succ]
      refine wpAnyL_take (i := 4) (oi := ?oi104) (v := ?v104) ?hi104 (by kernel_rfl) ?hf104 ?hr104 (by decide) ?hQ104 (Or.inl ⟨?hw104, ?hy104⟩) (⟨hS.1, fun h => hS.2 (by first | rfl | exact h)⟩) ?rest104
      case hi104 => simp only [List.getElem?_toArray, List.getElem?_cons_succ, List.getElem?_cons_zero]; rfl
      case hf104 => kernel_rfl
      case hr104 => kernel_rfl
      case hw104 => rfl
      case hy104 => (intro w hSw; (try dsimp only at hSw); go_simp; all_goals (first | done | with_reducible rfl))
      case hQ104 => exact fun _ _ _ h => h
      simp only [Act.put, List.setIfInBounds_toArray, List.set_cons_zero, List.set_cons_succ]
      refine wpAnyL_take (i := 5) (oi := ?oi105) (v := ?v105) ?hi105 (by kernel_rfl) ?hf105 ?hr105 (by decide) ?hQ105 (Or.inl ⟨?hw105, ?hy105⟩) (⟨hS.1, fun h => hS.2 (by first | rfl | exact h)⟩) ?rest105
      case hi105 => simp only [List.getElem?_toArray, List.getElem?_cons_succ, List.getElem?_cons_zero]; rfl
      case hf105 => kernel_rfl
      case hr105 => kernel_rfl
      case hw105 => rfl
      case hy105 => (intro w hSw; (try dsimp only at hSw); go_simp; all_goals (first | done | with_reducible rfl))
      case hQ105 => exact fun _ _ _ h => h
      simp only [Act.put, List.setIfInBounds_toArray, List.set_cons_zero, List.set_cons_succ]
      refine wpAnyL_take (i := 6) (oi := ?oi106) (v := ?v106) ?hi106 (by kernel_rfl) ?hf106 ?hr106 (by decide) ?hQ106 (Or.inl ⟨?hw106, ?hy106⟩) (⟨hS.1, fun h => hS.2 (by first | rfl | exact h)⟩) ?rest106
      case hi106 => simp only [List.getElem?_toArray, List.getElem?_cons_succ, List.getElem?_cons_zero]; rfl
      case hf106 => kernel_rfl
      case hr106 => kernel_rfl
      case hw106 => rfl
      case hy106 => (intro w hSw; (try dsimp only at hSw); go_simp; all_goals (first | done | with_reducible rfl))
      case hQ106 => exact fun _ _ _ h => h
      simp only [Act.put, List.setIfInBounds_toArray, List.set_cons_zero, List.set_cons_succ]
      refine wpAnyL_take (i := 9) (oi := ?oi107) (v := ?v107) ?hi107 (by kernel_rfl) ?hf107 ?hr107 (by decide) ?hQ107 (Or.inl ⟨?hw107, ?hy107⟩) (⟨hS.1, fun h => hS.2 (by first | rfl | exact h)⟩) ?rest107
      case hi107 => simp only [List.getElem?_toArray, List.getElem?_cons_succ, List.getElem?_cons_zero]; rfl
      case hf107 => kernel_rfl
      case hr107 => kernel_rfl
      case hw107 => rfl
      case hy107 => (intro w hSw; (try dsimp only at hSw); go_simp; all_goals (first | done | with_reducible rfl))
      case hQ107 => exact fun _ _ _ h => h
      simp only [Act.put, List.setIfInBounds_toArray, List.set_cons_zero, List.set_cons_succ]
      refine wpAnyL_take1 (i := 1) (oi := ?oi108) (om := ?om108) (v := ?v108) ?hi108 (by kernel_rfl) ?hf108 ?hr108 (by decide) ?hm108 ?hd108 (by rfl) ?hQ108 (Or.inl ⟨?hw108, ?hy108⟩) (⟨hS.1, fun h => hS.2 (by first | rfl | exact h)⟩) ?rest108
      case hi108 => simp only [List.getElem?_toArray, List.getElem?_cons_succ, List.getElem?_cons_zero]; rfl
      case hm108 => simp only [List.getElem?_toArray, List.getElem?_cons_succ, List.getElem?_cons_zero]; rfl
      case hd108 => kernel_rfl
      case hf108 => kernel_rfl
      case hr108 => kernel_rfl
      case hw108 => rfl
      case hy108 => (intro w hSw; (try dsimp only at hSw); go_simp; all_goals (first | done | with_reducible rfl))
      case hQ108 => exact fun _ _ _ h => h
      simp only [Act.put, List.setIfInBounds_toArray, List.set_cons_zero, List.set_cons_succ]
      refine wpAnyL_ready (rs := [7]) (by kernel_rfl) (by simp) ?_
      refine AllReadyL.cons (o := ?oi109) ?hi109 (fun K hK => ?step109) AllReadyL.nil
      case hi109 => simp only [List.getElem?_toArray, List.getElem?_cons_succ, List.getElem?_cons_zero]; rfl
      rw [if_pos (by rfl)]
      go_simp
      refine hK.out _ _ ⟨(HA.out _).1, fun _ => (HA.out _).2⟩ (fun hS => ?_)
      refine wpAnyL_ready (rs := [8]) (by kernel_rfl) (by simp) ?_
      refine AllReadyL.cons (o := ?oi110) ?hi110 (fun K hK => ?step110) AllReadyL.nil
      case hi110 => simp only [List.getElem?_toArray, List.getElem?_cons_succ, List.getElem?_cons_zero]; rfl
      rw [if_pos (by rfl)]
      go_simp
      go_at_call 14
      refine C1.out.mono ?_
      rintro e w3 ⟨lv, ⟨hv0, hv1⟩, rfl, hr3, hg3⟩
      have X3 := HR.out.dr.offR hg3 hlt
      have hs3 : bb + 1 < w3.heap.size := Nat.lt_of_lt_of_le hsz hg3.size
      refine hK.out _ _ ⟨(HNm.out (bb + 1) _ _ _ X3 (by simp)).1, fun _ => (Rows.bcell2 (pre := []) (q := 1) X3 rfl).1⟩ (fun hS => ?_)
      refine wpAnyL_ready (rs := [10]) (by kernel_rfl) (by simp) ?_
      refine AllReadyL.cons (o := ?oi111) ?hi111 (fun K hK => ?step111) AllReadyL.nil
      case hi111 => simp only [List.getElem?_toArray, List.getElem?_cons_succ, List.getElem?_cons_zero]; rfl
      rw [if_pos (by rfl)]
      go_simp
      go_at_call 15
      refine (someFiltersG_c R (p' + 1) w3 hr3 (by omega)).mono ?_
      rintro e w5 ⟨v5, fl, p5, rfl, hl5, hf5, ho5, hp5, hr5, hg5⟩
      obtain ⟨A8, k8, rfl, _, _⟩ := (Sl.of_own ho5).form
      generalize hfl : fl.length = fn at *
      have X5 := X3.newerR hg5 hlt (Rows.one (r := ⟨70, 3, fn, .slice A8 fn k8, fsCells fl⟩) ho5) (by omega)
      have hs5 : bb + 1 < w5.heap.size := Nat.lt_of_lt_of_le hs3 hg5.size
      obtain ⟨A5, c5, w6, hrun, hg6, hlo6, X6⟩ := tHand X5 (by omega) (by omega) nk lv
      have X7 := Rows.boxset (pre := []) (j := 1) (u := .slice A5 (k + 1) c5) X6
      have ca5 := (HNm.out (bb + 1) _ _ _ X5 (by simp)).1
      have ba5 := (Rows.bcell2 (pre := [_]) (q := 1) X5 rfl).1
      have aa5 : (w5.alloc (.cells #[.string nk, .int .i64 lv, .slice A8 fn k8] 53)).cell? ⟨bb + 1, k, none⟩ = some (.string nk) := (World.cell?_alloc_past _ _ _ hs5).trans ca5
      have ab5 : (w5.alloc (.cells #[.string nk, .int .i64 lv, .slice A8 fn k8] 53)).cell? ⟨bb, 1, none⟩ = some (.slice A2 k c2) := (World.cell?_alloc_past _ _ _ (show bb < _ by omega)).trans ba5
      have ca6 := (HNm.out (bb + 1) _ _ _ X6 (by simp)).1
      have ca7 := (HNm.out (bb + 1) _ _ _ X7 (by simp)).1
      obtain ⟨b6, b6f, _⟩ := Rows.bcell2 (pre := []) (q := 1) X6 rfl
      have G6 := hid (grown_off (grown_tr (grown_tr (grown_drN HG.out 1) hg3) hg5) hg6 (fun z h => by rw [hrb.out]; exact hlo6 z h))
      have D6 := hid (hr5.off hg6 (fun z h => Nat.lt_of_lt_of_le hlt (hlo6 z h)))
      have hs6 : bb + 1 < w6.heap.size := Nat.lt_of_lt_of_le hs5 hg6.size
      have HX7 := hid X7
      have HRun := hid hrun
      have HFt := hid hf5
      clear X3 X5 X6 X7 hr3 hg3 hr5 hg5 ho5 hg6 hlo6 hrun hf5 C1
      refine hK.out _ _ ⟨ca5, fun _ => ba5⟩ (fun hS => ?_)
      refine wpAnyL_take (i := 11) (oi := ?oi112) (v := ?v112) ?hi112 (by kernel_rfl) ?hf112 ?hr112 (by decide) ?hQ112 (Or.inl ⟨?hw112, ?hy112⟩) (⟨hS.1, fun h => hS.2 (by first | rfl | exact h)⟩) ?rest112
      case hi112 => simp only [List.getElem?_toArray, List.getElem?_cons_succ, List.getElem?_cons_zero]; rfl
      case hf112 => kernel_rfl
      case hr112 => kernel_rfl
      case hw112 => rfl
      case hy112 => (intro w hSw; (try dsimp only at hSw); go_simp; all_goals (first | done | with_reducible rfl))
      case hQ112 => exact fun _ _ _ h => h
      simp only [Act.put, List.setIfInBounds_toArray, List.set_cons_zero, List.set_cons_succ]
      refine wpAnyL_ready (rs := [12]) (by kernel_rfl) (by simp) ?_
      refine AllReadyL.cons (o := ?oi113) ?hi113 (fun K hK => ?step113) AllReadyL.nil
      case hi113 => simp only [List.getElem?_toArray, List.getElem?_cons_succ, List.getElem?_cons_zero]; rfl
      rw [if_pos (by rfl)]
      go_simp
      refine hK.out _ _ ⟨aa5, fun _ => ab5⟩ (fun hS => ?_)
      refine wpAnyL_ready (rs := [13]) (by kernel_rfl) (by simp) ?_
      refine AllReadyL.cons (o := ?oi114) ?hi114 (fun K hK => ?step114) AllReadyL.nil
      case hi114 => simp only [List.getElem?_toArray, List.getElem?_cons_succ, List.getElem?_cons_zero]; rfl
      rw [if_pos (by rfl)]
      refine wp_app rfl (by rfl) (by rfl) HRun.out ?_
      refine hK.out _ _ ⟨ca6, fun h => absurd h (by decide)⟩ (fun hS => ?_)
      simp only [Act.put, List.setIfInBounds_toArray, List.set_cons_zero, List.set_cons_succ]
      refine wpAnyL_take (i := 14) (oi := ?oi115) (v := ?v115) ?hi115 (by kernel_rfl) ?hf115 ?hr115 (by decide) ?hQ115 (Or.inl ⟨?hw115, ?hy115⟩) (⟨hS.1, fun h => hS.2 (by first | rfl | exact h)⟩) ?rest115
      case hi115 => simp only [List.getElem?_toArray, List.getElem?_cons_succ, List.getElem?_cons_zero]; rfl
      case hf115 => kernel_rfl
      case hr115 => kernel_rfl
      case hw115 => rfl
      case hy115 => (intro w hSw; (try dsimp only at hSw); go_simp; all_goals (first | done | with_reducible rfl))
      case hQ115 => exact fun _ _ _ h => h
      simp only [Act.put, List.setIfInBounds_toArray, List.set_cons_zero, List.set_cons_succ]
      refine wpAnyL_ready (rs := [15]) (by kernel_rfl) (by simp) ?_
      refine AllReadyL.cons (o := ?oi116) ?hi116 (fun K hK => ?step116) AllReadyL.nil
      case hi116 => simp only [List.getElem?_toArray, List.getElem?_cons_succ, List.getElem?_cons_zero]; rfl
      rw [if_pos (by rfl)]
      go_simp
      refine hK.out _ _ ⟨ca7, fun h => absurd h (by decide)⟩ (fun hS => ?_)
      refine wpAnyL_done (by kernel_rfl) ?_ _
      clear c0 c0d b0 b1 b1d b2 ca5 ba5 aa5 ab5 ca6 ca7 b6 b6f
      go_wp2_with fail
      go_roundw
      case rel =>
        refine ⟨k + 1, A5, c5, hs ++ [(⟨⟨nk.data.toList, lv, fl⟩, .slice A8 fn k8, fn⟩ : HndV)], p5, by go_num, by omega, by omega, (by show List.length _ = _; rw [List.length_append, hln.out]; rfl), ?_, HX7.out, D6.out.set (by omega), grown_at G6.out (by rw [hrb.out]; omega), (by simpa using hs6)⟩
        exact hsG_snoc HF.out hln.out hnkv.out ⟨by rw [← Lib.size_eq]; exact hnk, by show List.length fl ≤ 8; omega, HFt.out.1⟩ (lv_ok hv0 hv1) (flts_ok HFt.out.2 (show fl.length ≤ 3 by omega))
      case measure => simp [intOf]; omega
    · obtain rfl : k = n := by omega
      have C8 := hid (one_lit R p' 6 [3, 4, 2, 5, 1, 8] wr HD.out (by omega) rfl (by omega) (by omega) 1 8 (by decide))
      clear b0 b0f b1 b1f b2 b2f hbl
      go_wp2_with fail
      refine C8.out.mono ?_
      rintro e w8 ⟨zk, ⟨hz0, hz1⟩, rfl, hr8, hg8⟩
      have G8 := hid (grown_tr HG.out hg8)
      have D8 := hid hr8
      have X8 := hid (HR.out.offR hg8 hlt)
      have hs8 : bb + 1 < w8.heap.size := Nat.lt_of_lt_of_le hsz hg8.size
      clear hr8 hg8 C8 HR HD HG hsz
      go_wp2_with fail
      go_loopw [7, 8, 9] (fun kv xv iv wr => ∃ (z : Int) (u8 u9 : Value) (ln : Nat) (A1 : Option Addr) (c1 : Nat) (ls : List LgrV) (pp : Nat), kv = .int .i64 z ∧ xv = u8 ∧ iv = u9 ∧ 0 ≤ z ∧ (ln : Int) + z ≤ 8 ∧ 1 ≤ (ln : Int) + z ∧ (pp : Int) + 17 * z ≤ p + 187 ∧ Hid (ls.length = ln) ∧ Hid (lsG k ls) ∧ Hid (Rows wr rb ([bxRow 41 3 bb [.slice A1 ln c1, .slice A2 k c2, .int .i64 q]] ++ ([bxRow 41 3 rb [.slice none 0 0, .slice none 0 0, .int .i64 0], nmRow (bb + 1)] ++ treeRows ln (.slice A1 ln c1) ls k (.slice A2 k c2) hs))) ∧ Hid (Rdr wr R pp) ∧ Hid (w.grownBy wr (some R)) ∧ bb + 1 < wr.heap.size) (fun kv _ _ _ => (intOf kv).toNat)
      case atStart => exact ⟨zk, _, _, 0, none, 0, [], p' + 1, rfl, rfl, rfl, by omega, by omega, by omega, by omega, rfl, lsG_nil _, X8.out, D8.out, G8.out, hs8⟩
      case round =>
        obtain ⟨z, u8, u9, ln, A1, c1, ls, pp, rfl, rfl, rfl, hz0', hz1', hz2', hpp, hln1, HF1, HR, HD, HG, hsz⟩ := hrel
        by_cases hz : 0 < z
        · have C1 := hid (one_lit R pp 6 [0, 0, 10, 20, 30, 40] wr HD.out (by omega) rfl (by omega) (by omega) 0 60 (by decide))
          go_wp2_with fail
          refine C1.out.mono ?_
          rintro e w3 ⟨lv, ⟨hv0, hv1⟩, rfl, hr3, hg3⟩
          have X3 := hid (HR.out.offR hg3 hlt)
          have hs3 : bb + 1 < w3.heap.size := Nat.lt_of_lt_of_le hsz hg3.size
          have G3 := hid (grown_tr HG.out hg3)
          have C2 := hid (someFiltersG_c R (pp + 1) w3 hr3 (by omega))
          clear hr3 hg3 C1 HR HD HG hsz
          go_wp2_with fail
          refine C2.out.mono ?_
          rintro e w5 ⟨v5, fl, p5, rfl, hl5, hf5, ho5, hp5, hr5, hg5⟩
          obtain ⟨A8, k8, rfl, _, _⟩ := (Sl.of_own ho5).form
          generalize hfl : fl.length = fn at *
          replace hfl := hid hfl
          have X5 := hid (X3.out.newerR hg5 hlt (Rows.one (r := ⟨70, 3, fn, .slice A8 fn k8, fsCells fl⟩) ho5) (by omega))
          have hs5 : bb + 1 < w5.heap.size := Nat.lt_of_lt_of_le hs3 hg5.size
          have G5 := hid (grown_tr G3.out hg5)
          have C3 := hid (pick_c R p5 6 w5 hr5 (by omega) (by omega))
          have HFt := hid hf5
          clear hr5 hg5 ho5 hf5 C2 X3 G3
          go_wp2_with fail
          refine C3.out.mono ?_
          rintro e w6 ⟨k6, rfl, _, _, hr6, hg6⟩
          have X6 := hid (X5.out.offR hg6 hlt)
          have hs6 : bb + 1 < w6.heap.size := Nat.lt_of_lt_of_le hs5 hg6.size
          have G6 := hid (grown_tr G5.out hg6)
          have C4 := hid (pick_c R (p5 + 1) 10 w6 hr6 (by omega) (by omega))
          clear hr6 hg6 C3 X5 G5
          go_wp2_with fail
          refine C4.out.mono ?_
          rintro e w7 ⟨k7, rfl, _, _, hr7, hg7⟩
          have hs7 : bb + 1 < w7.heap.size := Nat.lt_of_lt_of_le hs6 hg7.size
          obtain ⟨st, hst⟩ : ∃ st : Bool, ((k6 : Int) == 0) = st := ⟨_, rfl⟩
          obtain ⟨off, hof⟩ : ∃ off : Bool, ((k7 : Int) == 0) = off := ⟨_, rfl⟩
          have hxb : Below w7.heap.size w7 (w7.alloc (.cells #[.string ⟨#[]⟩, .int .i64 lv, .slice none 0 0, .slice A8 fn k8, .bool st, .bool off] 56)) := (Below.refl _ _).alloc (Nat.le_refl _) _
          have X8 := Rows.cons_nil (T := 9) (d := 1) (((X6.out.offR hg7 hlt).newer hxb (Rows.box w7 #[.string ⟨#[]⟩, .int .i64 lv, .slice none 0 0, .slice A8 fn k8, .bool st, .bool off] 56 6 rfl) (by omega)).perm (perm_in [_] [_, _] _))
          have X7c := (Rows.bcell2 (pre := [_]) (q := 0) (X6.out.offR hg7 hlt) rfl).1
          have D8 := hr7.below hxb
          have G8 := grown_new (grown_tr G6.out hg7) hxb
          have hs8 : w7.heap.size < (w7.alloc (.cells #[.string ⟨#[]⟩, .int .i64 lv, .slice none 0 0, .slice A8 fn k8, .bool st, .bool off] 56)).heap.size := by simp
          clear hr7 hg7 hxb C4 X6 G6
          have o0 := (Rows.bcell2 (pre := [_, _]) (q := 0) X8 rfl).1
          have o0w : w7.cell? ⟨bb, 0, none⟩ = some (.slice A1 ln c1) := X7c
          replace X8 := hid X8
          replace D8 := hid D8
          replace G8 := hid G8
          by_cases hl0 : ln = 0
          · have hl1 : decide (0 < ln) = false := decide_eq_false (by omega)
            clear hl0
            go_wp2_with fail
            generalize w7.alloc (.cells #[.string ⟨#[]⟩, .int .i64 lv, .slice none 0 0, .slice A8 fn k8, .bool st, .bool off] 56) = wc at *
            generalize hbx : w7.heap.size = bx at *
            clear hbx o0 o0w X7c
            have XC := hid (show Rows wc rb ([⟨9, 1, 0, (.slice none 0 0), ([]).map txt⟩, ⟨70, 3, fn, .slice A8 fn k8, fsCells fl⟩] ++ ([bxRow 41 3 bb [.slice A1 ln c1, .slice A2 k c2, .int .i64 q]] ++ ([bxRow 56 6 bx [.string ⟨#[]⟩, .int .i64 lv, (.slice none 0 0), .slice A8 fn k8, .bool st, .bool off], bxRow 41 3 rb [.slice none 0 0, .slice none 0 0, .int .i64 0], nmRow (bb + 1)] ++ treeRows ln (.slice A1 ln c1) ls k (.slice A2 k c2) hs))) from X8.out)
            have DC := D8
            have GC := G8
            clear X8 D8 G8
            go_loopw [9] (fun iv wr => ∃ (i m : Nat) (A7 : Option Addr) (c7 : Nat) (hl : List (List UInt8)) (pi : Nat), iv = .int .i64 i ∧ i ≤ k ∧ m ≤ i ∧ pi ≤ (p5 + 1 + 1) + i ∧ Hid (hl.length = m) ∧ Hid (hlG i hl) ∧ Hid (Rows wr rb ([⟨9, 1, m, (.slice A7 m c7), (hl).map txt⟩, ⟨70, 3, fn, .slice A8 fn k8, fsCells fl⟩] ++ ([bxRow 41 3 bb [.slice A1 ln c1, .slice A2 k c2, .int .i64 q]] ++ ([bxRow 56 6 bx [.string ⟨#[]⟩, .int .i64 lv, (.slice A7 m c7), .slice A8 fn k8, .bool st, .bool off], bxRow 41 3 rb [.slice none 0 0, .slice none 0 0, .int .i64 0], nmRow (bb + 1)] ++ treeRows ln (.slice A1 ln c1) ls k (.slice A2 k c2) hs)))) ∧ Hid (Rdr wr R pi) ∧ Hid (w.grownBy wr (some R)) ∧ bx < wr.heap.size) (fun iv _ => k - (intOf iv).toNat)
            case atStart => exact ⟨0, 0, none, 0, [], (p5 + 1 + 1), rfl, Nat.zero_le _, Nat.le_refl _, by omega, rfl, hlG_nil, XC.out, DC.out, GC.out, hs8⟩
            case round =>
              obtain ⟨i, m, A7, c7, hl, pi, rfl, hi, hmi, hpi, hhl, HT, HR3, HD3, HG3, hsz3⟩ := hrel
              by_cases hik : i < k
              · obtain ⟨nk, hnk, hnkv, HNm⟩ := nm_cellG i (by omega)
                replace HNm := hid HNm
                replace hnkv := hid hnkv
                have C4 := hid (pick_c R pi 4 wr HD3.out (by omega) (by omega))
                go_wp2_with fail
                refine C4.out.mono ?_
                rintro e w10 ⟨k9, rfl, _, _, hr9, hg9⟩
                have X9 := hid (HR3.out.offR hg9 hlt)
                have D9 := hid hr9
                have G9 := hid (grown_tr HG3.out hg9)
                have hs9 : bx < w10.heap.size := Nat.lt_of_lt_of_le hsz3 hg9.size
                clear hr9 hg9 HR3 HD3 HG3 C4
                rcases Nat.eq_zero_or_pos k9 with hk9 | hk9
                · subst hk9
                  obtain ⟨c0, hnl⟩ := HNm.out (bb + 1) _ _ _ X9.out (by simp)
                  obtain ⟨x2, x2f, hxl⟩ := Rows.bcell2 (pre := [_, _, _]) (q := 2) X9.out rfl
                  have c0d : w10.drew.cell? ⟨bb + 1, i, none⟩ = some (.string nk) := c0
                  have x2d : w10.drew.cell? ⟨bx, 2, none⟩ = some (.slice A7 m c7) := x2
                  have HA := hid (fun o => And.intro (show (w10.drew.alloc o).cell? ⟨bb + 1, i, none⟩ = some (.string nk) from (World.cell?_alloc_past _ _ _ hnl).trans c0d) (show (w10.drew.alloc o).cell? ⟨bx, 2, none⟩ = some (.slice A7 m c7) from (World.cell?_alloc_past _ _ _ hxl).trans x2d))
                  have s0 : (0 : Int) ≤ (i : Int) := by omega
                  have s1 : (i : Int) < 6 := by omega
                  have s2 : ((i : Int)).toNat = i := by simp
                  obtain ⟨A5, c5, w6, hrun, hg6, hlo6, X6⟩ := tTxt X9.out.dr (show rb ≤ w10.drew.heap.size from by show rb ≤ w10.heap.size; omega) (by omega) nk
                  have X7 := hid (Rows.boxset (pre := [_, _, _]) (j := 2) (u := .slice A5 (m + 1) c5) X6)
                  have ca6 := (HNm.out (bb + 1) _ _ _ X6 (by simp)).1
                  have ca7 := (HNm.out (bb + 1) _ _ _ X7.out (by simp)).1
                  obtain ⟨b6, b6f, _⟩ := Rows.bcell2 (pre := [_, _, _]) (q := 2) X6 rfl
                  have G6 := hid (grown_off (grown_drN G9.out 1) hg6 (fun z h => by rw [hrb.out]; exact hlo6 z h))
                  have D6 := hid ((D9.out.below (Below.refl _ _).drew).off hg6 (fun z h => Nat.lt_of_lt_of_le hlt (hlo6 z h)))
                  have hs6 : bx < w6.heap.size := Nat.lt_of_lt_of_le hs9 hg6.size
                  have HRun := hid hrun
                  clear X6 hg6 hlo6 hrun
                  go_wp2_with fail
                  refine wp_region_let 7 (fun w' : World => w'.cell? ⟨bb + 1, i, none⟩ = some (.string nk)) (fun w' : World => w'.cell? ⟨bx, 2, none⟩ = some (.slice A7 m c7)) (by kernel_rfl) c0d x2d (fun hS => ?_)
                  refine wpAnyL_take (i := 0) (oi := ?oi117) (v := ?v117) ?hi117 (by kernel_rfl) ?hf117 ?hr117 (by decide) ?hQ117 (Or.inl ⟨?hw117, ?hy117⟩) (⟨hS.1, fun h => hS.2 (by first | rfl | exact h)⟩) ?rest117
                  case hi117 => simp only [List.getElem?_toArray, List.getElem?_cons_succ, List.getElem?_cons_zero]; rfl
                  case hf117 => kernel_rfl
                  case hr117 => kernel_rfl
                  case hw117 => rfl
                  case hy117 => (intro w hSw; (try dsimp only at hSw); go_simp; all_goals (first | done | with_reducible rfl))
                  case hQ117 => exact fun _ _ _ h => h
                  simp only [Act.put, List.setIfInBounds_toArray, List.set_cons_zero, List.set_cons_succ]
                  refine wpAnyL_take (i := 2) (oi := ?oi118) (v := ?v118) ?hi118 (by kernel_rfl) ?hf118 ?hr118 (by decide) ?hQ118 (Or.inl ⟨?hw118, ?hy118⟩) (⟨hS.1, fun h => hS.2 (by first | rfl | exact h)⟩) ?rest118
                  case hi118 => simp only [List.getElem?_toArray, List.getElem?_cons_succ, List.getElem?_cons_zero]; rfl
                  case hf118 => kernel_rfl
                  case hr118 => kernel_rfl
                  case hw118 => rfl
                  case hy118 => (intro w hSw; (try dsimp only at hSw); go_simp; all_goals (first | done | with_reducible rfl))
                  case hQ118 => exact fun _ _ _ h => h
                  simp only [Act.put, List.setIfInBounds_toArray, List.set_cons_zero, List.set_cons_succ]
                  refine wpAnyL_take (i := 3) (oi := ?oi119) (v := ?v119) ?hi119 (by kernel_rfl) ?hf119 ?hr119 (by decide) ?hQ119 (Or.inl ⟨?hw119, ?hy119⟩) (⟨hS.1, fun h => hS.2 (by first | rfl | exact h)⟩) ?rest119
                  case hi119 => simp only [List.getElem?_toArray, List.getElem?_cons_succ, List.getElem?_cons_zero]; rfl
                  case hf119 => kernel_rfl
                  case hr119 => kernel_rfl
                  case hw119 => rfl
                  case hy119 => (intro w hSw; (try dsimp only at hSw); go_simp; all_goals (first | done | with_reducible rfl))
                  case hQ119 => exact fun _ _ _ h => h
                  simp only [Act.put, List.setIfInBounds_toArray, List.set_cons_zero, List.set_cons_succ]
                  refine wpAnyL_take (i := 4) (oi := ?oi120) (v := ?v120) ?hi120 (by kernel_rfl) ?hf120 ?hr120 (by decide) ?hQ120 (Or.inl ⟨?hw120, ?hy120⟩) (⟨hS.1, fun h => hS.2 (by first | rfl | exact h)⟩) ?rest120
                  case hi120 => simp only [List.getElem?_toArray, List.getElem?_cons_succ, List.getElem?_cons_zero]; rfl
                  case hf120 => kernel_rfl
                  case hr120 => kernel_rfl
                  case hw120 => rfl
                  case hy120 => (intro w hSw; (try dsimp only at hSw); go_simp; all_goals (first | done | with_reducible rfl))
                  case hQ120 => exact fun _ _ _ h => h
                  simp only [Act.put, List.setIfInBounds_toArray, List.set_cons_zero, List.set_cons_succ]
                  refine wpAnyL_take (i := 5) (oi := ?oi121) (v := ?v121) ?hi121 (by kernel_rfl) ?hf121 ?hr121 (by decide) ?hQ121 (Or.inl ⟨?hw121, ?hy121⟩) (⟨hS.1, fun h => hS.2 (by first | rfl | exact h)⟩) ?rest121
                  case hi121 => simp only [List.getElem?_toArray, List.getElem?_cons_succ, List.getElem?_cons_zero]; rfl
                  case hf121 => kernel_rfl
                  case hr121 => kernel_rfl
                  case hw121 => rfl
                  case hy121 => (intro w hSw; (try dsimp only at hSw); go_simp; all_goals (first | done | with_reducible rfl))
                  case hQ121 => exact fun _ _ _ h => h
                  simp only [Act.put, List.setIfInBounds_toArray, List.set_cons_zero, List.set_cons_succ]
                  refine wpAnyL_take1 (i := 1) (oi := ?oi122) (om := ?om122) (v := ?v122) ?hi122 (by kernel_rfl) ?hf122 ?hr122 (by decide) ?hm122 ?hd122 (by rfl) ?hQ122 (Or.inl ⟨?hw122, ?hy122⟩) (⟨hS.1, fun h => hS.2 (by first | rfl | exact h)⟩) ?rest122
                  case hi122 => simp only [List.getElem?_toArray, List.getElem?_cons_succ, List.getElem?_cons_zero]; rfl
                  case hm122 => simp only [List.getElem?_toArray, List.getElem?_cons_succ, List.getElem?_cons_zero]; rfl
                  case hd122 => kernel_rfl
                  case hf122 => kernel_rfl
                  case hr122 => kernel_rfl
                  case hw122 => rfl
                  case hy122 => (intro w hSw; (try dsimp only at hSw); go_simp; all_goals (first | done | with_reducible rfl))
                  case hQ122 => exact fun _ _ _ h => h
                  simp only [Act.put, List.setIfInBounds_toArray, List.set_cons_zero, List.set_cons_succ]
                  refine wpAnyL_ready (rs := [6]) (by kernel_rfl) (by simp) ?_
                  refine AllReadyL.cons (o := ?oi123) ?hi123 (fun K hK => ?step123) AllReadyL.nil
                  case hi123 => simp only [List.getElem?_toArray, List.getElem?_cons_succ, List.getElem?_cons_zero]; rfl
                  rw [if_pos (by rfl)]
                  go_simp
                  refine hK.out _ _ ⟨(HA.out _).1, fun _ => (HA.out _).2⟩ (fun hS => ?_)
                  refine wpAnyL_ready (rs := [7]) (by kernel_rfl) (by simp) ?_
                  refine AllReadyL.cons (o := ?oi124) ?hi124 (fun K hK => ?step124) AllReadyL.nil
                  case hi124 => simp only [List.getElem?_toArray, List.getElem?_cons_succ, List.getElem?_cons_zero]; rfl
                  rw [if_pos (by rfl)]
                  refine wp_app rfl (by rfl) (by rfl) HRun.out ?_
                  refine hK.out _ _ ⟨ca6, fun h => absurd h (by decide)⟩ (fun hS => ?_)
                  simp only [Act.put, List.setIfInBounds_toArray, List.set_cons_zero, List.set_cons_succ]
                  refine wpAnyL_take (i := 8) (oi := ?oi125) (v := ?v125) ?hi125 (by kernel_rfl) ?hf125 ?hr125 (by decide) ?hQ125 (Or.inl ⟨?hw125, ?hy125⟩) (⟨hS.1, fun h => hS.2 (by first | rfl | exact h)⟩) ?rest125
                  case hi125 => simp only [List.getElem?_toArray, List.getElem?_cons_succ, List.getElem?_cons_zero]; rfl
                  case hf125 => kernel_rfl
                  case hr125 => kernel_rfl
                  case hw125 => rfl
                  case hy125 => (intro w hSw; (try dsimp only at hSw); go_simp; all_goals (first | done | with_reducible rfl))
                  case hQ125 => exact fun _ _ _ h => h
                  simp only [Act.put, List.setIfInBounds_toArray, List.set_cons_zero, List.set_cons_succ]
                  refine wpAnyL_ready (rs := [9]) (by kernel_rfl) (by simp) ?_
                  refine AllReadyL.cons (o := ?oi126) ?hi126 (fun K hK => ?step126) AllReadyL.nil
                  case hi126 => simp only [List.getElem?_toArray, List.getElem?_cons_succ, List.getElem?_cons_zero]; rfl
                  rw [if_pos (by rfl)]
                  go_simp
                  refine hK.out _ _ ⟨ca7, fun h => absurd h (by decide)⟩ (fun hS => ?_)
                  refine wpAnyL_done (by kernel_rfl) ?_ _
                  clear c0 c0d x2 x2f x2d ca6 ca7 b6 b6f
                  go_wp2_with fail
                  go_roundw
                  case rel =>
                    refine ⟨i + 1, m + 1, A5, c5, hl ++ [nk.data.toList], pi + 1, by go_num, by omega, by omega, by omega, (by show List.length _ = _; rw [List.length_append, hhl.out]; rfl), ?_, X7.out, D6.out.set (by omega), grown_at G6.out (by rw [hrb.out]; omega), (by simpa using hs6)⟩
                    exact hlG_snoc HT.out hnkv.out (by rw [← Lib.size_eq]; exact hnk)
                  case measure => simp [intOf]; omega
                · have q0 : ((k9 : Int) == 0) = false := by simp; omega
                  go_wp2_with fail
                  go_roundw
                  case rel => exact ⟨i + 1, m, A7, c7, hl, pi + 1, by go_num, by omega, by omega, by omega, hhl, hid (hlG_up HT.out), X9.out, D9.out, G9.out, hs9⟩
                  case measure => simp [intOf]; omega
              · obtain rfl : i = k := by omega
                have HL := hid (loggerAt_c (.slice A1 ln c1) ln wr.heap.size ls (⟨#[]⟩ : ByteArray) wr (rows_ls HR3.out.right.right.right hln1.out HF1.out.1))
                obtain ⟨ix, hix⟩ : ∃ ix, idxL (lnames ls) ((⟨#[]⟩ : ByteArray)).data.toList = ix := ⟨_, rfl⟩
                rw [hix] at HL
                replace hix := hid hix
                obtain ⟨o0, o0f, hol⟩ := Rows.bcell2 (pre := [_, _]) (q := 0) HR3.out rfl
                obtain ⟨y0, y0f, hyl⟩ := Rows.bcell2 (pre := [_, _, _]) (q := 0) HR3.out rfl
                go_wp2_with fail
                refine HL.out.mono ?_
                rintro e w10 ⟨rfl, hw10⟩
                obtain rfl := hw10.symm
                clear hw10
                by_cases hneg : ix < 0
                · obtain ⟨A5, c5, w6, hrun, hg6, hlo6, X6⟩ := tLgr HR3.out (Nat.le_trans (show rb ≤ bx by omega) (Nat.le_of_lt hsz3)) (by omega) (⟨#[]⟩ : ByteArray) lv st off
                  have X7 := hid (Rows.boxset (pre := []) (j := 0) (u := .slice A5 (ln + 1) c5) X6)
                  obtain ⟨x0, x1, x2, x3, x4, x5⟩ := box6 (bx := bx) (T := 56) (c0 := .string (⟨#[]⟩ : ByteArray)) (c1 := .int .i64 lv) (c2 := .slice A7 m c7) (c3 := .slice A8 fn k8) (c4 := .bool st) (c5 := .bool off) HR3.out (by simp)
                  obtain ⟨b6, b6f, _⟩ := Rows.bcell2 (pre := []) (q := 0) X6 rfl
                  have G6 := hid (grown_off HG3.out hg6 (fun z h => by rw [hrb.out]; exact hlo6 z h))
                  have D6 := hid (HD3.out.off hg6 (fun z h => Nat.lt_of_lt_of_le hlt (hlo6 z h)))
                  have hs6 : bx < w6.heap.size := Nat.lt_of_lt_of_le hsz3 hg6.size
                  have HRun := hid hrun
                  clear X6 hg6 hlo6 hrun y0 y0f
                  go_wp2_with (at_builtin; go_loud (refine wpList_run rfl rfl (by rfl) (by rfl) HRun.out ?_))
                  go_wp2_with fail
                  clear o0 o0f b6 b6f x0 x1 x2 x3 x4 x5
                  go_roundw
                  case rel =>
                    refine ⟨z - 1, _, _, ln + 1, A5, c5, ls ++ [(⟨⟨((⟨#[]⟩ : ByteArray)).data.toList, lv, hl, fl, st, off⟩, .slice A7 m c7, m, .slice A8 fn k8, fn⟩ : LgrV)], pi, by go_num, rfl, rfl, by omega, by omega, by omega, by omega, (by show List.length _ = _; rw [List.length_append, hln1.out]; rfl), ?_, X7.out.sub (List.Sublist.cons_cons _ (List.Sublist.cons _ (List.Sublist.refl _))), D6.out.set (by omega), grown_at G6.out (by rw [hrb.out]; omega), (by simpa using (show bb + 1 < w6.heap.size by omega))⟩
                    exact lsG_snoc HF1.out ⟨show List.length ([] : List UInt8) ≤ 20 from Nat.zero_le 20, ⟨by show hl.length ≤ 8; rw [hhl.out]; omega, HT.out.1⟩, ⟨by show fl.length ≤ 8; rw [hfl.out]; omega, HFt.out.1⟩⟩ ⟨(show nameOk [] = true by decide), lv_ok hv0 hv1, flts_ok HFt.out.2 (show fl.length ≤ 3 by rw [hfl.out]; omega), HT.out.2⟩ (by have h9 := hix.out; exact (idx_neg _ _).1 (by rw [h9]; exact hneg)) (fun _ => rfl)
                  case measure => simp [intOf]; omega
                · have h1n := idx_some hix.out hneg
                  rw [hln1.out] at h1n
                  go_wp2_with fail
                  go_roundw
                  case rel => exact ⟨z - 1, _, _, ln, A1, c1, ls, pi, by go_num, rfl, rfl, by omega, by omega, by omega, by omega, hln1, HF1, HR3.out.sub (List.Sublist.cons _ (List.Sublist.cons _ (List.Sublist.cons_cons _ (List.Sublist.cons _ (List.Sublist.refl _))))), HD3.out, HG3.out, by omega⟩
                  case measure => simp [intOf]; omega
          · have hl1 : decide (0 < ln) = true := decide_eq_true (by omega)
            clear hl0
            have C9 := hid (aNameG_c R (p5 + 1 + 1) _ D8.out (by omega))
            go_wp2_with fail
            generalize w7.alloc (.cells #[.string ⟨#[]⟩, .int .i64 lv, .slice none 0 0, .slice A8 fn k8, .bool st, .bool off] 56) = wc at *
            generalize hbx : w7.heap.size = bx at *
            clear hbx o0 o0w X7c
            refine C9.out.mono ?_
            rintro e w9 ⟨nm, p9, ⟨hnm, hnmo⟩, rfl, hp9, hr9, hg9⟩
            replace hnmo := hid hnmo
            have X9 := X8.out.offR hg9 hlt
            obtain ⟨o9, o9f, _⟩ := Rows.bcell2 (pre := [_, _, _]) (q := 0) X9 rfl
            have hs9 : bx < w9.heap.size := Nat.lt_of_lt_of_le hs8 hg9.size
            have XC := hid (show Rows (w9.setCell ⟨bx, 0, none⟩ (.string nm)) rb ([⟨9, 1, 0, (.slice none 0 0), ([]).map txt⟩, ⟨70, 3, fn, .slice A8 fn k8, fsCells fl⟩] ++ ([bxRow 41 3 bb [.slice A1 ln c1, .slice A2 k c2, .int .i64 q]] ++ ([bxRow 56 6 bx [.string nm, .int .i64 lv, (.slice none 0 0), .slice A8 fn k8, .bool st, .bool off], bxRow 41 3 rb [.slice none 0 0, .slice none 0 0, .int .i64 0], nmRow (bb + 1)] ++ treeRows ln (.slice A1 ln c1) ls k (.slice A2 k c2) hs))) from Rows.boxset (pre := [_, _, _]) (j := 0) (u := .string nm) X9)
            have DC := hid (hr9.set (b := bx) (j := 0) (u := .string nm) (by omega))
            have GC := hid (grown_at (b := bx) (j := 0) (u := .string nm) (grown_tr G8.out hg9) (by rw [hrb.out]; omega))
            clear hs8
            have hs8 : bx < (w9.setCell ⟨bx, 0, none⟩ (.string nm)).heap.size := by simpa using hs9
            clear X8 D8 G8 X9 hr9 hg9 C9
            go_wp2_with fail
            clear o9 o9f hs9
            generalize w9.setCell ⟨bx, 0, none⟩ (.string nm) = wd at *
            go_loopw [9] (fun iv wr => ∃ (i m : Nat) (A7 : Option Addr) (c7 : Nat) (hl : List (List UInt8)) (pi : Nat), iv = .int .i64 i ∧ i ≤ k ∧ m ≤ i ∧ pi ≤ p9 + i ∧ Hid (hl.length = m) ∧ Hid (hlG i hl) ∧ Hid (Rows wr rb ([⟨9, 1, m, (.slice A7 m c7), (hl).map txt⟩, ⟨70, 3, fn, .slice A8 fn k8, fsCells fl⟩] ++ ([bxRow 41 3 bb [.slice A1 ln c1, .slice A2 k c2, .int .i64 q]] ++ ([bxRow 56 6 bx [.string nm, .int .i64 lv, (.slice A7 m c7), .slice A8 fn k8, .bool st, .bool off], bxRow 41 3 rb [.slice none 0 0, .slice none 0 0, .int .i64 0], nmRow (bb + 1)] ++ treeRows ln (.slice A1 ln c1) ls k (.slice A2 k c2) hs)))) ∧ Hid (Rdr wr R pi) ∧ Hid (w.grownBy wr (some R)) ∧ bx < wr.heap.size) (fun iv _ => k - (intOf iv).toNat)
            case atStart => exact ⟨0, 0, none, 0, [], p9, rfl, Nat.zero_le _, Nat.le_refl _, by omega, rfl, hlG_nil, XC.out, DC.out, GC.out, hs8⟩
            case round =>
              obtain ⟨i, m, A7, c7, hl, pi, rfl, hi, hmi, hpi, hhl, HT, HR3, HD3, HG3, hsz3⟩ := hrel
              by_cases hik : i < k
              · obtain ⟨nk, hnk, hnkv, HNm⟩ := nm_cellG i (by omega)
                replace HNm := hid HNm
                replace hnkv := hid hnkv
                have C4 := hid (pick_c R pi 4 wr HD3.out (by omega) (by omega))
                go_wp2_with fail
                refine C4.out.mono ?_
                rintro e w10 ⟨k9, rfl, _, _, hr9, hg9⟩
                have X9 := hid (HR3.out.offR hg9 hlt)
                have D9 := hid hr9
                have G9 := hid (grown_tr HG3.out hg9)
                have hs9 : bx < w10.heap.size := Nat.lt_of_lt_of_le hsz3 hg9.size
                clear hr9 hg9 HR3 HD3 HG3 C4
                rcases Nat.eq_zero_or_pos k9 with hk9 | hk9
                · subst hk9
                  obtain ⟨c0, hnl⟩ := HNm.out (bb + 1) _ _ _ X9.out (by simp)
                  obtain ⟨x2, x2f, hxl⟩ := Rows.bcell2 (pre := [_, _, _]) (q := 2) X9.out rfl
                  have c0d : w10.drew.cell? ⟨bb + 1, i, none⟩ = some (.string nk) := c0
                  have x2d : w10.drew.cell? ⟨bx, 2, none⟩ = some (.slice A7 m c7) := x2
                  have HA := hid (fun o => And.intro (show (w10.drew.alloc o).cell? ⟨bb + 1, i, none⟩ = some (.string nk) from (World.cell?_alloc_past _ _ _ hnl).trans c0d) (show (w10.drew.alloc o).cell? ⟨bx, 2, none⟩ = some (.slice A7 m c7) from (World.cell?_alloc_past _ _ _ hxl).trans x2d))
                  have s0 : (0 : Int) ≤ (i : Int) := by omega
                  have s1 : (i : Int) < 6 := by omega
                  have s2 : ((i : Int)).toNat = i := by simp
                  obtain ⟨A5, c5, w6, hrun, hg6, hlo6, X6⟩ := tTxt X9.out.dr (show rb ≤ w10.drew.heap.size from by show rb ≤ w10.heap.size; omega) (by omega) nk
                  have X7 := hid (Rows.boxset (pre := [_, _, _]) (j := 2) (u := .slice A5 (m + 1) c5) X6)
                  have ca6 := (HNm.out (bb + 1) _ _ _ X6 (by simp)).1
                  have ca7 := (HNm.out (bb + 1) _ _ _ X7.out (by simp)).1
                  obtain ⟨b6, b6f, _⟩ := Rows.bcell2 (pre := [_, _, _]) (q := 2) X6 rfl
                  have G6 := hid (grown_off (grown_drN G9.out 1) hg6 (fun z h => by rw [hrb.out]; exact hlo6 z h))
                  have D6 := hid ((D9.out.below (Below.refl _ _).drew).off hg6 (fun z h => Nat.lt_of_lt_of_le hlt (hlo6 z h)))
                  have hs6 : bx < w6.heap.size := Nat.lt_of_lt_of_le hs9 hg6.size
                  have HRun := hid hrun
                  clear X6 hg6 hlo6 hrun
                  go_wp2_with fail
                  refine wp_region_let 7 (fun w' : World => w'.cell? ⟨bb + 1, i, none⟩ = some (.string nk)) (fun w' : World => w'.cell? ⟨bx, 2, none⟩ = some (.slice A7 m c7)) (by kernel_rfl) c0d x2d (fun hS => ?_)
                  refine wpAnyL_take (i := 0) (oi := ?oi127) (v := ?v127) ?hi127 (by kernel_rfl) ?hf127 ?hr127 (by decide) ?hQ127 (Or.inl ⟨?hw127, ?hy127⟩) (⟨hS.1, fun h => hS.2 (by first | rfl | exact h)⟩) ?rest127
                  case hi127 => simp only [List.getElem?_toArray, List.getElem?_cons_succ, List.getElem?_cons_zero]; rfl
                  case hf127 => kernel_rfl
                  case hr127 => kernel_rfl
                  case hw127 => rfl
                  case hy127 => (intro w hSw; (try dsimp only at hSw); go_simp; all_goals (first | done | with_reducible rfl))
                  case hQ127 => exact fun _ _ _ h => h
                  simp only [Act.put, List.setIfInBounds_toArray, List.set_cons_zero, List.set_cons_succ]
                  refine wpAnyL_take (i := 2) (oi := ?oi128) (v := ?v128) ?hi128 (by kernel_rfl) ?hf128 ?hr128 (by decide) ?hQ128 (Or.inl ⟨?hw128, ?hy128⟩) (⟨hS.1, fun h => hS.2 (by first | rfl | exact h)⟩) ?rest128
                  case hi128 => simp only [List.getElem?_toArray, List.getElem?_cons_succ, List.getElem?_cons_zero]; rfl
                  case hf128 => kernel_rfl
                  case hr128 => kernel_rfl
                  case hw128 => rfl
                  case hy128 => (intro w hSw; (try dsimp only at hSw); go_simp; all_goals (first | done | with_reducible rfl))
                  case hQ128 => exact fun _ _ _ h => h
                  simp only [Act.put, List.setIfInBounds_toArray, List.set_cons_zero, List.set_cons_succ]
                  refine wpAnyL_take (i := 3) (oi := ?oi129) (v := ?v129) ?hi129 (by kernel_rfl) ?hf129 ?hr129 (by decide) ?hQ129 (Or.inl ⟨?hw129, ?hy129⟩) (⟨hS.1, fun h => hS.2 (by first | rfl | exact h)⟩) ?rest129
                  case hi129 => simp only [List.getElem?_toArray, List.getElem?_cons_succ, List.getElem?_cons_zero]; rfl
                  case hf129 => kernel_rfl
                  case hr129 => kernel_rfl
                  case hw129 => rfl
                  case hy129 => (intro w hSw; (try dsimp only at hSw); go_simp; all_goals (first | done | with_reducible rfl))
                  case hQ129 => exact fun _ _ _ h => h
                  simp only [Act.put, List.setIfInBounds_toArray, List.set_cons_zero, List.set_cons_succ]
                  refine wpAnyL_take (i := 4) (oi := ?oi130) (v := ?v130) ?hi130 (by kernel_rfl) ?hf130 ?hr130 (by decide) ?hQ130 (Or.inl ⟨?hw130, ?hy130⟩) (⟨hS.1, fun h => hS.2 (by first | rfl | exact h)⟩) ?rest130
                  case hi130 => simp only [List.getElem?_toArray, List.getElem?_cons_succ, List.getElem?_cons_zero]; rfl
                  case hf130 => kernel_rfl
                  case hr130 => kernel_rfl
                  case hw130 => rfl
                  case hy130 => (intro w hSw; (try dsimp only at hSw); go_simp; all_goals (first | done | with_reducible rfl))
                  case hQ130 => exact fun _ _ _ h => h
                  simp only [Act.put, List.setIfInBounds_toArray, List.set_cons_zero, List.set_cons_succ]
                  refine wpAnyL_take (i := 5) (oi := ?oi131) (v := ?v131) ?hi131 (by kernel_rfl) ?hf131 ?hr131 (by decide) ?hQ131 (Or.inl ⟨?hw131, ?hy131⟩) (⟨hS.1, fun h => hS.2 (by first | rfl | exact h)⟩) ?rest131
                  case hi131 => simp only [List.getElem?_toArray, List.getElem?_cons_succ, List.getElem?_cons_zero]; rfl
                  case hf131 => kernel_rfl
                  case hr131 => kernel_rfl
                  case hw131 => rfl
                  case hy131 => (intro w hSw; (try dsimp only at hSw); go_simp; all_goals (first | done | with_reducible rfl))
                  case hQ131 => exact fun _ _ _ h => h
                  simp only [Act.put, List.setIfInBounds_toArray, List.set_cons_zero, List.set_cons_succ]
                  refine wpAnyL_take1 (i := 1) (oi := ?oi132) (om := ?om132) (v := ?v132) ?hi132 (by kernel_rfl) ?hf132 ?hr132 (by decide) ?hm132 ?hd132 (by rfl) ?hQ132 (Or.inl ⟨?hw132, ?hy132⟩) (⟨hS.1, fun h => hS.2 (by first | rfl | exact h)⟩) ?rest132
                  case hi132 => simp only [List.getElem?_toArray, List.getElem?_cons_succ, List.getElem?_cons_zero]; rfl
                  case hm132 => simp only [List.getElem?_toArray, List.getElem?_cons_succ, List.getElem?_cons_zero]; rfl
                  case hd132 => kernel_rfl
                  case hf132 => kernel_rfl
                  case hr132 => kernel_rfl
                  case hw132 => rfl
                  case hy132 => (intro w hSw; (try dsimp only at hSw); go_simp; all_goals (first | done | with_reducible rfl))
                  case hQ132 => exact fun _ _ _ h => h
                  simp only [Act.put, List.setIfInBounds_toArray, List.set_cons_zero, List.set_cons_succ]
                  refine wpAnyL_ready (rs := [6]) (by kernel_rfl) (by simp) ?_
                  refine AllReadyL.cons (o := ?oi133) ?hi133 (fun K hK => ?step133) AllReadyL.nil
                  case hi133 => simp only [List.getElem?_toArray, List.getElem?_cons_succ, List.getElem?_cons_zero]; rfl
                  rw [if_pos (by rfl)]
                  go_simp
                  refine hK.out _ _ ⟨(HA.out _).1, fun _ => (HA.out _).2⟩ (fun hS => ?_)
                  refine wpAnyL_ready (rs := [7]) (by kernel_rfl) (by simp) ?_
                  refine AllReadyL.cons (o := ?oi134) ?hi134 (fun K hK => ?step134) AllReadyL.nil
                  case hi134 => simp only [List.getElem?_toArray, List.getElem?_cons_succ, List.getElem?_cons_zero]; rfl
                  rw [if_pos (by rfl)]
                  refine wp_app rfl (by rfl) (by rfl) HRun.out ?_
                  refine hK.out _ _ ⟨ca6, fun h => absurd h (by decide)⟩ (fun hS => ?_)
                  simp only [Act.put, List.setIfInBounds_toArray, List.set_cons_zero, List.set_cons_succ]
                  refine wpAnyL_take (i := 8) (oi := ?oi135) (v := ?v135) ?hi135 (by kernel_rfl) ?hf135 ?hr135 (by decide) ?hQ135 (Or.inl ⟨?hw135, ?hy135⟩) (⟨hS.1, fun h => hS.2 (by first | rfl | exact h)⟩) ?rest135
                  case hi135 => simp only [List.getElem?_toArray, List.getElem?_cons_succ, List.getElem?_cons_zero]; rfl
                  case hf135 => kernel_rfl
                  case hr135 => kernel_rfl
                  case hw135 => rfl
                  case hy135 => (intro w hSw; (try dsimp only at hSw); go_simp; all_goals (first | done | with_reducible rfl))
                  case hQ135 => exact fun _ _ _ h => h
                  simp only [Act.put, List.setIfInBounds_toArray, List.set_cons_zero, List.set_cons_succ]
                  refine wpAnyL_ready (rs := [9]) (by kernel_rfl) (by simp) ?_
                  refine AllReadyL.cons (o := ?oi136) ?hi136 (fun K hK => ?step136) AllReadyL.nil
                  case hi136 => simp only [List.getElem?_toArray, List.getElem?_cons_succ, List.getElem?_cons_zero]; rfl
                  rw [if_pos (by rfl)]
                  go_simp
                  refine hK.out _ _ ⟨ca7, fun h => absurd h (by decide)⟩ (fun hS => ?_)
                  refine wpAnyL_done (by kernel_rfl) ?_ _
                  clear c0 c0d x2 x2f x2d ca6 ca7 b6 b6f
                  go_wp2_with fail
                  go_roundw
                  case rel =>
                    refine ⟨i + 1, m + 1, A5, c5, hl ++ [nk.data.toList], pi + 1, by go_num, by omega, by omega, by omega, (by show List.length _ = _; rw [List.length_append, hhl.out]; rfl), ?_, X7.out, D6.out.set (by omega), grown_at G6.out (by rw [hrb.out]; omega), (by simpa using hs6)⟩
                    exact hlG_snoc HT.out hnkv.out (by rw [← Lib.size_eq]; exact hnk)
                  case measure => simp [intOf]; omega
                · have q0 : ((k9 : Int) == 0) = false := by simp; omega
                  go_wp2_with fail
                  go_roundw
                  case rel => exact ⟨i + 1, m, A7, c7, hl, pi + 1, by go_num, by omega, by omega, by omega, hhl, hid (hlG_up HT.out), X9.out, D9.out, G9.out, hs9⟩
                  case measure => simp [intOf]; omega
              · obtain rfl : i = k := by omega
                have HL := hid (loggerAt_c (.slice A1 ln c1) ln wr.heap.size ls nm wr (rows_ls HR3.out.right.right.right hln1.out HF1.out.1))
                obtain ⟨ix, hix⟩ : ∃ ix, idxL (lnames ls) (nm).data.toList = ix := ⟨_, rfl⟩
                rw [hix] at HL
                replace hix := hid hix
                obtain ⟨o0, o0f, hol⟩ := Rows.bcell2 (pre := [_, _]) (q := 0) HR3.out rfl
                obtain ⟨y0, y0f, hyl⟩ := Rows.bcell2 (pre := [_, _, _]) (q := 0) HR3.out rfl
                go_wp2_with fail
                refine HL.out.mono ?_
                rintro e w10 ⟨rfl, hw10⟩
                obtain rfl := hw10.symm
                clear hw10
                by_cases hneg : ix < 0
                · obtain ⟨A5, c5, w6, hrun, hg6, hlo6, X6⟩ := tLgr HR3.out (Nat.le_trans (show rb ≤ bx by omega) (Nat.le_of_lt hsz3)) (by omega) nm lv st off
                  have X7 := hid (Rows.boxset (pre := []) (j := 0) (u := .slice A5 (ln + 1) c5) X6)
                  obtain ⟨x0, x1, x2, x3, x4, x5⟩ := box6 (bx := bx) (T := 56) (c0 := .string nm) (c1 := .int .i64 lv) (c2 := .slice A7 m c7) (c3 := .slice A8 fn k8) (c4 := .bool st) (c5 := .bool off) HR3.out (by simp)
                  obtain ⟨b6, b6f, _⟩ := Rows.bcell2 (pre := []) (q := 0) X6 rfl
                  have G6 := hid (grown_off HG3.out hg6 (fun z h => by rw [hrb.out]; exact hlo6 z h))
                  have D6 := hid (HD3.out.off hg6 (fun z h => Nat.lt_of_lt_of_le hlt (hlo6 z h)))
                  have hs6 : bx < w6.heap.size := Nat.lt_of_lt_of_le hsz3 hg6.size
                  have HRun := hid hrun
                  clear X6 hg6 hlo6 hrun y0 y0f
                  go_wp2_with (at_builtin; go_loud (refine wpList_run rfl rfl (by rfl) (by rfl) HRun.out ?_))
                  go_wp2_with fail
                  clear o0 o0f b6 b6f x0 x1 x2 x3 x4 x5
                  go_roundw
                  case rel =>
                    refine ⟨z - 1, _, _, ln + 1, A5, c5, ls ++ [(⟨⟨(nm).data.toList, lv, hl, fl, st, off⟩, .slice A7 m c7, m, .slice A8 fn k8, fn⟩ : LgrV)], pi, by go_num, rfl, rfl, by omega, by omega, by omega, by omega, (by show List.length _ = _; rw [List.length_append, hln1.out]; rfl), ?_, X7.out.sub (List.Sublist.cons_cons _ (List.Sublist.cons _ (List.Sublist.refl _))), D6.out.set (by omega), grown_at G6.out (by rw [hrb.out]; omega), (by simpa using (show bb + 1 < w6.heap.size by omega))⟩
                    exact lsG_snoc HF1.out ⟨by rw [← Lib.size_eq]; omega, ⟨by show hl.length ≤ 8; rw [hhl.out]; omega, HT.out.1⟩, ⟨by show fl.length ≤ 8; rw [hfl.out]; omega, HFt.out.1⟩⟩ ⟨hnmo.out, lv_ok hv0 hv1, flts_ok HFt.out.2 (show fl.length ≤ 3 by rw [hfl.out]; omega), HT.out.2⟩ (by have h9 := hix.out; exact (idx_neg _ _).1 (by rw [h9]; exact hneg)) (fun h => absurd (show ln = 0 by rw [← hln1.out, h]; rfl) (by have := of_decide_eq_true hl1; omega))
                  case measure => simp [intOf]; omega
                · have h1n := idx_some hix.out hneg
                  rw [hln1.out] at h1n
                  go_wp2_with fail
                  go_roundw
                  case rel => exact ⟨z - 1, _, _, ln, A1, c1, ls, pi, by go_num, rfl, rfl, by omega, by omega, by omega, by omega, hln1, HF1, HR3.out.sub (List.Sublist.cons _ (List.Sublist.cons _ (List.Sublist.cons_cons _ (List.Sublist.cons _ (List.Sublist.refl _))))), HD3.out, HG3.out, by omega⟩
                  case measure => simp [intOf]; omega
        · obtain rfl : z = 0 := by omega
          obtain ⟨b0, b0f, _⟩ := Rows.bcell2 (pre := []) (q := 0) HR.out rfl
          obtain ⟨b1, b1f, _⟩ := Rows.bcell2 (pre := []) (q := 1) HR.out rfl
          obtain ⟨b2, b2f, _⟩ := Rows.bcell2 (pre := []) (q := 2) HR.out rfl
          obtain ⟨l0, h0, _⟩ := Rows.bcell2 (pre := [_]) (q := 0) HR.out rfl
          obtain ⟨l1, h1, _⟩ := Rows.bcell2 (pre := [_]) (q := 1) HR.out rfl
          obtain ⟨l2, h2, _⟩ := Rows.bcell2 (pre := [_]) (q := 2) HR.out rfl
          go_wp2_with fail
          have Y1 := Rows.boxset (pre := [_]) (j := 0) (u := .slice A1 ln c1) HR.out
          have Y2 := Rows.boxset (pre := [_]) (j := 1) (u := .slice A2 k c2) Y1
          have Y3 := Rows.boxset (pre := [_]) (j := 2) (u := .int .i64 q) Y2
          have f0 := (Rows.bcell2 (pre := [_]) (q := 0) Y3 rfl).1
          have f1 := (Rows.bcell2 (pre := [_]) (q := 1) Y3 rfl).1
          have f2 := (Rows.bcell2 (pre := [_]) (q := 2) Y3 rfl).1
          refine bodyPost_ret (v := .agg #[.slice A1 ln c1, .slice A2 k c2, .int .i64 q]) (by simp [results, Try.results10, go_sem, f0, f1, f2]) rfl ?_
          have hll : (lsOf ls).length = ln := by rw [← hln1.out]; simp [lsOf]
          have hhh : (hsOf hs).length = k := by rw [← hln.out]; simp [hsOf]
          refine ⟨_, treeRows ln (.slice A1 ln c1) ls k (.slice A2 k c2) hs, lsOf ls, hsOf hs, q, pp, rfl, ⟨_, _, ls, hs, rfl, rfl, rfl, by rw [hln1.out, hln.out]⟩, ⟨by omega, ⟨by omega, fun l hl => ?_⟩, ⟨by omega, fun x hx => ?_⟩⟩, treeG_ok (lv_ok hq0 hq1) HF.out hln.out (by omega) HF1.out (by rw [hln1.out]; omega) (by rw [hln1.out]; omega), ?_, by omega, ((HD.out.set (b := rb) (j := 0) (u := .slice A1 ln c1) hlt).set (b := rb) (j := 1) (u := .slice A2 k c2) hlt).set (b := rb) (j := 2) (u := .int .i64 q) hlt, grown_at (b := rb) (j := 2) (u := .int .i64 q) (grown_at (b := rb) (j := 1) (u := .slice A2 k c2) (grown_at (b := rb) (j := 0) (u := .slice A1 ln c1) HG.out (by rw [hrb.out]; exact Nat.le_refl _)) (by rw [hrb.out]; exact Nat.le_refl _)) (by rw [hrb.out]; exact Nat.le_refl _)⟩
          · obtain ⟨x, hx, rfl⟩ := List.mem_map.1 hl; exact HF1.out.1 x hx
          · obtain ⟨y, hy, rfl⟩ := List.mem_map.1 hx; exact HF.out.1 y hy
          · rw [hrb.out]
            exact Y3.sub (List.Sublist.cons _ (List.Sublist.cons _ (List.Sublist.cons _ (List.Sublist.refl _))))

end Go.Proofs.Ytihigemelekflaa
