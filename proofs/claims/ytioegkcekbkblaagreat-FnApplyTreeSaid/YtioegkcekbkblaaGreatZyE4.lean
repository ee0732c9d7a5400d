/-
  DRAWS: a tree that may be invalid. By gen_e4.py.
-/
import Derived.Test.YtioegkcekbkblaaGreatZyE3
namespace Go.Proofs.YtioegkcekbkblaaGreat
open Go.RowKit Nm
set_option linter.unusedSimpArgs false
set_option linter.unusedVariables false

/-- the sub-rows of one logger stand as they should: the cell that names them is stored -/
theorem tCell {w : World} {lo g ln c1 n2 j : Nat} {v2 u : Value} {pre : List Row} {a b : List LgrV} {x y : LgrV} {hs : List HndV}
    (h : Rows w lo (pre ++ (lsRow ln (.slice (some ⟨g, 0, none⟩) ln c1) (a ++ x :: b) :: (a.flatMap lrows ++ (lrows y ++ (b.flatMap lrows ++ (hsRow n2 v2 hs :: hs.flatMap hrows))))))) (hj : j < 6) (hy : lcells y = (lcells x).set j u) :
    Rows (w.setCell ⟨g, a.length * 6 + j, none⟩ u) lo (pre ++ treeRows ln (.slice (some ⟨g, 0, none⟩) ln c1) (a ++ y :: b) n2 v2 hs) := by
  have ho : w.ownsRow lo 72 6 (.slice (some ⟨g, 0, none⟩) ln c1) ln ((a ++ x :: b).flatMap lcells) := h.1 (lsRow ln (.slice (some ⟨g, 0, none⟩) ln c1) (a ++ x :: b)) (by simp)
  have hs := ho.stored (a.length * 6 + j) u
  have h1 := Rows.write (r := lsRow ln (.slice (some ⟨g, 0, none⟩) ln c1) (a ++ x :: b)) h hs.2 hs.1
  have hx : (a ++ x :: b)[a.length]? = some x := by simp
  have e := flat_set lcells 6 lcells_len (a ++ x :: b) a.length j x y u hx hj hy
  have e2 : (a ++ x :: b).set a.length y = a ++ y :: b := by simp
  rw [e2] at e
  have e3 : (a ++ y :: b).flatMap lrows = a.flatMap lrows ++ (lrows y ++ b.flatMap lrows) := by simp
  rw [treeRows, e3, lsRow, ← e]
  simpa [lsRow] using h1
theorem cellOf {w : World} {lo g ln c1 j : Nat} {u : Value} {rs : List Row} {a b : List LgrV} {x : LgrV} (h : Rows w lo rs) (hm : lsRow ln (.slice (some ⟨g, 0, none⟩) ln c1) (a ++ x :: b) ∈ rs) (hj : j < 6) (hu : (lcells x)[j]? = some u) :
    w.cell? ⟨g, a.length * 6 + j, none⟩ = some u ∧ w.frozen? ⟨g, a.length * 6 + j, none⟩ = false ∧ g < w.heap.size := by
  have ho : w.ownsRow lo 72 6 (.slice (some ⟨g, 0, none⟩) ln c1) ln ((a ++ x :: b).flatMap lcells) := h.1 _ hm
  have hlen := Sl.count lcells_len (Sl.of_own ho) (by omega)
  simp only [List.length_append, List.length_cons] at hlen
  have hx : (a ++ x :: b)[a.length]? = some x := by simp
  have e := flat_at lcells 6 lcells_len (a ++ x :: b) a.length j x hx hj
  refine ⟨(ho.cellAt (a.length * 6 + j) (by omega)).trans (e.trans hu), ho.frozenAt _, (ho.lt g rfl).2⟩
theorem split_at {α : Type} (l : List α) (k : Nat) (h : k < l.length) : ∃ a x b, l = a ++ x :: b ∧ a.length = k :=
  ⟨l.take k, l[k], l.drop (k + 1), by rw [← List.drop_eq_getElem_cons h, List.take_append_drop], by simp; omega⟩
theorem treeRows_mid (ln : Nat) (v1 : Value) (a : List LgrV) (x : LgrV) (b : List LgrV) (n2 : Nat) (v2 : Value) (hs : List HndV) :
    treeRows ln v1 (a ++ x :: b) n2 v2 hs = lsRow ln v1 (a ++ x :: b) :: (a.flatMap lrows ++ (lrows x ++ (b.flatMap lrows ++ (hsRow n2 v2 hs :: hs.flatMap hrows)))) := by simp [treeRows]
/-- the handlers of one logger grow -/
theorem tSub {w : World} {lo k7 hn n2 : Nat} {A7 : Option Addr} {v2 : Value} {a b : List LgrV} {l : Lgr} {fv : Value} {fn : Nat} {ls0 : List LgrV} {hs : List HndV} {pre : List Row} {ln : Nat} {v1 : Value}
    (h : Rows w lo (pre ++ (lsRow ln v1 ls0 :: (a.flatMap lrows ++ (lrows ⟨l, .slice A7 hn k7, hn, fv, fn⟩ ++ (b.flatMap lrows ++ (hsRow n2 v2 hs :: hs.flatMap hrows))))))) (hlo : lo ≤ w.heap.size) (hm : hn ≤ 1000) (nk : ByteArray) :
    ∃ A5 c5 w', (Builtin.append_ #[62, 62] 62 #[.slice A7 hn k7, .slice (some ⟨w.heap.size, 0, none⟩) 1 1]).run Tryz.prog (w.alloc (.cells #[.string nk] 9)) = .ok (.slice A5 (hn + 1) c5) w' ∧
      w.grownBy w' (Value.slice A7 hn k7).ownBlock ∧ (∀ z, (Value.slice A7 hn k7).ownBlock = some z → lo ≤ z) ∧
      Rows w' lo (pre ++ (lsRow ln v1 ls0 :: (a.flatMap lrows ++ (lrows ⟨{ l with hs := l.hs ++ [nk.data.toList] }, .slice A5 (hn + 1) c5, hn + 1, fv, fn⟩ ++ (b.flatMap lrows ++ (hsRow n2 v2 hs :: hs.flatMap hrows)))))) := by
  have h0 : Rows w lo ([⟨9, 1, hn, .slice A7 hn k7, l.hs.map txt⟩] ++ ((pre ++ (lsRow ln v1 ls0 :: a.flatMap lrows)) ++ (⟨99, 3, fn, fv, fsCells l.fs⟩ :: (b.flatMap lrows ++ (hsRow n2 v2 hs :: hs.flatMap hrows))))) := by
    refine h.perm ?_
    have := perm_in [⟨9, 1, hn, .slice A7 hn k7, l.hs.map txt⟩] (pre ++ (lsRow ln v1 ls0 :: a.flatMap lrows)) (⟨99, 3, fn, fv, fsCells l.fs⟩ :: (b.flatMap lrows ++ (hsRow n2 v2 hs :: hs.flatMap hrows)))
    simpa [lrows] using this.symm
  obtain ⟨A5, c5, w', hrun, hg, hz, hR⟩ := tTxt h0 hlo hm nk
  refine ⟨A5, c5, w', hrun, hg, hz, ?_⟩
  refine hR.perm ?_
  have := perm_in [⟨9, 1, hn + 1, .slice A5 (hn + 1) c5, (l.hs ++ [nk.data.toList]).map txt⟩] (pre ++ (lsRow ln v1 ls0 :: a.flatMap lrows)) (⟨99, 3, fn, fv, fsCells l.fs⟩ :: (b.flatMap lrows ++ (hsRow n2 v2 hs :: hs.flatMap hrows)))
  simpa [lrows] using this
/-- the filters of one logger are others -/
theorem tFlt {w : World} {lo n2 fn' ln : Nat} {v1 v2 fv' : Value} {a b : List LgrV} {x : LgrV} {hs : List HndV} {pre : List Row} {fl : List Flt} {ls0 : List LgrV}
    (h : Rows w lo ([⟨99, 3, fn', fv', fsCells fl⟩] ++ (pre ++ (lsRow ln v1 ls0 :: (a.flatMap lrows ++ (lrows x ++ (b.flatMap lrows ++ (hsRow n2 v2 hs :: hs.flatMap hrows)))))))) :
    Rows w lo (pre ++ (lsRow ln v1 ls0 :: (a.flatMap lrows ++ (lrows { x with l := { x.l with fs := fl }, fv := fv', fn := fn' } ++ (b.flatMap lrows ++ (hsRow n2 v2 hs :: hs.flatMap hrows)))))) := by
  have h1 : Rows w lo ([⟨99, 3, fn', fv', fsCells fl⟩] ++ (pre ++ (lsRow ln v1 ls0 :: (a.flatMap lrows ++ ([⟨9, 1, x.hn, x.hv, x.l.hs.map txt⟩] ++ (b.flatMap lrows ++ (hsRow n2 v2 hs :: hs.flatMap hrows))))))) :=
    h.sub ((List.Sublist.refl _).append ((List.Sublist.refl _).append (List.Sublist.cons_cons _ ((List.Sublist.refl _).append (List.Sublist.append (List.Sublist.cons_cons _ (List.nil_sublist _)) (List.Sublist.refl _))))))
  refine h1.perm ?_
  have := perm_in [⟨99, 3, fn', fv', fsCells fl⟩] (pre ++ (lsRow ln v1 ls0 :: (a.flatMap lrows ++ [⟨9, 1, x.hn, x.hv, x.l.hs.map txt⟩]))) (b.flatMap lrows ++ (hsRow n2 v2 hs :: hs.flatMap hrows))
  simpa [lrows] using this
theorem sm_mid {m : Nat} {a b : List LgrV} {x y : LgrV} (h : ∀ z ∈ a ++ x :: b, lgrSm m z.l) (hy : lgrSm m y.l) : ∀ z ∈ a ++ y :: b, lgrSm m z.l := by
  intro z hz
  rcases List.mem_append.1 hz with hz | hz
  · exact h z (by simp [hz])
  · rcases List.mem_cons.1 hz with rfl | hz
    · exact hy
    · exact h z (by simp [hz])

set_option maxHeartbeats 16000000 in
set_option maxRecDepth 100000 in
theorem someTree_c (R p : Nat) (w : World) (hr : Rdr w R p) (hp : p ≤ 400000) :
    Calls Tryz.prog 57 #[.pointer (some ⟨R, 0, none⟩)] w (TreeDraw 9 R p 450 w) := by
  have hlt := hr.lt
  have HZ := hid (show Rows (w.alloc (.cells #[.slice none 0 0, .slice none 0 0, .int .i64 0] 26)) w.heap.size [bxRow 26 3 w.heap.size [.slice none 0 0, .slice none 0 0, .int .i64 0]] from Rows.box w #[.slice none 0 0, .slice none 0 0, .int .i64 0] 26 3 rfl)
  have C := hid (goodTree_c R p (w.alloc (.cells #[.slice none 0 0, .slice none 0 0, .int .i64 0] 26)) (hr.below ((Below.refl _ _).alloc (Nat.le_refl _) _)) (by omega))
  have G0 := hid (show w.grownBy (w.alloc (.cells #[.slice none 0 0, .slice none 0 0, .int .i64 0] 26)) (some R) from World.grownBy_alloc w _ _)
  clear hr
  go_enter Tryz.func57, Tryz.ntmps57
  go_wp2_with fail
  refine C.out.mono ?_
  rintro e w1 ⟨_, _, L, H, q, p1, rfl, ⟨v1, v2, ls, hs, rfl, rfl, rfl, rfl⟩, ⟨hL1, ⟨hL8, hF⟩, hH8, hFH⟩, hR1, hp1, hr1, hg1⟩
  have hlen : (lsOf ls).length = ls.length := by simp [lsOf]
  have hlenh : (hsOf hs).length = hs.length := by simp [hsOf]
  have HF8 := hid (show ∀ x ∈ ls, lgrSm 8 x.l from fun x hx => hF x.l (List.mem_map.2 ⟨x, hx, rfl⟩))
  have HF := hid (show ∀ x ∈ ls, lgrSm 9 x.l from fun x hx => (HF8.out x hx).up (by omega))
  have HFH := hid (show ∀ x ∈ hs, hndSm 9 x.h from fun x hx => (hFH x.h (List.mem_map.2 ⟨x, hx, rfl⟩)).up (by omega))
  rw [hlen] at hL1 hL8
  rw [hlenh] at hH8
  clear hF hFH hlen hlenh
  obtain ⟨A1, c1, rfl, _, _⟩ := (Sl.of_own (show w1.ownsRow _ 72 6 v1 ls.length (ls.flatMap lcells) from hR1.left.head)).form
  obtain ⟨A2, c2, rfl, _, _⟩ := (Sl.of_own (show w1.ownsRow _ 47 3 v2 hs.length (hs.flatMap hcells) from hR1.right.head)).form
  have hA1 : ∃ g, A1 = some ⟨g, 0, none⟩ ∧ g < w1.heap.size := own_some (show w1.ownsRow _ 72 6 (.slice A1 ls.length c1) ls.length (ls.flatMap lcells) from hR1.left.head) hL1
  obtain ⟨g, rfl, hgl⟩ := hA1
  have hs0 : w.heap.size < w1.heap.size := by have := hg1.size; simp at this; omega
  have hgb : w.heap.size + 1 ≤ g := by have := own_lt (show w1.ownsRow _ 72 6 (.slice (some ⟨g, 0, none⟩) ls.length c1) ls.length (ls.flatMap lcells) from hR1.left.head) g rfl; simpa using this
  have X1 := HZ.out.newerR hg1 hlt hR1 (by simp)
  have X2 := (X1.newer ((Below.refl w1.heap.size w1).alloc (Nat.le_refl _) (.cells #[.slice (some ⟨g, 0, none⟩) ls.length c1, .slice A2 hs.length c2, .int .i64 q] 26)) (Rows.box w1 #[.slice (some ⟨g, 0, none⟩) ls.length c1, .slice A2 hs.length c2, .int .i64 q] 26 3 rfl) (Nat.le_of_lt hs0)).perm (List.Perm.append_left _ List.perm_append_comm)
  have G2 := hid (grown_new (grown_tr G0.out hg1) ((Below.refl w1.heap.size w1).alloc (Nat.le_refl _) (.cells #[.slice (some ⟨g, 0, none⟩) ls.length c1, .slice A2 hs.length c2, .int .i64 q] 26)))
  have D2 := (hr1.below ((Below.refl _ _).alloc (Nat.le_refl _) (.cells #[.slice (some ⟨g, 0, none⟩) ls.length c1, .slice A2 hs.length c2, .int .i64 q] 26)))
  generalize hln : ls.length = ln at *
  generalize hkn : hs.length = n2 at *
  replace hln := hid hln
  replace hkn := hid hkn
  have C2 := hid (pick_c R p1 ln _ D2 (by omega) (by omega))
  have hs2 : w1.heap.size < (w1.alloc (.cells #[.slice (some ⟨g, 0, none⟩) ln c1, .slice A2 n2 c2, .int .i64 q] 26)).heap.size := by simp
  obtain ⟨b0, b0f, hbl⟩ := Rows.bcell2 (pre := []) (q := 0) X2 rfl
  replace X2 := hid X2
  clear hR1 hr1 hg1 X1 D2 HZ G0 C
  go_wp2_with fail
  generalize hbb : w1.heap.size = bb at *
  generalize hrb : w.heap.size = rb at *
  replace hrb := hid hrb
  generalize w1.alloc (.cells #[.slice (some ⟨g, 0, none⟩) ln c1, .slice A2 n2 c2, .int .i64 q] 26) = w2 at *
  clear hbb
  refine C2.out.mono ?_
  rintro e w3 ⟨k, rfl, hk1, _, hr3, hg3⟩
  have hk : k < ln := by have := hk1 (by omega); omega
  have X3 := hid (X2.out.offR hg3 hlt)
  have G3 := hid (grown_tr G2.out hg3)
  have hs3 : bb < w3.heap.size := Nat.lt_of_lt_of_le hs2 hg3.size
  have C3 := hid (pick_c R (p1 + 1) 30 w3 hr3 (by omega) (by omega))
  clear hk1 hr3 hg3 X2 G2 C2 hs2 b0 b0f hbl
  go_wp2_with fail
  refine C3.out.mono ?_
  rintro e w4 ⟨s, rfl, _, _, hr4, hg4⟩
  have X4 := hid (X3.out.offR hg4 hlt)
  have G4 := hid (grown_tr G3.out hg4)
  have D4 := hid hr4
  have hs4 : bb < w4.heap.size := Nat.lt_of_lt_of_le hs3 hg4.size
  clear hr4 hg4 X3 G3 C3 hs3
  obtain ⟨a, x, b, rfl, hak⟩ := split_at ls k (by rw [hln.out]; exact hk)
  obtain ⟨b0, b0f, hbl⟩ := Rows.bcell2 (pre := []) (q := 0) X4.out rfl
  have s0 : (0 : Int) ≤ (k : Int) := by omega
  have s1 : (k : Int) < (ln : Int) := by omega
  have s2 : ((k : Int)).toNat = k := by simp
  rcases (show s = 0 ∨ s = 1 ∨ s = 2 ∨ s = 3 ∨ s = 4 ∨ s = 5 ∨ 6 ≤ s by omega) with rfl | rfl | rfl | rfl | rfl | rfl | hs6
  · have C5 := hid (anyName_c R (p1 + 1 + 1) w4.drew (D4.out.below (Below.refl _ _).drew) (by omega))
    have b0d : w4.drew.cell? ⟨bb, 0, none⟩ = some (.slice (some ⟨g, 0, none⟩) ln c1) := b0
    go_wp2_with fail
    refine wp_region_held_drew (S := (fun w' : World => w'.cell? ⟨bb, 0, none⟩ = some (.slice (some ⟨g, 0, none⟩) ln c1))) (by kernel_rfl) b0d (fun hS => ?_)
    refine wpAnyH_take (i := 0) (oi := ?oi101) (v := ?v101) ?hi101 (by kernel_rfl) ?hf101 ?hr101 ?hQ101 (Or.inl ⟨?hw101, ?hy101⟩) (by assumption) ?rest101
    case hi101 => simp only [List.getElem?_toArray, List.getElem?_cons_succ, List.getElem?_cons_zero]; rfl
    case hf101 => kernel_rfl
    case hr101 => kernel_rfl
    case hw101 => rfl
    case hy101 => (intro w hSw; (try dsimp only at hSw); go_simp; all_goals (first | done | with_reducible rfl))
    case hQ101 => exact fun _ _ _ h => h
    simp only [Act.put, List.setIfInBounds_toArray, List.set_cons_zero, List.set_cons_succ]
    refine wpAnyH_take (i := 1) (oi := ?oi102) (v := ?v102) ?hi102 (by kernel_rfl) ?hf102 ?hr102 ?hQ102 (Or.inl ⟨?hw102, ?hy102⟩) (by assumption) ?rest102
    case hi102 => simp only [List.getElem?_toArray, List.getElem?_cons_succ, List.getElem?_cons_zero]; rfl
    case hf102 => kernel_rfl
    case hr102 => kernel_rfl
    case hw102 => rfl
    case hy102 => (intro w hSw; (try dsimp only at hSw); go_simp; all_goals (first | done | with_reducible rfl))
    case hQ102 => exact fun _ _ _ h => h
    simp only [Act.put, List.setIfInBounds_toArray, List.set_cons_zero, List.set_cons_succ]
    refine wpAnyH_take (i := 2) (oi := ?oi103) (v := ?v103) ?hi103 (by kernel_rfl) ?hf103 ?hr103 ?hQ103 (Or.inl ⟨?hw103, ?hy103⟩) (by assumption) ?rest103
    case hi103 => simp only [List.getElem?_toArray, List.getElem?_cons_succ, List.getElem?_cons_zero]; rfl
    case hf103 => kernel_rfl
    case hr103 => kernel_rfl
    case hw103 => rfl
    case hy103 => (intro w hSw; (try dsimp only at hSw); go_simp; all_goals (first | done | with_reducible rfl))
    case hQ103 => exact fun _ _ _ h => h
    simp only [Act.put, List.setIfInBounds_toArray, List.set_cons_zero, List.set_cons_succ]
    refine wpAnyH_take (i := 3) (oi := ?oi104) (v := ?v104) ?hi104 (by kernel_rfl) ?hf104 ?hr104 ?hQ104 (Or.inl ⟨?hw104, ?hy104⟩) (by assumption) ?rest104
    case hi104 => simp only [List.getElem?_toArray, List.getElem?_cons_succ, List.getElem?_cons_zero]; rfl
    case hf104 => kernel_rfl
    case hr104 => kernel_rfl
    case hw104 => rfl
    case hy104 => (intro w hSw; (try dsimp only at hSw); go_simp; all_goals (first | done | with_reducible rfl))
    case hQ104 => exact fun _ _ _ h => h
    simp only [Act.put, List.setIfInBounds_toArray, List.set_cons_zero, List.set_cons_succ]
    refine wpAnyH_ready (rs := [4]) (by kernel_rfl) (by simp) ?_
    refine AllReadyH.cons (o := ?oi105) ?hi105 (fun K hK => ?step105) AllReadyH.nil
    case hi105 => simp only [List.getElem?_toArray, List.getElem?_cons_succ, List.getElem?_cons_zero]; rfl
    rw [if_pos (by rfl)]
    go_simp
    go_at_call 111
    refine C5.out.mono ?_
    rintro e w5 ⟨nm, p5, hnm, rfl, hp5, hr5, hg5⟩
    have X5 := X4.out.dr.offR hg5 hlt
    have hm5 : lsRow ln (.slice (some ⟨g, 0, none⟩) ln c1) (a ++ x :: b) ∈ ([bxRow 26 3 bb [.slice (some ⟨g, 0, none⟩) ln c1, .slice A2 n2 c2, .int .i64 q]] ++ ([bxRow 26 3 rb [.slice none 0 0, .slice none 0 0, .int .i64 0]] ++ treeRows ln (.slice (some ⟨g, 0, none⟩) ln c1) (a ++ x :: b) n2 (.slice A2 n2 c2) (hs))) := by simp [treeRows]
    obtain ⟨u0, u0f, hgl5⟩ := cellOf (j := 0) X5 hm5 (by omega) rfl
    have X6 := hid (tCell (pre := [_, _]) (y := { x with l := { x.l with nm := nm.data.toList } }) (j := 0) (u := .string nm) (by rw [treeRows_mid] at X5; exact X5) (by omega) (by simp [lcells, txt_data]))
    have D6 := hid (hr5.set (b := g) (j := a.length * 6 + 0) (u := .string nm) (by omega))
    have G6 := hid (grown_at (b := g) (j := a.length * 6 + 0) (u := .string nm) (grown_tr (grown_drN G4.out 1) hg5) (by rw [hrb.out]; omega))
    have b5 := (Rows.bcell2 (pre := []) (q := 0) X5 rfl).1
    have hgne : g ≠ bb := by omega
    simp only [hak, Nat.add_zero] at u0 u0f X6 D6 G6
    have b6 : (w5.setCell ⟨g, k * 6, none⟩ (.string nm)).cell? ⟨bb, 0, none⟩ = some (.slice (some ⟨g, 0, none⟩) ln c1) := (World.cell?_setCell_far _ _ _ _ hgne).trans b5
    refine hK.out _ _ b5 (fun hS => ?_)
    refine wpAnyH_take (i := 5) (oi := ?oi106) (v := ?v106) ?hi106 (by kernel_rfl) ?hf106 ?hr106 ?hQ106 (Or.inl ⟨?hw106, ?hy106⟩) (by assumption) ?rest106
    case hi106 => simp only [List.getElem?_toArray, List.getElem?_cons_succ, List.getElem?_cons_zero]; rfl
    case hf106 => kernel_rfl
    case hr106 => kernel_rfl
    case hw106 => rfl
    case hy106 => (intro w hSw; (try dsimp only at hSw); go_simp; all_goals (first | done | with_reducible rfl))
    case hQ106 => exact fun _ _ _ h => h
    simp only [Act.put, List.setIfInBounds_toArray, List.set_cons_zero, List.set_cons_succ]
    refine wpAnyH_take (i := 6) (oi := ?oi107) (v := ?v107) ?hi107 (by kernel_rfl) ?hf107 ?hr107 ?hQ107 (Or.inl ⟨?hw107, ?hy107⟩) (by assumption) ?rest107
    case hi107 => simp only [List.getElem?_toArray, List.getElem?_cons_succ, List.getElem?_cons_zero]; rfl
    case hf107 => kernel_rfl
    case hr107 => kernel_rfl
    case hw107 => rfl
    case hy107 => (intro w hSw; (try dsimp only at hSw); go_simp; all_goals (first | done | with_reducible rfl))
    case hQ107 => exact fun _ _ _ h => h
    simp only [Act.put, List.setIfInBounds_toArray, List.set_cons_zero, List.set_cons_succ]
    refine wpAnyH_ready (rs := [7]) (by kernel_rfl) (by simp) ?_
    refine AllReadyH.cons (o := ?oi108) ?hi108 (fun K hK => ?step108) AllReadyH.nil
    case hi108 => simp only [List.getElem?_toArray, List.getElem?_cons_succ, List.getElem?_cons_zero]; rfl
    rw [if_pos (by rfl)]
    go_simp
    refine hK.out _ _ b6 (fun hS => ?_)
    refine wpAnyH_done (by kernel_rfl) ?_ _
    clear b0 b0f b0d b5 b6 u0 u0f X5 hr5 hg5 C5
    have hlen : (a ++ ({ x with l := { x.l with nm := nm.data.toList } } : LgrV) :: b).length = ln := by rw [← hln.out]; simp
    have hsm : ∀ z ∈ a ++ ({ x with l := { x.l with nm := nm.data.toList } } : LgrV) :: b, lgrSm 9 z.l := sm_mid HF.out (by
      have h9 := HF.out x (by simp)
      exact ⟨by show nm.data.toList.length ≤ 20; rw [← Lib.size_eq]; omega, h9.2⟩)
    obtain ⟨b0, b0f, _⟩ := Rows.bcell2 (pre := []) (q := 0) X6.out rfl
    obtain ⟨b1, b1f, _⟩ := Rows.bcell2 (pre := []) (q := 1) X6.out rfl
    obtain ⟨b2, b2f, _⟩ := Rows.bcell2 (pre := []) (q := 2) X6.out rfl
    obtain ⟨l0, h0, _⟩ := Rows.bcell2 (pre := [_]) (q := 0) X6.out rfl
    obtain ⟨l1, h1, _⟩ := Rows.bcell2 (pre := [_]) (q := 1) X6.out rfl
    obtain ⟨l2, h2, _⟩ := Rows.bcell2 (pre := [_]) (q := 2) X6.out rfl
    go_wp2_with fail
    have Y1 := Rows.boxset (pre := [_]) (j := 0) (u := .slice (some ⟨g, 0, none⟩) ln c1) X6.out
    have Y2 := Rows.boxset (pre := [_]) (j := 1) (u := .slice A2 n2 c2) Y1
    have Y3 := Rows.boxset (pre := [_]) (j := 2) (u := .int .i64 q) Y2
    have f0 := (Rows.bcell2 (pre := [_]) (q := 0) Y3 rfl).1
    have f1 := (Rows.bcell2 (pre := [_]) (q := 1) Y3 rfl).1
    have f2 := (Rows.bcell2 (pre := [_]) (q := 2) Y3 rfl).1
    refine bodyPost_ret (v := .agg #[.slice (some ⟨g, 0, none⟩) ln c1, .slice A2 n2 c2, .int .i64 q]) (by simp [results, Tryz.results57, go_sem, f0, f1, f2]) rfl ?_
    have hll : (lsOf (a ++ ({ x with l := { x.l with nm := nm.data.toList } } : LgrV) :: b)).length = ln := by rw [← hlen]; simp [lsOf]
    have hhh : (hsOf (hs)).length = n2 := by rw [← hkn.out]; simp [hsOf]
    refine ⟨_, treeRows (ln) (.slice (some ⟨g, 0, none⟩) ln c1) (a ++ ({ x with l := { x.l with nm := nm.data.toList } } : LgrV) :: b) (n2) (.slice A2 n2 c2) (hs), lsOf (a ++ ({ x with l := { x.l with nm := nm.data.toList } } : LgrV) :: b), hsOf (hs), _, p5, rfl, ⟨_, _, a ++ ({ x with l := { x.l with nm := nm.data.toList } } : LgrV) :: b, hs, rfl, rfl, rfl, by rw [hlen, hkn.out]⟩, ⟨by rw [hll]; omega, ⟨by rw [hll]; omega, fun l hl => ?_⟩, ⟨by rw [hhh]; omega, fun x hx => ?_⟩⟩, ?_, by omega, ((D6.out.set (b := rb) (j := 0) (u := .slice (some ⟨g, 0, none⟩) ln c1) hlt).set (b := rb) (j := 1) (u := .slice A2 n2 c2) hlt).set (b := rb) (j := 2) (u := .int .i64 q) hlt, grown_at (b := rb) (j := 2) (u := .int .i64 q) (grown_at (b := rb) (j := 1) (u := .slice A2 n2 c2) (grown_at (b := rb) (j := 0) (u := .slice (some ⟨g, 0, none⟩) ln c1) G6.out (by rw [hrb.out]; exact Nat.le_refl _)) (by rw [hrb.out]; exact Nat.le_refl _)) (by rw [hrb.out]; exact Nat.le_refl _)⟩
    · obtain ⟨y, hy, rfl⟩ := List.mem_map.1 hl; exact (hsm) y hy
    · obtain ⟨y, hy, rfl⟩ := List.mem_map.1 hx; exact (HFH.out) y hy
    · rw [hrb.out]
      exact Y3.sub (List.Sublist.cons _ (List.Sublist.cons _ (List.Sublist.refl _)))
  · have C5 := hid (one_lit R (p1 + 1 + 1) 2 [-1, 61] w4.drew (D4.out.below (Below.refl _ _).drew) (by omega) rfl (by omega) (by omega) (-1) 61 (by decide))
    have b0d : w4.drew.cell? ⟨bb, 0, none⟩ = some (.slice (some ⟨g, 0, none⟩) ln c1) := b0
    have ba := hid (fun o => show (w4.drew.alloc o).cell? ⟨bb, 0, none⟩ = some (.slice (some ⟨g, 0, none⟩) ln c1) from (World.cell?_alloc_past _ _ _ hbl).trans b0d)
    go_wp2_with fail
    refine wp_region_held_drew (S := (fun w' : World => w'.cell? ⟨bb, 0, none⟩ = some (.slice (some ⟨g, 0, none⟩) ln c1))) (by kernel_rfl) b0d (fun hS => ?_)
    refine wpAnyH_take (i := 0) (oi := ?oi109) (v := ?v109) ?hi109 (by kernel_rfl) ?hf109 ?hr109 ?hQ109 (Or.inl ⟨?hw109, ?hy109⟩) (by assumption) ?rest109
    case hi109 => simp only [List.getElem?_toArray, List.getElem?_cons_succ, List.getElem?_cons_zero]; rfl
    case hf109 => kernel_rfl
    case hr109 => kernel_rfl
    case hw109 => rfl
    case hy109 => (intro w hSw; (try dsimp only at hSw); go_simp; all_goals (first | done | with_reducible rfl))
    case hQ109 => exact fun _ _ _ h => h
    simp only [Act.put, List.setIfInBounds_toArray, List.set_cons_zero, List.set_cons_succ]
    refine wpAnyH_take (i := 1) (oi := ?oi110) (v := ?v110) ?hi110 (by kernel_rfl) ?hf110 ?hr110 ?hQ110 (Or.inl ⟨?hw110, ?hy110⟩) (by assumption) ?rest110
    case hi110 => simp only [List.getElem?_toArray, List.getElem?_cons_succ, List.getElem?_cons_zero]; rfl
    case hf110 => kernel_rfl
    case hr110 => kernel_rfl
    case hw110 => rfl
    case hy110 => (intro w hSw; (try dsimp only at hSw); go_simp; all_goals (first | done | with_reducible rfl))
    case hQ110 => exact fun _ _ _ h => h
    simp only [Act.put, List.setIfInBounds_toArray, List.set_cons_zero, List.set_cons_succ]
    refine wpAnyH_take (i := 2) (oi := ?oi111) (v := ?v111) ?hi111 (by kernel_rfl) ?hf111 ?hr111 ?hQ111 (Or.inl ⟨?hw111, ?hy111⟩) (by assumption) ?rest111
    case hi111 => simp only [List.getElem?_toArray, List.getElem?_cons_succ, List.getElem?_cons_zero]; rfl
    case hf111 => kernel_rfl
    case hr111 => kernel_rfl
    case hw111 => rfl
    case hy111 => (intro w hSw; (try dsimp only at hSw); go_simp; all_goals (first | done | with_reducible rfl))
    case hQ111 => exact fun _ _ _ h => h
    simp only [Act.put, List.setIfInBounds_toArray, List.set_cons_zero, List.set_cons_succ]
    refine wpAnyH_take (i := 3) (oi := ?oi112) (v := ?v112) ?hi112 (by kernel_rfl) ?hf112 ?hr112 ?hQ112 (Or.inl ⟨?hw112, ?hy112⟩) (by assumption) ?rest112
    case hi112 => simp only [List.getElem?_toArray, List.getElem?_cons_succ, List.getElem?_cons_zero]; rfl
    case hf112 => kernel_rfl
    case hr112 => kernel_rfl
    case hw112 => rfl
    case hy112 => (intro w hSw; (try dsimp only at hSw); go_simp; all_goals (first | done | with_reducible rfl))
    case hQ112 => exact fun _ _ _ h => h
    simp only [Act.put, List.setIfInBounds_toArray, List.set_cons_zero, List.set_cons_succ]
    refine wpAnyH_ready (rs := [4]) (by kernel_rfl) (by simp) ?_
    refine AllReadyH.cons (o := ?oi113) ?hi113 (fun K hK => ?step113) AllReadyH.nil
    case hi113 => simp only [List.getElem?_toArray, List.getElem?_cons_succ, List.getElem?_cons_zero]; rfl
    rw [if_pos (by rfl)]
    go_simp
    refine hK.out _ _ (ba.out _) (fun hS => ?_)
    refine wpAnyH_ready (rs := [5]) (by kernel_rfl) (by simp) ?_
    refine AllReadyH.cons (o := ?oi114) ?hi114 (fun K hK => ?step114) AllReadyH.nil
    case hi114 => simp only [List.getElem?_toArray, List.getElem?_cons_succ, List.getElem?_cons_zero]; rfl
    rw [if_pos (by rfl)]
    go_simp
    go_at_call 112
    refine C5.out.mono ?_
    rintro e w5 ⟨lv, _, rfl, hr5, hg5⟩
    have X5 := X4.out.dr.offR hg5 hlt
    have hm5 : lsRow ln (.slice (some ⟨g, 0, none⟩) ln c1) (a ++ x :: b) ∈ ([bxRow 26 3 bb [.slice (some ⟨g, 0, none⟩) ln c1, .slice A2 n2 c2, .int .i64 q]] ++ ([bxRow 26 3 rb [.slice none 0 0, .slice none 0 0, .int .i64 0]] ++ treeRows ln (.slice (some ⟨g, 0, none⟩) ln c1) (a ++ x :: b) n2 (.slice A2 n2 c2) (hs))) := by simp [treeRows]
    obtain ⟨u0, u0f, hgl5⟩ := cellOf (j := 1) X5 hm5 (by omega) rfl
    have X6 := hid (tCell (pre := [_, _]) (y := { x with l := { x.l with lv := lv } }) (j := 1) (u := .int .i64 lv) (by rw [treeRows_mid] at X5; exact X5) (by omega) (by simp [lcells]))
    have D6 := hid (hr5.set (b := g) (j := a.length * 6 + 1) (u := .int .i64 lv) (by omega))
    have G6 := hid (grown_at (b := g) (j := a.length * 6 + 1) (u := .int .i64 lv) (grown_tr (grown_drN G4.out 1) hg5) (by rw [hrb.out]; omega))
    have b5 := (Rows.bcell2 (pre := []) (q := 0) X5 rfl).1
    have hgne : g ≠ bb := by omega
    simp only [hak] at u0 u0f X6 D6 G6
    have b6 : (w5.setCell ⟨g, k * 6 + 1, none⟩ (.int .i64 lv)).cell? ⟨bb, 0, none⟩ = some (.slice (some ⟨g, 0, none⟩) ln c1) := (World.cell?_setCell_far _ _ _ _ hgne).trans b5
    refine hK.out _ _ b5 (fun hS => ?_)
    refine wpAnyH_take (i := 6) (oi := ?oi115) (v := ?v115) ?hi115 (by kernel_rfl) ?hf115 ?hr115 ?hQ115 (Or.inl ⟨?hw115, ?hy115⟩) (by assumption) ?rest115
    case hi115 => simp only [List.getElem?_toArray, List.getElem?_cons_succ, List.getElem?_cons_zero]; rfl
    case hf115 => kernel_rfl
    case hr115 => kernel_rfl
    case hw115 => rfl
    case hy115 => (intro w hSw; (try dsimp only at hSw); go_simp; all_goals (first | done | with_reducible rfl))
    case hQ115 => exact fun _ _ _ h => h
    simp only [Act.put, List.setIfInBounds_toArray, List.set_cons_zero, List.set_cons_succ]
    refine wpAnyH_take (i := 7) (oi := ?oi116) (v := ?v116) ?hi116 (by kernel_rfl) ?hf116 ?hr116 ?hQ116 (Or.inl ⟨?hw116, ?hy116⟩) (by assumption) ?rest116
    case hi116 => simp only [List.getElem?_toArray, List.getElem?_cons_succ, List.getElem?_cons_zero]; rfl
    case hf116 => kernel_rfl
    case hr116 => kernel_rfl
    case hw116 => rfl
    case hy116 => (intro w hSw; (try dsimp only at hSw); go_simp; all_goals (first | done | with_reducible rfl))
    case hQ116 => exact fun _ _ _ h => h
    simp only [Act.put, List.setIfInBounds_toArray, List.set_cons_zero, List.set_cons_succ]
    refine wpAnyH_ready (rs := [8]) (by kernel_rfl) (by simp) ?_
    refine AllReadyH.cons (o := ?oi117) ?hi117 (fun K hK => ?step117) AllReadyH.nil
    case hi117 => simp only [List.getElem?_toArray, List.getElem?_cons_succ, List.getElem?_cons_zero]; rfl
    rw [if_pos (by rfl)]
    go_simp
    refine hK.out _ _ b6 (fun hS => ?_)
    refine wpAnyH_done (by kernel_rfl) ?_ _
    clear b0 b0f b0d b5 b6 u0 u0f X5 hr5 hg5 C5 ba
    have hlen : (a ++ ({ x with l := { x.l with lv := lv } } : LgrV) :: b).length = ln := by rw [← hln.out]; simp
    have hsm : ∀ z ∈ a ++ ({ x with l := { x.l with lv := lv } } : LgrV) :: b, lgrSm 9 z.l := sm_mid HF.out (HF.out x (by simp))
    obtain ⟨b0, b0f, _⟩ := Rows.bcell2 (pre := []) (q := 0) X6.out rfl
    obtain ⟨b1, b1f, _⟩ := Rows.bcell2 (pre := []) (q := 1) X6.out rfl
    obtain ⟨b2, b2f, _⟩ := Rows.bcell2 (pre := []) (q := 2) X6.out rfl
    obtain ⟨l0, h0, _⟩ := Rows.bcell2 (pre := [_]) (q := 0) X6.out rfl
    obtain ⟨l1, h1, _⟩ := Rows.bcell2 (pre := [_]) (q := 1) X6.out rfl
    obtain ⟨l2, h2, _⟩ := Rows.bcell2 (pre := [_]) (q := 2) X6.out rfl
    go_wp2_with fail
    have Y1 := Rows.boxset (pre := [_]) (j := 0) (u := .slice (some ⟨g, 0, none⟩) ln c1) X6.out
    have Y2 := Rows.boxset (pre := [_]) (j := 1) (u := .slice A2 n2 c2) Y1
    have Y3 := Rows.boxset (pre := [_]) (j := 2) (u := .int .i64 q) Y2
    have f0 := (Rows.bcell2 (pre := [_]) (q := 0) Y3 rfl).1
    have f1 := (Rows.bcell2 (pre := [_]) (q := 1) Y3 rfl).1
    have f2 := (Rows.bcell2 (pre := [_]) (q := 2) Y3 rfl).1
    refine bodyPost_ret (v := .agg #[.slice (some ⟨g, 0, none⟩) ln c1, .slice A2 n2 c2, .int .i64 q]) (by simp [results, Tryz.results57, go_sem, f0, f1, f2]) rfl ?_
    have hll : (lsOf (a ++ ({ x with l := { x.l with lv := lv } } : LgrV) :: b)).length = ln := by rw [← hlen]; simp [lsOf]
    have hhh : (hsOf (hs)).length = n2 := by rw [← hkn.out]; simp [hsOf]
    refine ⟨_, treeRows (ln) (.slice (some ⟨g, 0, none⟩) ln c1) (a ++ ({ x with l := { x.l with lv := lv } } : LgrV) :: b) (n2) (.slice A2 n2 c2) (hs), lsOf (a ++ ({ x with l := { x.l with lv := lv } } : LgrV) :: b), hsOf (hs), _, (p1 + 1 + 1 + 1), rfl, ⟨_, _, a ++ ({ x with l := { x.l with lv := lv } } : LgrV) :: b, hs, rfl, rfl, rfl, by rw [hlen, hkn.out]⟩, ⟨by rw [hll]; omega, ⟨by rw [hll]; omega, fun l hl => ?_⟩, ⟨by rw [hhh]; omega, fun x hx => ?_⟩⟩, ?_, by omega, ((D6.out.set (b := rb) (j := 0) (u := .slice (some ⟨g, 0, none⟩) ln c1) hlt).set (b := rb) (j := 1) (u := .slice A2 n2 c2) hlt).set (b := rb) (j := 2) (u := .int .i64 q) hlt, grown_at (b := rb) (j := 2) (u := .int .i64 q) (grown_at (b := rb) (j := 1) (u := .slice A2 n2 c2) (grown_at (b := rb) (j := 0) (u := .slice (some ⟨g, 0, none⟩) ln c1) G6.out (by rw [hrb.out]; exact Nat.le_refl _)) (by rw [hrb.out]; exact Nat.le_refl _)) (by rw [hrb.out]; exact Nat.le_refl _)⟩
    · obtain ⟨y, hy, rfl⟩ := List.mem_map.1 hl; exact (hsm) y hy
    · obtain ⟨y, hy, rfl⟩ := List.mem_map.1 hx; exact (HFH.out) y hy
    · rw [hrb.out]
      exact Y3.sub (List.Sublist.cons _ (List.Sublist.cons _ (List.Sublist.refl _)))
  · obtain ⟨l, hv, hn, fv, fn⟩ := x
    have oT : w4.ownsRow rb 9 1 hv hn (l.hs.map txt) := X4.out.1 ⟨9, 1, hn, hv, l.hs.map txt⟩ (by simp [treeRows, lrows])
    obtain ⟨A7, k7, rfl, _, _⟩ := (Sl.of_own oT).form
    have hhn : l.hs.length = hn := by have := (Sl.of_own oT).1; simpa using this
    have h8 := HF8.out ⟨l, .slice A7 hn k7, hn, fv, fn⟩ (by simp)
    have hh8 : hn ≤ 8 := by have := h8.2.1.1; simp only at this; omega
    replace hhn := hid hhn
    replace h8 := hid h8
    have C5 := hid (of_lit R (p1 + 1 + 1) 2 20 [[104], [110, 111]] w4.drew (D4.out.below (Below.refl _ _).drew) (by omega) rfl (by omega) (by omega) (by decide))
    have b0d : w4.drew.cell? ⟨bb, 0, none⟩ = some (.slice (some ⟨g, 0, none⟩) ln c1) := b0
    have hm4 : lsRow ln (.slice (some ⟨g, 0, none⟩) ln c1) (a ++ ⟨l, .slice A7 hn k7, hn, fv, fn⟩ :: b) ∈ ([bxRow 26 3 bb [.slice (some ⟨g, 0, none⟩) ln c1, .slice A2 n2 c2, .int .i64 q]] ++ ([bxRow 26 3 rb [.slice none 0 0, .slice none 0 0, .int .i64 0]] ++ treeRows ln (.slice (some ⟨g, 0, none⟩) ln c1) (a ++ ⟨l, .slice A7 hn k7, hn, fv, fn⟩ :: b) n2 (.slice A2 n2 c2) (hs))) := by simp [treeRows]
    obtain ⟨t0, _, hgl4⟩ := cellOf (j := 2) X4.out hm4 (by omega) rfl
    simp only [hak] at t0
    have t0d : w4.drew.cell? ⟨g, k * 6 + 2, none⟩ = some (.slice A7 hn k7) := t0
    have ba := hid (fun o => And.intro (show (w4.drew.alloc o).cell? ⟨bb, 0, none⟩ = some (.slice (some ⟨g, 0, none⟩) ln c1) from (World.cell?_alloc_past _ _ _ hbl).trans b0d) (show (w4.drew.alloc o).cell? ⟨g, k * 6 + 2, none⟩ = some (.slice A7 hn k7) from (World.cell?_alloc_past _ _ _ hgl4).trans t0d))
    go_wp2_with fail
    refine wp_region_let 13 (fun w' : World => w'.cell? ⟨bb, 0, none⟩ = some (.slice (some ⟨g, 0, none⟩) ln c1)) (fun w' : World => w'.cell? ⟨g, k * 6 + 2, none⟩ = some (.slice A7 hn k7)) (by kernel_rfl) b0d t0d (fun hS => ?_)
    refine wpAnyL_take (i := 0) (oi := ?oi118) (v := ?v118) ?hi118 (by kernel_rfl) ?hf118 ?hr118 (by decide) ?hQ118 (Or.inl ⟨?hw118, ?hy118⟩) (⟨hS.1, fun h => hS.2 (by first | rfl | exact h)⟩) ?rest118
    case hi118 => simp only [List.getElem?_toArray, List.getElem?_cons_succ, List.getElem?_cons_zero]; rfl
    case hf118 => kernel_rfl
    case hr118 => kernel_rfl
    case hw118 => rfl
    case hy118 => (intro w hSw; (try dsimp only at hSw); go_simp; all_goals (first | done | with_reducible rfl))
    case hQ118 => exact fun _ _ _ h => h
    simp only [Act.put, List.setIfInBounds_toArray, List.set_cons_zero, List.set_cons_succ]
    refine wpAnyL_take (i := 1) (oi := ?oi119) (v := ?v119) ?hi119 (by kernel_rfl) ?hf119 ?hr119 (by decide) ?hQ119 (Or.inl ⟨?hw119, ?hy119⟩) (⟨hS.1, fun h => hS.2 (by first | rfl | exact h)⟩) ?rest119
    case hi119 => simp only [List.getElem?_toArray, List.getElem?_cons_succ, List.getElem?_cons_zero]; rfl
    case hf119 => kernel_rfl
    case hr119 => kernel_rfl
    case hw119 => rfl
    case hy119 => (intro w hSw; (try dsimp only at hSw); go_simp; all_goals (first | done | with_reducible rfl))
    case hQ119 => exact fun _ _ _ h => h
    simp only [Act.put, List.setIfInBounds_toArray, List.set_cons_zero, List.set_cons_succ]
    refine wpAnyL_take (i := 2) (oi := ?oi120) (v := ?v120) ?hi120 (by kernel_rfl) ?hf120 ?hr120 (by decide) ?hQ120 (Or.inl ⟨?hw120, ?hy120⟩) (⟨hS.1, fun h => hS.2 (by first | rfl | exact h)⟩) ?rest120
    case hi120 => simp only [List.getElem?_toArray, List.getElem?_cons_succ, List.getElem?_cons_zero]; rfl
    case hf120 => kernel_rfl
    case hr120 => kernel_rfl
    case hw120 => rfl
    case hy120 => (intro w hSw; (try dsimp only at hSw); go_simp; all_goals (first | done | with_reducible rfl))
    case hQ120 => exact fun _ _ _ h => h
    simp only [Act.put, List.setIfInBounds_toArray, List.set_cons_zero, List.set_cons_succ]
    refine wpAnyL_take (i := 3) (oi := ?oi121) (v := ?v121) ?hi121 (by kernel_rfl) ?hf121 ?hr121 (by decide) ?hQ121 (Or.inl ⟨?hw121, ?hy121⟩) (⟨hS.1, fun h => hS.2 (by first | rfl | exact h)⟩) ?rest121
    case hi121 => simp only [List.getElem?_toArray, List.getElem?_cons_succ, List.getElem?_cons_zero]; rfl
    case hf121 => kernel_rfl
    case hr121 => kernel_rfl
    case hw121 => rfl
    case hy121 => (intro w hSw; (try dsimp only at hSw); go_simp; all_goals (first | done | with_reducible rfl))
    case hQ121 => exact fun _ _ _ h => h
    simp only [Act.put, List.setIfInBounds_toArray, List.set_cons_zero, List.set_cons_succ]
    refine wpAnyL_take (i := 4) (oi := ?oi122) (v := ?v122) ?hi122 (by kernel_rfl) ?hf122 ?hr122 (by decide) ?hQ122 (Or.inl ⟨?hw122, ?hy122⟩) (⟨hS.1, fun h => hS.2 (by first | rfl | exact h)⟩) ?rest122
    case hi122 => simp only [List.getElem?_toArray, List.getElem?_cons_succ, List.getElem?_cons_zero]; rfl
    case hf122 => kernel_rfl
    case hr122 => kernel_rfl
    case hw122 => rfl
    case hy122 => (intro w hSw; (try dsimp only at hSw); go_simp; all_goals (first | done | with_reducible rfl))
    case hQ122 => exact fun _ _ _ h => h
    simp only [Act.put, List.setIfInBounds_toArray, List.set_cons_zero, List.set_cons_succ]
    refine wpAnyL_take (i := 5) (oi := ?oi123) (v := ?v123) ?hi123 (by kernel_rfl) ?hf123 ?hr123 (by decide) ?hQ123 (Or.inl ⟨?hw123, ?hy123⟩) (⟨hS.1, fun h => hS.2 (by first | rfl | exact h)⟩) ?rest123
    case hi123 => simp only [List.getElem?_toArray, List.getElem?_cons_succ, List.getElem?_cons_zero]; rfl
    case hf123 => kernel_rfl
    case hr123 => kernel_rfl
    case hw123 => rfl
    case hy123 => (intro w hSw; (try dsimp only at hSw); go_simp; all_goals (first | done | with_reducible rfl))
    case hQ123 => exact fun _ _ _ h => h
    simp only [Act.put, List.setIfInBounds_toArray, List.set_cons_zero, List.set_cons_succ]
    refine wpAnyL_take (i := 6) (oi := ?oi124) (v := ?v124) ?hi124 (by kernel_rfl) ?hf124 ?hr124 (by decide) ?hQ124 (Or.inl ⟨?hw124, ?hy124⟩) (⟨hS.1, fun h => hS.2 (by first | rfl | exact h)⟩) ?rest124
    case hi124 => simp only [List.getElem?_toArray, List.getElem?_cons_succ, List.getElem?_cons_zero]; rfl
    case hf124 => kernel_rfl
    case hr124 => kernel_rfl
    case hw124 => rfl
    case hy124 => (intro w hSw; (try dsimp only at hSw); go_simp; all_goals (first | done | with_reducible rfl))
    case hQ124 => exact fun _ _ _ h => h
    simp only [Act.put, List.setIfInBounds_toArray, List.set_cons_zero, List.set_cons_succ]
    refine wpAnyL_take (i := 7) (oi := ?oi125) (v := ?v125) ?hi125 (by kernel_rfl) ?hf125 ?hr125 (by decide) ?hQ125 (Or.inl ⟨?hw125, ?hy125⟩) (⟨hS.1, fun h => hS.2 (by first | rfl | exact h)⟩) ?rest125
    case hi125 => simp only [List.getElem?_toArray, List.getElem?_cons_succ, List.getElem?_cons_zero]; rfl
    case hf125 => kernel_rfl
    case hr125 => kernel_rfl
    case hw125 => rfl
    case hy125 => (intro w hSw; (try dsimp only at hSw); go_simp; all_goals (first | done | with_reducible rfl))
    case hQ125 => exact fun _ _ _ h => h
    simp only [Act.put, List.setIfInBounds_toArray, List.set_cons_zero, List.set_cons_succ]
    refine wpAnyL_take (i := 9) (oi := ?oi126) (v := ?v126) ?hi126 (by kernel_rfl) ?hf126 ?hr126 (by decide) ?hQ126 (Or.inl ⟨?hw126, ?hy126⟩) (⟨hS.1, fun h => hS.2 (by first | rfl | exact h)⟩) ?rest126
    case hi126 => simp only [List.getElem?_toArray, List.getElem?_cons_succ, List.getElem?_cons_zero]; rfl
    case hf126 => kernel_rfl
    case hr126 => kernel_rfl
    case hw126 => rfl
    case hy126 => (intro w hSw; (try dsimp only at hSw); go_simp; all_goals (first | done | with_reducible rfl))
    case hQ126 => exact fun _ _ _ h => h
    simp only [Act.put, List.setIfInBounds_toArray, List.set_cons_zero, List.set_cons_succ]
    refine wpAnyL_take1 (i := 8) (oi := ?oi127) (om := ?om127) (v := ?v127) ?hi127 (by kernel_rfl) ?hf127 ?hr127 (by decide) ?hm127 ?hd127 (by rfl) ?hQ127 (Or.inl ⟨?hw127, ?hy127⟩) (⟨hS.1, fun h => hS.2 (by first | rfl | exact h)⟩) ?rest127
    case hi127 => simp only [List.getElem?_toArray, List.getElem?_cons_succ, List.getElem?_cons_zero]; rfl
    case hm127 => simp only [List.getElem?_toArray, List.getElem?_cons_succ, List.getElem?_cons_zero]; rfl
    case hd127 => kernel_rfl
    case hf127 => kernel_rfl
    case hr127 => kernel_rfl
    case hw127 => rfl
    case hy127 => (intro w hSw; (try dsimp only at hSw); go_simp; all_goals (first | done | with_reducible rfl))
    case hQ127 => exact fun _ _ _ h => h
    simp only [Act.put, List.setIfInBounds_toArray, List.set_cons_zero, List.set_cons_succ]
    refine wpAnyL_ready (rs := [10]) (by kernel_rfl) (by simp) ?_
    refine AllReadyL.cons (o := ?oi128) ?hi128 (fun K hK => ?step128) AllReadyL.nil
    case hi128 => simp only [List.getElem?_toArray, List.getElem?_cons_succ, List.getElem?_cons_zero]; rfl
    rw [if_pos (by rfl)]
    go_simp
    refine hK.out _ _ ⟨(ba.out _).1, fun _ => (ba.out _).2⟩ (fun hS => ?_)
    refine wpAnyL_ready (rs := [11]) (by kernel_rfl) (by simp) ?_
    refine AllReadyL.cons (o := ?oi129) ?hi129 (fun K hK => ?step129) AllReadyL.nil
    case hi129 => simp only [List.getElem?_toArray, List.getElem?_cons_succ, List.getElem?_cons_zero]; rfl
    rw [if_pos (by rfl)]
    go_simp
    go_at_call 60
    refine C5.out.mono ?_
    rintro e w5 ⟨nm, p5, hnm, rfl, hp5, hr5, hg5⟩
    have X5 := X4.out.dr.offR hg5 hlt
    have hs5 : bb < w5.heap.size := Nat.lt_of_lt_of_le hs4 hg5.size
    obtain ⟨u0, u0f, hgl5⟩ := cellOf (j := 2) X5 hm4 (by omega) rfl
    have b5 := (Rows.bcell2 (pre := []) (q := 0) X5 rfl).1
    obtain ⟨A5, c5, w6, hrun, hg6, hlo6, X6⟩ := tSub (pre := [_, _]) (by rw [treeRows_mid] at X5; exact X5) (by omega) (by omega) nm
    have X7 := hid (tCell (pre := [_, _]) (x := ⟨l, .slice A7 hn k7, hn, fv, fn⟩) (y := (⟨{ l with hs := l.hs ++ [nm.data.toList] }, .slice A5 (hn + 1) c5, hn + 1, fv, fn⟩ : LgrV)) (j := 2) (u := .slice A5 (hn + 1) c5) X6 (by omega) (by simp [lcells]))
    have o6 : w6.ownsRow rb 72 6 (.slice (some ⟨g, 0, none⟩) ln c1) ln ((a ++ ⟨l, .slice A7 hn k7, hn, fv, fn⟩ :: b).flatMap lcells) := X6.1 (lsRow ln (.slice (some ⟨g, 0, none⟩) ln c1) (a ++ ⟨l, .slice A7 hn k7, hn, fv, fn⟩ :: b)) (by simp)
    obtain ⟨v6, v6f, hgl6⟩ := cellOf (j := 2) X6 (a := a) (b := b) (x := ⟨l, .slice A7 hn k7, hn, fv, fn⟩) (g := g) (ln := ln) (c1 := c1) (by simp) (by omega) rfl
    have b6 := (Rows.bcell2 (pre := []) (q := 0) X6 rfl).1
    have hgne : g ≠ bb := by omega
    have G6 := hid (grown_at (b := g) (j := a.length * 6 + 2) (u := .slice A5 (hn + 1) c5) (grown_off (grown_tr (grown_drN G4.out 1) hg5) hg6 (fun z h => by rw [hrb.out]; exact hlo6 z h)) (by rw [hrb.out]; omega))
    have D6 := hid ((hr5.off hg6 (fun z h => Nat.lt_of_lt_of_le hlt (hlo6 z h))).set (b := g) (j := a.length * 6 + 2) (u := .slice A5 (hn + 1) c5) (by omega))
    simp only [hak] at u0 u0f v6 v6f X7 D6 G6
    have b7 : (w6.setCell ⟨g, k * 6 + 2, none⟩ (.slice A5 (hn + 1) c5)).cell? ⟨bb, 0, none⟩ = some (.slice (some ⟨g, 0, none⟩) ln c1) := (World.cell?_setCell_far _ _ _ _ hgne).trans b6
    have ca : (w5.alloc (.cells #[.string nm] 9)).cell? ⟨bb, 0, none⟩ = some (.slice (some ⟨g, 0, none⟩) ln c1) := (World.cell?_alloc_past _ _ _ hs5).trans b5
    have cb : (w5.alloc (.cells #[.string nm] 9)).cell? ⟨g, k * 6 + 2, none⟩ = some (.slice A7 hn k7) := (World.cell?_alloc_past _ _ _ hgl5).trans u0
    have HRun := hid hrun
    clear X6 hg6 hlo6 hrun X5 hr5 hg5 C5 o6
    refine hK.out _ _ ⟨b5, fun _ => u0⟩ (fun hS => ?_)
    refine wpAnyL_ready (rs := [12]) (by kernel_rfl) (by simp) ?_
    refine AllReadyL.cons (o := ?oi130) ?hi130 (fun K hK => ?step130) AllReadyL.nil
    case hi130 => simp only [List.getElem?_toArray, List.getElem?_cons_succ, List.getElem?_cons_zero]; rfl
    rw [if_pos (by rfl)]
    go_simp
    refine hK.out _ _ ⟨ca, fun _ => cb⟩ (fun hS => ?_)
    refine wpAnyL_ready (rs := [13]) (by kernel_rfl) (by simp) ?_
    refine AllReadyL.cons (o := ?oi131) ?hi131 (fun K hK => ?step131) AllReadyL.nil
    case hi131 => simp only [List.getElem?_toArray, List.getElem?_cons_succ, List.getElem?_cons_zero]; rfl
    rw [if_pos (by rfl)]
    refine wp_app rfl (by rfl) (by rfl) HRun.out ?_
    refine hK.out _ _ ⟨b6, fun h => absurd h (by decide)⟩ (fun hS => ?_)
    simp only [Act.put, List.setIfInBounds_toArray, List.set_cons_zero, List.set_cons_succ]
    refine wpAnyL_take (i := 14) (oi := ?oi132) (v := ?v132) ?hi132 (by kernel_rfl) ?hf132 ?hr132 (by decide) ?hQ132 (Or.inl ⟨?hw132, ?hy132⟩) (⟨hS.1, fun h => hS.2 (by first | rfl | exact h)⟩) ?rest132
    case hi132 => simp only [List.getElem?_toArray, List.getElem?_cons_succ, List.getElem?_cons_zero]; rfl
    case hf132 => kernel_rfl
    case hr132 => kernel_rfl
    case hw132 => rfl
    case hy132 => (intro w hSw; (try dsimp only at hSw); go_simp; all_goals (first | done | with_reducible rfl))
    case hQ132 => exact fun _ _ _ h => h
    simp only [Act.put, List.setIfInBounds_toArray, List.set_cons_zero, List.set_cons_succ]
    refine wpAnyL_take (i := 15) (oi := ?oi133) (v := ?v133) ?hi133 (by kernel_rfl) ?hf133 ?hr133 (by decide) ?hQ133 (Or.inl ⟨?hw133, ?hy133⟩) (⟨hS.1, fun h => hS.2 (by first | rfl | exact h)⟩) ?rest133
    case hi133 => simp only [List.getElem?_toArray, List.getElem?_cons_succ, List.getElem?_cons_zero]; rfl
    case hf133 => kernel_rfl
    case hr133 => kernel_rfl
    case hw133 => rfl
    case hy133 => (intro w hSw; (try dsimp only at hSw); go_simp; all_goals (first | done | with_reducible rfl))
    case hQ133 => exact fun _ _ _ h => h
    simp only [Act.put, List.setIfInBounds_toArray, List.set_cons_zero, List.set_cons_succ]
    refine wpAnyL_ready (rs := [16]) (by kernel_rfl) (by simp) ?_
    refine AllReadyL.cons (o := ?oi134) ?hi134 (fun K hK => ?step134) AllReadyL.nil
    case hi134 => simp only [List.getElem?_toArray, List.getElem?_cons_succ, List.getElem?_cons_zero]; rfl
    rw [if_pos (by rfl)]
    go_simp
    refine hK.out _ _ ⟨b7, fun h => absurd h (by decide)⟩ (fun hS => ?_)
    refine wpAnyL_done (by kernel_rfl) ?_ _
    clear b0 b0f b0d b5 b6 b7 u0 u0f v6 v6f t0 t0d ca cb ba
    have hlen : (a ++ (⟨{ l with hs := l.hs ++ [nm.data.toList] }, .slice A5 (hn + 1) c5, hn + 1, fv, fn⟩ : LgrV) :: b).length = ln := by rw [← hln.out]; simp
    have hsm : ∀ z ∈ a ++ (⟨{ l with hs := l.hs ++ [nm.data.toList] }, .slice A5 (hn + 1) c5, hn + 1, fv, fn⟩ : LgrV) :: b, lgrSm 9 z.l := sm_mid HF.out (by
      have h9 := h8.out
      refine ⟨h9.1, ⟨by show (l.hs ++ [nm.data.toList]).length ≤ 9; rw [List.length_append, hhn.out]; show hn + 1 ≤ 9; omega, fun t ht => ?_⟩, ⟨Nat.le_trans h9.2.2.1 (by omega), h9.2.2.2⟩⟩
      rcases List.mem_append.1 ht with ht | ht
      · exact h9.2.1.2 t ht
      · rw [List.mem_singleton.1 ht, ← Lib.size_eq]; exact hnm)
    obtain ⟨b0, b0f, _⟩ := Rows.bcell2 (pre := []) (q := 0) X7.out rfl
    obtain ⟨b1, b1f, _⟩ := Rows.bcell2 (pre := []) (q := 1) X7.out rfl
    obtain ⟨b2, b2f, _⟩ := Rows.bcell2 (pre := []) (q := 2) X7.out rfl
    obtain ⟨l0, h0, _⟩ := Rows.bcell2 (pre := [_]) (q := 0) X7.out rfl
    obtain ⟨l1, h1, _⟩ := Rows.bcell2 (pre := [_]) (q := 1) X7.out rfl
    obtain ⟨l2, h2, _⟩ := Rows.bcell2 (pre := [_]) (q := 2) X7.out rfl
    go_wp2_with fail
    have Y1 := Rows.boxset (pre := [_]) (j := 0) (u := .slice (some ⟨g, 0, none⟩) ln c1) X7.out
    have Y2 := Rows.boxset (pre := [_]) (j := 1) (u := .slice A2 n2 c2) Y1
    have Y3 := Rows.boxset (pre := [_]) (j := 2) (u := .int .i64 q) Y2
    have f0 := (Rows.bcell2 (pre := [_]) (q := 0) Y3 rfl).1
    have f1 := (Rows.bcell2 (pre := [_]) (q := 1) Y3 rfl).1
    have f2 := (Rows.bcell2 (pre := [_]) (q := 2) Y3 rfl).1
    refine bodyPost_ret (v := .agg #[.slice (some ⟨g, 0, none⟩) ln c1, .slice A2 n2 c2, .int .i64 q]) (by simp [results, Tryz.results57, go_sem, f0, f1, f2]) rfl ?_
    have hll : (lsOf (a ++ (⟨{ l with hs := l.hs ++ [nm.data.toList] }, .slice A5 (hn + 1) c5, hn + 1, fv, fn⟩ : LgrV) :: b)).length = ln := by rw [← hlen]; simp [lsOf]
    have hhh : (hsOf (hs)).length = n2 := by rw [← hkn.out]; simp [hsOf]
    refine ⟨_, treeRows (ln) (.slice (some ⟨g, 0, none⟩) ln c1) (a ++ (⟨{ l with hs := l.hs ++ [nm.data.toList] }, .slice A5 (hn + 1) c5, hn + 1, fv, fn⟩ : LgrV) :: b) (n2) (.slice A2 n2 c2) (hs), lsOf (a ++ (⟨{ l with hs := l.hs ++ [nm.data.toList] }, .slice A5 (hn + 1) c5, hn + 1, fv, fn⟩ : LgrV) :: b), hsOf (hs), _, p5, rfl, ⟨_, _, a ++ (⟨{ l with hs := l.hs ++ [nm.data.toList] }, .slice A5 (hn + 1) c5, hn + 1, fv, fn⟩ : LgrV) :: b, hs, rfl, rfl, rfl, by rw [hlen, hkn.out]⟩, ⟨by rw [hll]; omega, ⟨by rw [hll]; omega, fun l hl => ?_⟩, ⟨by rw [hhh]; omega, fun x hx => ?_⟩⟩, ?_, by omega, ((D6.out.set (b := rb) (j := 0) (u := .slice (some ⟨g, 0, none⟩) ln c1) hlt).set (b := rb) (j := 1) (u := .slice A2 n2 c2) hlt).set (b := rb) (j := 2) (u := .int .i64 q) hlt, grown_at (b := rb) (j := 2) (u := .int .i64 q) (grown_at (b := rb) (j := 1) (u := .slice A2 n2 c2) (grown_at (b := rb) (j := 0) (u := .slice (some ⟨g, 0, none⟩) ln c1) G6.out (by rw [hrb.out]; exact Nat.le_refl _)) (by rw [hrb.out]; exact Nat.le_refl _)) (by rw [hrb.out]; exact Nat.le_refl _)⟩
    · obtain ⟨y, hy, rfl⟩ := List.mem_map.1 hl; exact (hsm) y hy
    · obtain ⟨y, hy, rfl⟩ := List.mem_map.1 hx; exact (HFH.out) y hy
    · rw [hrb.out]
      exact Y3.sub (List.Sublist.cons _ (List.Sublist.cons _ (List.Sublist.refl _)))
  · have C5 := hid (bentFilters_c R (p1 + 1 + 1) w4.drew (D4.out.below (Below.refl _ _).drew) (by omega))
    have b0d : w4.drew.cell? ⟨bb, 0, none⟩ = some (.slice (some ⟨g, 0, none⟩) ln c1) := b0
    go_wp2_with fail
    refine wp_region_held_drew (S := (fun w' : World => w'.cell? ⟨bb, 0, none⟩ = some (.slice (some ⟨g, 0, none⟩) ln c1))) (by kernel_rfl) b0d (fun hS => ?_)
    refine wpAnyH_take (i := 0) (oi := ?oi135) (v := ?v135) ?hi135 (by kernel_rfl) ?hf135 ?hr135 ?hQ135 (Or.inl ⟨?hw135, ?hy135⟩) (by assumption) ?rest135
    case hi135 => simp only [List.getElem?_toArray, List.getElem?_cons_succ, List.getElem?_cons_zero]; rfl
    case hf135 => kernel_rfl
    case hr135 => kernel_rfl
    case hw135 => rfl
    case hy135 => (intro w hSw; (try dsimp only at hSw); go_simp; all_goals (first | done | with_reducible rfl))
    case hQ135 => exact fun _ _ _ h => h
    simp only [Act.put, List.setIfInBounds_toArray, List.set_cons_zero, List.set_cons_succ]
    refine wpAnyH_take (i := 1) (oi := ?oi136) (v := ?v136) ?hi136 (by kernel_rfl) ?hf136 ?hr136 ?hQ136 (Or.inl ⟨?hw136, ?hy136⟩) (by assumption) ?rest136
    case hi136 => simp only [List.getElem?_toArray, List.getElem?_cons_succ, List.getElem?_cons_zero]; rfl
    case hf136 => kernel_rfl
    case hr136 => kernel_rfl
    case hw136 => rfl
    case hy136 => (intro w hSw; (try dsimp only at hSw); go_simp; all_goals (first | done | with_reducible rfl))
    case hQ136 => exact fun _ _ _ h => h
    simp only [Act.put, List.setIfInBounds_toArray, List.set_cons_zero, List.set_cons_succ]
    refine wpAnyH_take (i := 2) (oi := ?oi137) (v := ?v137) ?hi137 (by kernel_rfl) ?hf137 ?hr137 ?hQ137 (Or.inl ⟨?hw137, ?hy137⟩) (by assumption) ?rest137
    case hi137 => simp only [List.getElem?_toArray, List.getElem?_cons_succ, List.getElem?_cons_zero]; rfl
    case hf137 => kernel_rfl
    case hr137 => kernel_rfl
    case hw137 => rfl
    case hy137 => (intro w hSw; (try dsimp only at hSw); go_simp; all_goals (first | done | with_reducible rfl))
    case hQ137 => exact fun _ _ _ h => h
    simp only [Act.put, List.setIfInBounds_toArray, List.set_cons_zero, List.set_cons_succ]
    refine wpAnyH_take (i := 3) (oi := ?oi138) (v := ?v138) ?hi138 (by kernel_rfl) ?hf138 ?hr138 ?hQ138 (Or.inl ⟨?hw138, ?hy138⟩) (by assumption) ?rest138
    case hi138 => simp only [List.getElem?_toArray, List.getElem?_cons_succ, List.getElem?_cons_zero]; rfl
    case hf138 => kernel_rfl
    case hr138 => kernel_rfl
    case hw138 => rfl
    case hy138 => (intro w hSw; (try dsimp only at hSw); go_simp; all_goals (first | done | with_reducible rfl))
    case hQ138 => exact fun _ _ _ h => h
    simp only [Act.put, List.setIfInBounds_toArray, List.set_cons_zero, List.set_cons_succ]
    refine wpAnyH_ready (rs := [4]) (by kernel_rfl) (by simp) ?_
    refine AllReadyH.cons (o := ?oi139) ?hi139 (fun K hK => ?step139) AllReadyH.nil
    case hi139 => simp only [List.getElem?_toArray, List.getElem?_cons_succ, List.getElem?_cons_zero]; rfl
    rw [if_pos (by rfl)]
    go_simp
    go_at_call 62
    refine C5.out.mono ?_
    rintro e w5 ⟨v5, fl, p5, rfl, hl5, hf5, ho5, hp5, hr5, hg5⟩
    obtain ⟨A8, k8, rfl, _, _⟩ := (Sl.of_own ho5).form
    generalize hfl : fl.length = fn at *
    have X5 := X4.out.dr.newerR hg5 hlt (Rows.one (r := ⟨99, 3, fn, .slice A8 fn k8, fsCells fl⟩) ho5) (show rb ≤ w4.heap.size by omega)
    have hm5 : lsRow ln (.slice (some ⟨g, 0, none⟩) ln c1) (a ++ x :: b) ∈ [⟨99, 3, fn, .slice A8 fn k8, fsCells fl⟩] ++ ([bxRow 26 3 bb [.slice (some ⟨g, 0, none⟩) ln c1, .slice A2 n2 c2, .int .i64 q]] ++ ([bxRow 26 3 rb [.slice none 0 0, .slice none 0 0, .int .i64 0]] ++ treeRows ln (.slice (some ⟨g, 0, none⟩) ln c1) (a ++ x :: b) n2 (.slice A2 n2 c2) (hs))) := by simp [treeRows]
    obtain ⟨u0, u0f, hgl5⟩ := cellOf (j := 3) X5 hm5 (by omega) rfl
    have b5 := (Rows.bcell2 (pre := [_]) (q := 0) X5 rfl).1
    have X6 := hid (tCell (pre := [_, _]) (x := x) (y := ({ x with l := { x.l with fs := fl }, fv := .slice A8 fn k8, fn := fn } : LgrV)) (j := 3) (u := .slice A8 fn k8) (tFlt (pre := [_, _]) (by rw [treeRows_mid] at X5; exact X5)) (by omega) (by simp [lcells]))
    have D6 := hid (hr5.set (b := g) (j := a.length * 6 + 3) (u := .slice A8 fn k8) (by omega))
    have G6 := hid (grown_at (b := g) (j := a.length * 6 + 3) (u := .slice A8 fn k8) (grown_tr (grown_drN G4.out 1) hg5) (by rw [hrb.out]; omega))
    have hgne : g ≠ bb := by omega
    simp only [hak] at u0 u0f X6 D6 G6
    have b6 : (w5.setCell ⟨g, k * 6 + 3, none⟩ (.slice A8 fn k8)).cell? ⟨bb, 0, none⟩ = some (.slice (some ⟨g, 0, none⟩) ln c1) := (World.cell?_setCell_far _ _ _ _ hgne).trans b5
    replace hf5 := hid hf5
    replace hfl := hid hfl
    refine hK.out _ _ b5 (fun hS => ?_)
    refine wpAnyH_take (i := 5) (oi := ?oi140) (v := ?v140) ?hi140 (by kernel_rfl) ?hf140 ?hr140 ?hQ140 (Or.inl ⟨?hw140, ?hy140⟩) (by assumption) ?rest140
    case hi140 => simp only [List.getElem?_toArray, List.getElem?_cons_succ, List.getElem?_cons_zero]; rfl
    case hf140 => kernel_rfl
    case hr140 => kernel_rfl
    case hw140 => rfl
    case hy140 => (intro w hSw; (try dsimp only at hSw); go_simp; all_goals (first | done | with_reducible rfl))
    case hQ140 => exact fun _ _ _ h => h
    simp only [Act.put, List.setIfInBounds_toArray, List.set_cons_zero, List.set_cons_succ]
    refine wpAnyH_take (i := 6) (oi := ?oi141) (v := ?v141) ?hi141 (by kernel_rfl) ?hf141 ?hr141 ?hQ141 (Or.inl ⟨?hw141, ?hy141⟩) (by assumption) ?rest141
    case hi141 => simp only [List.getElem?_toArray, List.getElem?_cons_succ, List.getElem?_cons_zero]; rfl
    case hf141 => kernel_rfl
    case hr141 => kernel_rfl
    case hw141 => rfl
    case hy141 => (intro w hSw; (try dsimp only at hSw); go_simp; all_goals (first | done | with_reducible rfl))
    case hQ141 => exact fun _ _ _ h => h
    simp only [Act.put, List.setIfInBounds_toArray, List.set_cons_zero, List.set_cons_succ]
    refine wpAnyH_ready (rs := [7]) (by kernel_rfl) (by simp) ?_
    refine AllReadyH.cons (o := ?oi142) ?hi142 (fun K hK => ?step142) AllReadyH.nil
    case hi142 => simp only [List.getElem?_toArray, List.getElem?_cons_succ, List.getElem?_cons_zero]; rfl
    rw [if_pos (by rfl)]
    go_simp
    refine hK.out _ _ b6 (fun hS => ?_)
    refine wpAnyH_done (by kernel_rfl) ?_ _
    clear b0 b0f b0d b5 b6 u0 u0f X5 hr5 hg5 C5 ho5
    have hlen : (a ++ ({ x with l := { x.l with fs := fl }, fv := .slice A8 fn k8, fn := fn } : LgrV) :: b).length = ln := by rw [← hln.out]; simp
    have hsm : ∀ z ∈ a ++ ({ x with l := { x.l with fs := fl }, fv := .slice A8 fn k8, fn := fn } : LgrV) :: b, lgrSm 9 z.l := sm_mid HF.out (by
      have h9 := HF.out x (by simp)
      exact ⟨h9.1, h9.2.1, ⟨by show fl.length ≤ 9; rw [hfl.out]; omega, hf5.out⟩⟩)
    obtain ⟨b0, b0f, _⟩ := Rows.bcell2 (pre := []) (q := 0) X6.out rfl
    obtain ⟨b1, b1f, _⟩ := Rows.bcell2 (pre := []) (q := 1) X6.out rfl
    obtain ⟨b2, b2f, _⟩ := Rows.bcell2 (pre := []) (q := 2) X6.out rfl
    obtain ⟨l0, h0, _⟩ := Rows.bcell2 (pre := [_]) (q := 0) X6.out rfl
    obtain ⟨l1, h1, _⟩ := Rows.bcell2 (pre := [_]) (q := 1) X6.out rfl
    obtain ⟨l2, h2, _⟩ := Rows.bcell2 (pre := [_]) (q := 2) X6.out rfl
    go_wp2_with fail
    have Y1 := Rows.boxset (pre := [_]) (j := 0) (u := .slice (some ⟨g, 0, none⟩) ln c1) X6.out
    have Y2 := Rows.boxset (pre := [_]) (j := 1) (u := .slice A2 n2 c2) Y1
    have Y3 := Rows.boxset (pre := [_]) (j := 2) (u := .int .i64 q) Y2
    have f0 := (Rows.bcell2 (pre := [_]) (q := 0) Y3 rfl).1
    have f1 := (Rows.bcell2 (pre := [_]) (q := 1) Y3 rfl).1
    have f2 := (Rows.bcell2 (pre := [_]) (q := 2) Y3 rfl).1
    refine bodyPost_ret (v := .agg #[.slice (some ⟨g, 0, none⟩) ln c1, .slice A2 n2 c2, .int .i64 q]) (by simp [results, Tryz.results57, go_sem, f0, f1, f2]) rfl ?_
    have hll : (lsOf (a ++ ({ x with l := { x.l with fs := fl }, fv := .slice A8 fn k8, fn := fn } : LgrV) :: b)).length = ln := by rw [← hlen]; simp [lsOf]
    have hhh : (hsOf (hs)).length = n2 := by rw [← hkn.out]; simp [hsOf]
    refine ⟨_, treeRows (ln) (.slice (some ⟨g, 0, none⟩) ln c1) (a ++ ({ x with l := { x.l with fs := fl }, fv := .slice A8 fn k8, fn := fn } : LgrV) :: b) (n2) (.slice A2 n2 c2) (hs), lsOf (a ++ ({ x with l := { x.l with fs := fl }, fv := .slice A8 fn k8, fn := fn } : LgrV) :: b), hsOf (hs), _, p5, rfl, ⟨_, _, a ++ ({ x with l := { x.l with fs := fl }, fv := .slice A8 fn k8, fn := fn } : LgrV) :: b, hs, rfl, rfl, rfl, by rw [hlen, hkn.out]⟩, ⟨by rw [hll]; omega, ⟨by rw [hll]; omega, fun l hl => ?_⟩, ⟨by rw [hhh]; omega, fun x hx => ?_⟩⟩, ?_, by omega, ((D6.out.set (b := rb) (j := 0) (u := .slice (some ⟨g, 0, none⟩) ln c1) hlt).set (b := rb) (j := 1) (u := .slice A2 n2 c2) hlt).set (b := rb) (j := 2) (u := .int .i64 q) hlt, grown_at (b := rb) (j := 2) (u := .int .i64 q) (grown_at (b := rb) (j := 1) (u := .slice A2 n2 c2) (grown_at (b := rb) (j := 0) (u := .slice (some ⟨g, 0, none⟩) ln c1) G6.out (by rw [hrb.out]; exact Nat.le_refl _)) (by rw [hrb.out]; exact Nat.le_refl _)) (by rw [hrb.out]; exact Nat.le_refl _)⟩
    · obtain ⟨y, hy, rfl⟩ := List.mem_map.1 hl; exact (hsm) y hy
    · obtain ⟨y, hy, rfl⟩ := List.mem_map.1 hx; exact (HFH.out) y hy
    · rw [hrb.out]
      exact Y3.sub (List.Sublist.cons _ (List.Sublist.cons _ (List.Sublist.refl _)))
  · have C5 := hid (one_lit R (p1 + 1 + 1) 3 [-1, 61, 60] w4 D4.out (by omega) rfl (by omega) (by omega) (-1) 61 (by decide))
    clear b0 b0f
    go_wp2_with fail
    refine C5.out.mono ?_
    rintro e w5 ⟨z, _, rfl, hr5, hg5⟩
    have X5 := X4.out.offR hg5 hlt
    obtain ⟨u0, u0f, _⟩ := Rows.bcell2 (pre := []) (q := 2) X5 rfl
    have X6 := hid (Rows.boxset (pre := []) (j := 2) (u := .int .i64 z) X5)
    have D6 := hid (hr5.set (b := bb) (j := 2) (u := .int .i64 z) (by omega))
    have G6 := hid (grown_at (b := bb) (j := 2) (u := .int .i64 z) (grown_tr G4.out hg5) (by rw [hrb.out]; omega))
    obtain ⟨d0, d0f, _⟩ := Rows.bcell2 (pre := []) (q := 0) X5 rfl
    obtain ⟨d1, d1f, _⟩ := Rows.bcell2 (pre := []) (q := 1) X5 rfl
    clear X5 hr5 hg5 C5
    obtain ⟨b0, b0f, _⟩ := Rows.bcell2 (pre := []) (q := 0) X6.out rfl
    obtain ⟨b1, b1f, _⟩ := Rows.bcell2 (pre := []) (q := 1) X6.out rfl
    obtain ⟨b2, b2f, _⟩ := Rows.bcell2 (pre := []) (q := 2) X6.out rfl
    obtain ⟨l0, h0, _⟩ := Rows.bcell2 (pre := [_]) (q := 0) X6.out rfl
    obtain ⟨l1, h1, _⟩ := Rows.bcell2 (pre := [_]) (q := 1) X6.out rfl
    obtain ⟨l2, h2, _⟩ := Rows.bcell2 (pre := [_]) (q := 2) X6.out rfl
    go_wp2_with fail
    have Y1 := Rows.boxset (pre := [_]) (j := 0) (u := .slice (some ⟨g, 0, none⟩) ln c1) X6.out
    have Y2 := Rows.boxset (pre := [_]) (j := 1) (u := .slice A2 n2 c2) Y1
    have Y3 := Rows.boxset (pre := [_]) (j := 2) (u := .int .i64 z) Y2
    have f0 := (Rows.bcell2 (pre := [_]) (q := 0) Y3 rfl).1
    have f1 := (Rows.bcell2 (pre := [_]) (q := 1) Y3 rfl).1
    have f2 := (Rows.bcell2 (pre := [_]) (q := 2) Y3 rfl).1
    refine bodyPost_ret (v := .agg #[.slice (some ⟨g, 0, none⟩) ln c1, .slice A2 n2 c2, .int .i64 z]) (by simp [results, Tryz.results57, go_sem, f0, f1, f2]) rfl ?_
    have hll : (lsOf (a ++ x :: b)).length = ln := by rw [← hln.out]; simp [lsOf]
    have hhh : (hsOf (hs)).length = n2 := by rw [← hkn.out]; simp [hsOf]
    refine ⟨_, treeRows (ln) (.slice (some ⟨g, 0, none⟩) ln c1) (a ++ x :: b) (n2) (.slice A2 n2 c2) (hs), lsOf (a ++ x :: b), hsOf (hs), _, (p1 + 1 + 1 + 1), rfl, ⟨_, _, a ++ x :: b, hs, rfl, rfl, rfl, by rw [hln.out, hkn.out]⟩, ⟨by rw [hll]; omega, ⟨by rw [hll]; omega, fun l hl => ?_⟩, ⟨by rw [hhh]; omega, fun x hx => ?_⟩⟩, ?_, by omega, ((D6.out.set (b := rb) (j := 0) (u := .slice (some ⟨g, 0, none⟩) ln c1) hlt).set (b := rb) (j := 1) (u := .slice A2 n2 c2) hlt).set (b := rb) (j := 2) (u := .int .i64 z) hlt, grown_at (b := rb) (j := 2) (u := .int .i64 z) (grown_at (b := rb) (j := 1) (u := .slice A2 n2 c2) (grown_at (b := rb) (j := 0) (u := .slice (some ⟨g, 0, none⟩) ln c1) G6.out (by rw [hrb.out]; exact Nat.le_refl _)) (by rw [hrb.out]; exact Nat.le_refl _)) (by rw [hrb.out]; exact Nat.le_refl _)⟩
    · obtain ⟨y, hy, rfl⟩ := List.mem_map.1 hl; exact (HF.out) y hy
    · obtain ⟨y, hy, rfl⟩ := List.mem_map.1 hx; exact (HFH.out) y hy
    · rw [hrb.out]
      exact Y3.sub (List.Sublist.cons _ (List.Sublist.cons _ (List.Sublist.refl _)))
  · have C5 := hid (of_lit R (p1 + 1 + 1) 4 20 [[104], [108, 97, 115, 116], [88], [110, 101, 119]] w4.drew (D4.out.below (Below.refl _ _).drew) (by omega) rfl (by omega) (by omega) (by decide))
    obtain ⟨b1, _, _⟩ := Rows.bcell2 (pre := []) (q := 1) X4.out rfl
    have b1d : w4.drew.cell? ⟨bb, 1, none⟩ = some (.slice A2 n2 c2) := b1
    have ba := hid (fun o => (show (w4.drew.alloc o).cell? ⟨bb, 1, none⟩ = some (.slice A2 n2 c2) from (World.cell?_alloc_past _ _ _ hbl).trans b1d))
    clear b0 b0f
    go_wp2_with fail
    refine wp_region_let 7 (fun _ : World => True) (fun w' : World => w'.cell? ⟨bb, 1, none⟩ = some (.slice A2 n2 c2)) (by kernel_rfl) trivial b1d (fun hS => ?_)
    refine wpAnyL_take (i := 0) (oi := ?oi143) (v := ?v143) ?hi143 (by kernel_rfl) ?hf143 ?hr143 (by decide) ?hQ143 (Or.inl ⟨?hw143, ?hy143⟩) (⟨hS.1, fun h => hS.2 (by first | rfl | exact h)⟩) ?rest143
    case hi143 => simp only [List.getElem?_toArray, List.getElem?_cons_succ, List.getElem?_cons_zero]; rfl
    case hf143 => kernel_rfl
    case hr143 => kernel_rfl
    case hw143 => rfl
    case hy143 => (intro w hSw; (try dsimp only at hSw); go_simp; all_goals (first | done | with_reducible rfl))
    case hQ143 => exact fun _ _ _ h => h
    simp only [Act.put, List.setIfInBounds_toArray, List.set_cons_zero, List.set_cons_succ]
    refine wpAnyL_take (i := 2) (oi := ?oi144) (v := ?v144) ?hi144 (by kernel_rfl) ?hf144 ?hr144 (by decide) ?hQ144 (Or.inl ⟨?hw144, ?hy144⟩) (⟨hS.1, fun h => hS.2 (by first | rfl | exact h)⟩) ?rest144
    case hi144 => simp only [List.getElem?_toArray, List.getElem?_cons_succ, List.getElem?_cons_zero]; rfl
    case hf144 => kernel_rfl
    case hr144 => kernel_rfl
    case hw144 => rfl
    case hy144 => (intro w hSw; (try dsimp only at hSw); go_simp; all_goals (first | done | with_reducible rfl))
    case hQ144 => exact fun _ _ _ h => h
    simp only [Act.put, List.setIfInBounds_toArray, List.set_cons_zero, List.set_cons_succ]
    refine wpAnyL_take1 (i := 1) (oi := ?oi145) (om := ?om145) (v := ?v145) ?hi145 (by kernel_rfl) ?hf145 ?hr145 (by decide) ?hm145 ?hd145 (by rfl) ?hQ145 (Or.inl ⟨?hw145, ?hy145⟩) (⟨hS.1, fun h => hS.2 (by first | rfl | exact h)⟩) ?rest145
    case hi145 => simp only [List.getElem?_toArray, List.getElem?_cons_succ, List.getElem?_cons_zero]; rfl
    case hm145 => simp only [List.getElem?_toArray, List.getElem?_cons_succ, List.getElem?_cons_zero]; rfl
    case hd145 => kernel_rfl
    case hf145 => kernel_rfl
    case hr145 => kernel_rfl
    case hw145 => rfl
    case hy145 => (intro w hSw; (try dsimp only at hSw); go_simp; all_goals (first | done | with_reducible rfl))
    case hQ145 => exact fun _ _ _ h => h
    simp only [Act.put, List.setIfInBounds_toArray, List.set_cons_zero, List.set_cons_succ]
    refine wpAnyL_ready (rs := [3]) (by kernel_rfl) (by simp) ?_
    refine AllReadyL.cons (o := ?oi146) ?hi146 (fun K hK => ?step146) AllReadyL.nil
    case hi146 => simp only [List.getElem?_toArray, List.getElem?_cons_succ, List.getElem?_cons_zero]; rfl
    rw [if_pos (by rfl)]
    go_simp
    refine hK.out _ _ ⟨trivial, fun _ => ba.out _⟩ (fun hS => ?_)
    refine wpAnyL_ready (rs := [4]) (by kernel_rfl) (by simp) ?_
    refine AllReadyL.cons (o := ?oi147) ?hi147 (fun K hK => ?step147) AllReadyL.nil
    case hi147 => simp only [List.getElem?_toArray, List.getElem?_cons_succ, List.getElem?_cons_zero]; rfl
    rw [if_pos (by rfl)]
    go_simp
    go_at_call 60
    refine C5.out.mono ?_
    rintro e w5 ⟨nm, p5, hnm, rfl, hp5, hr5, hg5⟩
    have X5 := X4.out.dr.offR hg5 hlt
    have hs5 : bb < w5.heap.size := Nat.lt_of_lt_of_le hs4 hg5.size
    have b5 := (Rows.bcell2 (pre := []) (q := 1) X5 rfl).1
    have cb : (w5.alloc (.cells #[.string nm, .int .i64 0, .slice none 0 0] 47)).cell? ⟨bb, 1, none⟩ = some (.slice A2 n2 c2) := (World.cell?_alloc_past _ _ _ hs5).trans b5
    obtain ⟨A5, c5, w6, hrun, hg6, hlo6, X6⟩ := tHand (fn := 0) (k8 := 0) (A8 := none) (fs := []) (Rows.cons_nil (T := 99) (d := 3) X5) (by omega) (by omega) nm 0
    have X7 := hid (Rows.boxset (pre := []) (j := 1) (u := .slice A5 (n2 + 1) c5) X6)
    obtain ⟨v6, v6f, _⟩ := Rows.bcell2 (pre := []) (q := 1) X6 rfl
    have G6 := hid (grown_at (b := bb) (j := 1) (u := .slice A5 (n2 + 1) c5) (grown_off (grown_tr (grown_drN G4.out 1) hg5) hg6 (fun z h => by rw [hrb.out]; exact hlo6 z h)) (by rw [hrb.out]; omega))
    have D6 := hid ((hr5.off hg6 (fun z h => Nat.lt_of_lt_of_le hlt (hlo6 z h))).set (b := bb) (j := 1) (u := .slice A5 (n2 + 1) c5) (by omega))
    have HRun := hid hrun
    clear X6 hg6 hlo6 hrun X5 hr5 hg5 C5
    refine hK.out _ _ ⟨trivial, fun _ => b5⟩ (fun hS => ?_)
    refine wpAnyL_take (i := 5) (oi := ?oi148) (v := ?v148) ?hi148 (by kernel_rfl) ?hf148 ?hr148 (by decide) ?hQ148 (Or.inl ⟨?hw148, ?hy148⟩) (⟨hS.1, fun h => hS.2 (by first | rfl | exact h)⟩) ?rest148
    case hi148 => simp only [List.getElem?_toArray, List.getElem?_cons_succ, List.getElem?_cons_zero]; rfl
    case hf148 => kernel_rfl
    case hr148 => kernel_rfl
    case hw148 => rfl
    case hy148 => (intro w hSw; (try dsimp only at hSw); go_simp; all_goals (first | done | with_reducible rfl))
    case hQ148 => exact fun _ _ _ h => h
    simp only [Act.put, List.setIfInBounds_toArray, List.set_cons_zero, List.set_cons_succ]
    refine wpAnyL_ready (rs := [6]) (by kernel_rfl) (by simp) ?_
    refine AllReadyL.cons (o := ?oi149) ?hi149 (fun K hK => ?step149) AllReadyL.nil
    case hi149 => simp only [List.getElem?_toArray, List.getElem?_cons_succ, List.getElem?_cons_zero]; rfl
    rw [if_pos (by rfl)]
    go_simp
    refine hK.out _ _ ⟨trivial, fun _ => cb⟩ (fun hS => ?_)
    refine wpAnyL_ready (rs := [7]) (by kernel_rfl) (by simp) ?_
    refine AllReadyL.cons (o := ?oi150) ?hi150 (fun K hK => ?step150) AllReadyL.nil
    case hi150 => simp only [List.getElem?_toArray, List.getElem?_cons_succ, List.getElem?_cons_zero]; rfl
    rw [if_pos (by rfl)]
    refine wp_app rfl (by rfl) (by rfl) HRun.out ?_
    refine hK.out _ _ ⟨trivial, fun h => absurd h (by decide)⟩ (fun hS => ?_)
    simp only [Act.put, List.setIfInBounds_toArray, List.set_cons_zero, List.set_cons_succ]
    refine wpAnyL_take (i := 8) (oi := ?oi151) (v := ?v151) ?hi151 (by kernel_rfl) ?hf151 ?hr151 (by decide) ?hQ151 (Or.inl ⟨?hw151, ?hy151⟩) (⟨hS.1, fun h => hS.2 (by first | rfl | exact h)⟩) ?rest151
    case hi151 => simp only [List.getElem?_toArray, List.getElem?_cons_succ, List.getElem?_cons_zero]; rfl
    case hf151 => kernel_rfl
    case hr151 => kernel_rfl
    case hw151 => rfl
    case hy151 => (intro w hSw; (try dsimp only at hSw); go_simp; all_goals (first | done | with_reducible rfl))
    case hQ151 => exact fun _ _ _ h => h
    simp only [Act.put, List.setIfInBounds_toArray, List.set_cons_zero, List.set_cons_succ]
    refine wpAnyL_ready (rs := [9]) (by kernel_rfl) (by simp) ?_
    refine AllReadyL.cons (o := ?oi152) ?hi152 (fun K hK => ?step152) AllReadyL.nil
    case hi152 => simp only [List.getElem?_toArray, List.getElem?_cons_succ, List.getElem?_cons_zero]; rfl
    rw [if_pos (by rfl)]
    go_simp
    refine hK.out _ _ ⟨trivial, fun h => absurd h (by decide)⟩ (fun hS => ?_)
    refine wpAnyL_done (by kernel_rfl) ?_ _
    clear b1 b1d b5 v6 v6f cb ba
    have hlen : (hs ++ [(⟨⟨nm.data.toList, 0, []⟩, .slice none 0 0, 0⟩ : HndV)]).length = n2 + 1 := by rw [List.length_append, hkn.out]; rfl
    have hsm : ∀ z ∈ hs ++ [(⟨⟨nm.data.toList, 0, []⟩, .slice none 0 0, 0⟩ : HndV)], hndSm 9 z.h := by
      intro z hz
      rcases List.mem_append.1 hz with hz | hz
      · exact HFH.out z hz
      · rw [List.mem_singleton.1 hz]
        exact ⟨by show nm.data.toList.length ≤ 20; rw [← Lib.size_eq]; exact hnm, ⟨Nat.zero_le _, fun f hf => by cases hf⟩⟩
    obtain ⟨b0, b0f, _⟩ := Rows.bcell2 (pre := []) (q := 0) X7.out rfl
    obtain ⟨b1, b1f, _⟩ := Rows.bcell2 (pre := []) (q := 1) X7.out rfl
    obtain ⟨b2, b2f, _⟩ := Rows.bcell2 (pre := []) (q := 2) X7.out rfl
    obtain ⟨l0, h0, _⟩ := Rows.bcell2 (pre := [_]) (q := 0) X7.out rfl
    obtain ⟨l1, h1, _⟩ := Rows.bcell2 (pre := [_]) (q := 1) X7.out rfl
    obtain ⟨l2, h2, _⟩ := Rows.bcell2 (pre := [_]) (q := 2) X7.out rfl
    go_wp2_with fail
    have Y1 := Rows.boxset (pre := [_]) (j := 0) (u := .slice (some ⟨g, 0, none⟩) ln c1) X7.out
    have Y2 := Rows.boxset (pre := [_]) (j := 1) (u := .slice A5 (n2 + 1) c5) Y1
    have Y3 := Rows.boxset (pre := [_]) (j := 2) (u := .int .i64 q) Y2
    have f0 := (Rows.bcell2 (pre := [_]) (q := 0) Y3 rfl).1
    have f1 := (Rows.bcell2 (pre := [_]) (q := 1) Y3 rfl).1
    have f2 := (Rows.bcell2 (pre := [_]) (q := 2) Y3 rfl).1
    refine bodyPost_ret (v := .agg #[.slice (some ⟨g, 0, none⟩) ln c1, .slice A5 (n2 + 1) c5, .int .i64 q]) (by simp [results, Tryz.results57, go_sem, f0, f1, f2]) rfl ?_
    have hll : (lsOf (a ++ x :: b)).length = ln := by rw [← hln.out]; simp [lsOf]
    have hhh : (hsOf (hs ++ [(⟨⟨nm.data.toList, 0, []⟩, .slice none 0 0, 0⟩ : HndV)])).length = n2 + 1 := by rw [← hlen]; simp [hsOf]
    refine ⟨_, treeRows (ln) (.slice (some ⟨g, 0, none⟩) ln c1) (a ++ x :: b) (n2 + 1) (.slice A5 (n2 + 1) c5) (hs ++ [(⟨⟨nm.data.toList, 0, []⟩, .slice none 0 0, 0⟩ : HndV)]), lsOf (a ++ x :: b), hsOf (hs ++ [(⟨⟨nm.data.toList, 0, []⟩, .slice none 0 0, 0⟩ : HndV)]), _, p5, rfl, ⟨_, _, a ++ x :: b, hs ++ [(⟨⟨nm.data.toList, 0, []⟩, .slice none 0 0, 0⟩ : HndV)], rfl, rfl, rfl, by rw [hln.out, hlen]⟩, ⟨by rw [hll]; omega, ⟨by rw [hll]; omega, fun l hl => ?_⟩, ⟨by rw [hhh]; omega, fun x hx => ?_⟩⟩, ?_, by omega, ((D6.out.set (b := rb) (j := 0) (u := .slice (some ⟨g, 0, none⟩) ln c1) hlt).set (b := rb) (j := 1) (u := .slice A5 (n2 + 1) c5) hlt).set (b := rb) (j := 2) (u := .int .i64 q) hlt, grown_at (b := rb) (j := 2) (u := .int .i64 q) (grown_at (b := rb) (j := 1) (u := .slice A5 (n2 + 1) c5) (grown_at (b := rb) (j := 0) (u := .slice (some ⟨g, 0, none⟩) ln c1) G6.out (by rw [hrb.out]; exact Nat.le_refl _)) (by rw [hrb.out]; exact Nat.le_refl _)) (by rw [hrb.out]; exact Nat.le_refl _)⟩
    · obtain ⟨y, hy, rfl⟩ := List.mem_map.1 hl; exact (HF.out) y hy
    · obtain ⟨y, hy, rfl⟩ := List.mem_map.1 hx; exact (hsm) y hy
    · rw [hrb.out]
      exact Y3.sub (List.Sublist.cons _ (List.Sublist.cons _ (List.Sublist.refl _)))
  · have q0 : ((s : Int) == 0) = false := by simp; omega
    have q1 : ((s : Int) == 1) = false := by simp; omega
    have q2 : ((s : Int) == 2) = false := by simp; omega
    have q3 : ((s : Int) == 3) = false := by simp; omega
    have q4 : ((s : Int) == 4) = false := by simp; omega
    have q5 : ((s : Int) == 5) = false := by simp; omega
    clear b0 b0f
    obtain ⟨b0, b0f, _⟩ := Rows.bcell2 (pre := []) (q := 0) X4.out rfl
    obtain ⟨b1, b1f, _⟩ := Rows.bcell2 (pre := []) (q := 1) X4.out rfl
    obtain ⟨b2, b2f, _⟩ := Rows.bcell2 (pre := []) (q := 2) X4.out rfl
    obtain ⟨l0, h0, _⟩ := Rows.bcell2 (pre := [_]) (q := 0) X4.out rfl
    obtain ⟨l1, h1, _⟩ := Rows.bcell2 (pre := [_]) (q := 1) X4.out rfl
    obtain ⟨l2, h2, _⟩ := Rows.bcell2 (pre := [_]) (q := 2) X4.out rfl
    go_wp2_with fail
    have Y1 := Rows.boxset (pre := [_]) (j := 0) (u := .slice (some ⟨g, 0, none⟩) ln c1) X4.out
    have Y2 := Rows.boxset (pre := [_]) (j := 1) (u := .slice A2 n2 c2) Y1
    have Y3 := Rows.boxset (pre := [_]) (j := 2) (u := .int .i64 q) Y2
    have f0 := (Rows.bcell2 (pre := [_]) (q := 0) Y3 rfl).1
    have f1 := (Rows.bcell2 (pre := [_]) (q := 1) Y3 rfl).1
    have f2 := (Rows.bcell2 (pre := [_]) (q := 2) Y3 rfl).1
    refine bodyPost_ret (v := .agg #[.slice (some ⟨g, 0, none⟩) ln c1, .slice A2 n2 c2, .int .i64 q]) (by simp [results, Tryz.results57, go_sem, f0, f1, f2]) rfl ?_
    have hll : (lsOf (a ++ x :: b)).length = ln := by rw [← hln.out]; simp [lsOf]
    have hhh : (hsOf (hs)).length = n2 := by rw [← hkn.out]; simp [hsOf]
    refine ⟨_, treeRows (ln) (.slice (some ⟨g, 0, none⟩) ln c1) (a ++ x :: b) (n2) (.slice A2 n2 c2) (hs), lsOf (a ++ x :: b), hsOf (hs), _, (p1 + 1 + 1), rfl, ⟨_, _, a ++ x :: b, hs, rfl, rfl, rfl, by rw [hln.out, hkn.out]⟩, ⟨by rw [hll]; omega, ⟨by rw [hll]; omega, fun l hl => ?_⟩, ⟨by rw [hhh]; omega, fun x hx => ?_⟩⟩, ?_, by omega, ((D4.out.set (b := rb) (j := 0) (u := .slice (some ⟨g, 0, none⟩) ln c1) hlt).set (b := rb) (j := 1) (u := .slice A2 n2 c2) hlt).set (b := rb) (j := 2) (u := .int .i64 q) hlt, grown_at (b := rb) (j := 2) (u := .int .i64 q) (grown_at (b := rb) (j := 1) (u := .slice A2 n2 c2) (grown_at (b := rb) (j := 0) (u := .slice (some ⟨g, 0, none⟩) ln c1) G4.out (by rw [hrb.out]; exact Nat.le_refl _)) (by rw [hrb.out]; exact Nat.le_refl _)) (by rw [hrb.out]; exact Nat.le_refl _)⟩
    · obtain ⟨y, hy, rfl⟩ := List.mem_map.1 hl; exact (HF.out) y hy
    · obtain ⟨y, hy, rfl⟩ := List.mem_map.1 hx; exact (HFH.out) y hy
    · rw [hrb.out]
      exact Y3.sub (List.Sublist.cons _ (List.Sublist.cons _ (List.Sublist.refl _)))
end Go.Proofs.YtioegkcekbkblaaGreat
