/-
  DRAWS: a tree and a name. By gen_e5.py.
-/
import Derived.Test.YtioegkcekbkblaaGreatZxE4
namespace Go.Proofs.YtioegkcekbkblaaGreat
open Go.RowKit Nm
set_option linter.unusedSimpArgs false
set_option linter.unusedVariables false

def NamedDraw (R p dp : Nat) (w : World) (e : Ending) (w' : World) : Prop :=
  ∃ (v : Value) (rs : List Row) (L : List Lgr) (H : List Hnd) (q : Int) (nm : ByteArray) (p' : Nat), e = .returned (.tuple #[v, .string nm]) ∧ TreeS rs v L H q ∧ treeSm 9 L H ∧ nm.size ≤ 20 ∧ Rows w' w.heap.size rs ∧ p' ≤ p + dp ∧ Rdr w' R p' ∧ w.grownBy w' (some R)
theorem TreeS.form_ {w : World} {lo : Nat} {rs : List Row} {v : Value} {L : List Lgr} {H : List Hnd} {q : Int} (h : TreeS rs v L H q) (hr : Rows w lo rs) : ∃ A1 n1 k1 A2 n2 k2, v = .agg #[.slice A1 n1 k1, .slice A2 n2 k2, .int .i64 q] ∧ n1 = L.length ∧ n2 = H.length := by
  obtain ⟨v1, v2, ls, hs, rfl, hL, hH, rfl⟩ := h
  obtain ⟨A1, k1, rfl, _, _⟩ := (Sl.of_own (show w.ownsRow _ 72 6 v1 ls.length (ls.flatMap lcells) from hr.left.head)).form
  obtain ⟨A2, k2, rfl, _, _⟩ := (Sl.of_own (show w.ownsRow _ 47 3 v2 hs.length (hs.flatMap hcells) from hr.right.head)).form
  exact ⟨A1, _, k1, A2, _, k2, rfl, by rw [← hL]; simp [lsOf], by rw [← hH]; simp [hsOf]⟩
theorem three_set {w : World} {b rb : Nat} {c0 c1 c2 u0 u1 u2 : Value} (hne : rb ≠ b) (h : w.cell? ⟨b, 0, none⟩ = some c0 ∧ w.cell? ⟨b, 1, none⟩ = some c1 ∧ w.cell? ⟨b, 2, none⟩ = some c2) :
    (((w.setCell ⟨rb, 0, none⟩ u0).setCell ⟨rb, 1, none⟩ u1).setCell ⟨rb, 2, none⟩ u2).cell? ⟨b, 0, none⟩ = some c0 ∧ (((w.setCell ⟨rb, 0, none⟩ u0).setCell ⟨rb, 1, none⟩ u1).setCell ⟨rb, 2, none⟩ u2).cell? ⟨b, 1, none⟩ = some c1 ∧ (((w.setCell ⟨rb, 0, none⟩ u0).setCell ⟨rb, 1, none⟩ u1).setCell ⟨rb, 2, none⟩ u2).cell? ⟨b, 2, none⟩ = some c2 :=
  ⟨(World.cell?_setCell_far _ _ _ _ hne).trans ((World.cell?_setCell_far _ _ _ _ hne).trans ((World.cell?_setCell_far _ _ _ _ hne).trans h.1)), (World.cell?_setCell_far _ _ _ _ hne).trans ((World.cell?_setCell_far _ _ _ _ hne).trans ((World.cell?_setCell_far _ _ _ _ hne).trans h.2.1)), (World.cell?_setCell_far _ _ _ _ hne).trans ((World.cell?_setCell_far _ _ _ _ hne).trans ((World.cell?_setCell_far _ _ _ _ hne).trans h.2.2))⟩
theorem one_set {w : World} {b j rb : Nat} {c0 u0 u1 u2 : Value} (hne : rb ≠ b) (h : w.cell? ⟨b, j, none⟩ = some c0) : (((w.setCell ⟨rb, 0, none⟩ u0).setCell ⟨rb, 1, none⟩ u1).setCell ⟨rb, 2, none⟩ u2).cell? ⟨b, j, none⟩ = some c0 :=
  (World.cell?_setCell_far _ _ _ _ hne).trans ((World.cell?_setCell_far _ _ _ _ hne).trans ((World.cell?_setCell_far _ _ _ _ hne).trans h))

set_option maxHeartbeats 16000000 in
set_option maxRecDepth 100000 in
theorem treeName_c (R p : Nat) (w : World) (hr : Rdr w R p) (hp : p ≤ 300000) :
    Calls Tryz.prog 85 #[.pointer (some ⟨R, 0, none⟩)] w (NamedDraw R p 460 w) := by
  have hlt := hr.lt
  have HZ := hid (show Rows (w.alloc (.cells #[.slice none 0 0, .slice none 0 0, .int .i64 0] 26)) w.heap.size [bxRow 26 3 w.heap.size [.slice none 0 0, .slice none 0 0, .int .i64 0]] from Rows.box w #[.slice none 0 0, .slice none 0 0, .int .i64 0] 26 3 rfl)
  have C := hid (someTree_c R p (w.alloc (.cells #[.slice none 0 0, .slice none 0 0, .int .i64 0] 26)) (hr.below ((Below.refl _ _).alloc (Nat.le_refl _) _)) (by omega))
  have G0 := hid (show w.grownBy (w.alloc (.cells #[.slice none 0 0, .slice none 0 0, .int .i64 0] 26)) (some R) from World.grownBy_alloc w _ _)
  clear hr
  go_enter Tryz.func85, Tryz.ntmps85
  go_wp2_with fail
  refine C.out.mono ?_
  rintro e w1 ⟨_, _, L, H, q, p1, rfl, ⟨v1, v2, ls, hs, rfl, rfl, rfl, rfl⟩, hsm, hR1, hp1, hr1, hg1⟩
  have hlen : (lsOf ls).length = ls.length := by simp [lsOf]
  have hL1 := hsm.1
  have hL8 := hsm.2.1.1
  have hFn := hsm.2.1.2
  have HSm := hid hsm
  have HFn := hid (show ∀ x ∈ ls, x.l.nm.length ≤ 20 from fun x hx => (hFn x.l (List.mem_map.2 ⟨x, hx, rfl⟩)).1)
  rw [hlen] at hL1 hL8
  clear hlen hsm hFn
  obtain ⟨A1, c1, rfl, _, _⟩ := (Sl.of_own (show w1.ownsRow _ 72 6 v1 ls.length (ls.flatMap lcells) from hR1.left.head)).form
  obtain ⟨A2, c2, rfl, _, _⟩ := (Sl.of_own (show w1.ownsRow _ 47 3 v2 hs.length (hs.flatMap hcells) from hR1.right.head)).form
  obtain ⟨g, rfl, hgl⟩ := own_some (show w1.ownsRow _ 72 6 (.slice A1 ls.length c1) ls.length (ls.flatMap lcells) from hR1.left.head) hL1
  have hs0 : w.heap.size < w1.heap.size := by have := hg1.size; simp at this; omega
  have hgb : w.heap.size + 1 ≤ g := by have := own_lt (show w1.ownsRow _ 72 6 (.slice (some ⟨g, 0, none⟩) ls.length c1) ls.length (ls.flatMap lcells) from hR1.left.head) g rfl; simpa using this
  have X1 := HZ.out.newerR hg1 hlt hR1 (by simp)
  have X2 := (X1.newer ((Below.refl w1.heap.size w1).alloc (Nat.le_refl _) (.cells #[.slice (some ⟨g, 0, none⟩) ls.length c1, .slice A2 hs.length c2, .int .i64 q] 26)) (Rows.box w1 #[.slice (some ⟨g, 0, none⟩) ls.length c1, .slice A2 hs.length c2, .int .i64 q] 26 3 rfl) (Nat.le_of_lt hs0)).perm (List.Perm.append_left _ List.perm_append_comm)
  have G2 := hid (grown_new (grown_tr G0.out hg1) ((Below.refl w1.heap.size w1).alloc (Nat.le_refl _) (.cells #[.slice (some ⟨g, 0, none⟩) ls.length c1, .slice A2 hs.length c2, .int .i64 q] 26)))
  have D2 := (hr1.below ((Below.refl _ _).alloc (Nat.le_refl _) (.cells #[.slice (some ⟨g, 0, none⟩) ls.length c1, .slice A2 hs.length c2, .int .i64 q] 26)))
  generalize hln : ls.length = ln at *
  generalize hkn : hs.length = n2 at *
  replace hln := hid hln
  replace hkn := hid hkn
  have C2 := hid (pick_c R p1 3 _ D2 (by omega) (by omega))
  have hs2 : w1.heap.size < (w1.alloc (.cells #[.slice (some ⟨g, 0, none⟩) ln c1, .slice A2 n2 c2, .int .i64 q] 26)).heap.size := by simp
  replace X2 := hid X2
  clear hR1 hr1 hg1 X1 D2 HZ G0 C
  go_wp2_with fail
  generalize hbb : w1.heap.size = bb at *
  generalize hrb : w.heap.size = rb at *
  replace hrb := hid hrb
  generalize w1.alloc (.cells #[.slice (some ⟨g, 0, none⟩) ln c1, .slice A2 n2 c2, .int .i64 q] 26) = w2 at *
  clear hbb
  refine C2.out.mono ?_
  rintro e w3 ⟨k3, rfl, _, _, hr3, hg3⟩
  have X3 := hid (X2.out.offR hg3 hlt)
  have D3 := hid hr3
  have G3 := hid (grown_tr G2.out hg3)
  have hs3 : bb < w3.heap.size := Nat.lt_of_lt_of_le hs2 hg3.size
  clear hr3 hg3 X2 G2 C2 hs2
  have sb : w3.drew.cell? ⟨bb, 0, none⟩ = some (.slice (some ⟨g, 0, none⟩) ln c1) ∧ w3.drew.cell? ⟨bb, 1, none⟩ = some (.slice A2 n2 c2) ∧ w3.drew.cell? ⟨bb, 2, none⟩ = some (.int .i64 q) := ⟨(Rows.bcell2 (pre := []) (q := 0) X3.out rfl).1, (Rows.bcell2 (pre := []) (q := 1) X3.out rfl).1, (Rows.bcell2 (pre := []) (q := 2) X3.out rfl).1⟩
  by_cases hk3 : 0 < k3
  · have C5 := hid (pick_c R (p1 + 1) ln w3.drew (D3.out.below (Below.refl _ _).drew) (by omega) (by omega))
    replace sb := hid sb
    go_wp2_with fail
    refine wp_region_held_drew (S := (fun w' : World => w'.cell? ⟨bb, 0, none⟩ = some (.slice (some ⟨g, 0, none⟩) ln c1) ∧ w'.cell? ⟨bb, 1, none⟩ = some (.slice A2 n2 c2) ∧ w'.cell? ⟨bb, 2, none⟩ = some (.int .i64 q))) (by kernel_rfl) sb.out (fun hS => ?_)
    refine wpAnyH_take (i := 0) (oi := ?oi101) (v := ?v101) ?hi101 (by kernel_rfl) ?hf101 ?hr101 ?hQ101 (Or.inl ⟨?hw101, ?hy101⟩) (by assumption) ?rest101
    case hi101 => simp only [List.getElem?_toArray, List.getElem?_cons_succ, List.getElem?_cons_zero]; rfl
    case hf101 => kernel_rfl
    case hr101 => kernel_rfl
    case hw101 => rfl
    case hy101 => (intro w hSw; (try dsimp only at hSw); go_simp; all_goals (first | done | with_reducible rfl))
    case hQ101 => exact fun _ _ _ h => h
    simp only [Act.put, List.setIfInBounds_toArray, List.set_cons_zero, List.set_cons_succ]
    refine wpAnyH_take (i := 1) (oi := ?oi102) (v := ?v102) ?hi102 (by kernel_rfl) ?hf102 ?hr102 ?hQ102 (Or.inl ⟨?hw102, ?hy102⟩) (by assumption) ?rest102
    case hi102 => simp only [List.getElem?_toArray, List.getElem?_cons_succ, List.getElem?_cons_zero]; rfl
    case hf102 => kernel_rfl
    case hr102 => kernel_rfl
    case hw102 => rfl
    case hy102 => (intro w hSw; (try dsimp only at hSw); go_simp; all_goals (first | done | with_reducible rfl))
    case hQ102 => exact fun _ _ _ h => h
    simp only [Act.put, List.setIfInBounds_toArray, List.set_cons_zero, List.set_cons_succ]
    refine wpAnyH_take (i := 2) (oi := ?oi103) (v := ?v103) ?hi103 (by kernel_rfl) ?hf103 ?hr103 ?hQ103 (Or.inl ⟨?hw103, ?hy103⟩) (by assumption) ?rest103
    case hi103 => simp only [List.getElem?_toArray, List.getElem?_cons_succ, List.getElem?_cons_zero]; rfl
    case hf103 => kernel_rfl
    case hr103 => kernel_rfl
    case hw103 => rfl
    case hy103 => (intro w hSw; (try dsimp only at hSw); go_simp; all_goals (first | done | with_reducible rfl))
    case hQ103 => exact fun _ _ _ h => h
    simp only [Act.put, List.setIfInBounds_toArray, List.set_cons_zero, List.set_cons_succ]
    refine wpAnyH_take (i := 3) (oi := ?oi104) (v := ?v104) ?hi104 (by kernel_rfl) ?hf104 ?hr104 ?hQ104 (Or.inl ⟨?hw104, ?hy104⟩) (by assumption) ?rest104
    case hi104 => simp only [List.getElem?_toArray, List.getElem?_cons_succ, List.getElem?_cons_zero]; rfl
    case hf104 => kernel_rfl
    case hr104 => kernel_rfl
    case hw104 => rfl
    case hy104 => (intro w hSw; (try dsimp only at hSw); go_simp; all_goals (first | done | with_reducible rfl))
    case hQ104 => exact fun _ _ _ h => h
    simp only [Act.put, List.setIfInBounds_toArray, List.set_cons_zero, List.set_cons_succ]
    refine wpAnyH_take (i := 4) (oi := ?oi105) (v := ?v105) ?hi105 (by kernel_rfl) ?hf105 ?hr105 ?hQ105 (Or.inl ⟨?hw105, ?hy105⟩) (by assumption) ?rest105
    case hi105 => simp only [List.getElem?_toArray, List.getElem?_cons_succ, List.getElem?_cons_zero]; rfl
    case hf105 => kernel_rfl
    case hr105 => kernel_rfl
    case hw105 => rfl
    case hy105 => (intro w hSw; (try dsimp only at hSw); go_simp; all_goals (first | done | with_reducible rfl))
    case hQ105 => exact fun _ _ _ h => h
    simp only [Act.put, List.setIfInBounds_toArray, List.set_cons_zero, List.set_cons_succ]
    refine wpAnyH_take (i := 5) (oi := ?oi106) (v := ?v106) ?hi106 (by kernel_rfl) ?hf106 ?hr106 ?hQ106 (Or.inl ⟨?hw106, ?hy106⟩) (by assumption) ?rest106
    case hi106 => simp only [List.getElem?_toArray, List.getElem?_cons_succ, List.getElem?_cons_zero]; rfl
    case hf106 => kernel_rfl
    case hr106 => kernel_rfl
    case hw106 => rfl
    case hy106 => (intro w hSw; (try dsimp only at hSw); go_simp; all_goals (first | done | with_reducible rfl))
    case hQ106 => exact fun _ _ _ h => h
    simp only [Act.put, List.setIfInBounds_toArray, List.set_cons_zero, List.set_cons_succ]
    refine wpAnyH_take (i := 6) (oi := ?oi107) (v := ?v107) ?hi107 (by kernel_rfl) ?hf107 ?hr107 ?hQ107 (Or.inl ⟨?hw107, ?hy107⟩) (by assumption) ?rest107
    case hi107 => simp only [List.getElem?_toArray, List.getElem?_cons_succ, List.getElem?_cons_zero]; rfl
    case hf107 => kernel_rfl
    case hr107 => kernel_rfl
    case hw107 => rfl
    case hy107 => (intro w hSw; (try dsimp only at hSw); go_simp; all_goals (first | done | with_reducible rfl))
    case hQ107 => exact fun _ _ _ h => h
    simp only [Act.put, List.setIfInBounds_toArray, List.set_cons_zero, List.set_cons_succ]
    refine wpAnyH_ready (rs := [7]) (by kernel_rfl) (by simp) ?_
    refine AllReadyH.cons (o := ?oi108) ?hi108 (fun K hK => ?step108) AllReadyH.nil
    case hi108 => simp only [List.getElem?_toArray, List.getElem?_cons_succ, List.getElem?_cons_zero]; rfl
    rw [if_pos (by rfl)]
    go_simp
    go_at_call 75
    refine C5.out.mono ?_
    rintro e w5 ⟨k, rfl, hk1, _, hr5, hg5⟩
    have hk : k < ln := by have := hk1 (by omega); omega
    have X5 := hid (X3.out.dr.offR hg5 hlt)
    have D5 := hid hr5
    have G5 := hid (grown_tr (grown_drN G3.out 1) hg5)
    have hs5 : bb < w5.heap.size := Nat.lt_of_lt_of_le hs3 hg5.size
    obtain ⟨a, x, b, rfl, hak⟩ := split_at ls k (by rw [hln.out]; exact hk)
    have hm5 : lsRow ln (.slice (some ⟨g, 0, none⟩) ln c1) (a ++ x :: b) ∈ ([bxRow 26 3 bb [.slice (some ⟨g, 0, none⟩) ln c1, .slice A2 n2 c2, .int .i64 q]] ++ ([bxRow 26 3 rb [.slice none 0 0, .slice none 0 0, .int .i64 0]] ++ treeRows ln (.slice (some ⟨g, 0, none⟩) ln c1) (a ++ x :: b) n2 (.slice A2 n2 c2) hs)) := by simp [treeRows]
    obtain ⟨nm, hnm, hnx⟩ : ∃ nm : ByteArray, txt x.l.nm = .string nm ∧ nm.size ≤ 20 := ⟨⟨x.l.nm.toArray⟩, rfl, by rw [Lib.size_eq]; simpa using HFn.out x (by simp)⟩
    obtain ⟨u0, _, hgl5⟩ := cellOf (j := 0) X5.out hm5 (by omega) (show (lcells x)[0]? = some (.string nm) by rw [← hnm]; rfl)
    simp only [hak, Nat.add_zero] at u0
    have s5 : w5.cell? ⟨bb, 0, none⟩ = some (.slice (some ⟨g, 0, none⟩) ln c1) ∧ w5.cell? ⟨bb, 1, none⟩ = some (.slice A2 n2 c2) ∧ w5.cell? ⟨bb, 2, none⟩ = some (.int .i64 q) := ⟨(Rows.bcell2 (pre := []) (q := 0) X5.out rfl).1, (Rows.bcell2 (pre := []) (q := 1) X5.out rfl).1, (Rows.bcell2 (pre := []) (q := 2) X5.out rfl).1⟩
    obtain ⟨l0, h0, _⟩ := Rows.bcell2 (pre := [_]) (q := 0) X5.out rfl
    obtain ⟨l1, h1, _⟩ := Rows.bcell2 (pre := [_]) (q := 1) X5.out rfl
    obtain ⟨l2, h2, _⟩ := Rows.bcell2 (pre := [_]) (q := 2) X5.out rfl
    have HU := hid u0
    have s0 : (0 : Int) ≤ (k : Int) := by omega
    have s1 : (k : Int) < (ln : Int) := by omega
    have s2 : ((k : Int)).toNat = k := by simp
    have hnb : rb ≠ bb := by omega
    have hng : rb ≠ g := by omega
    have S7 := hid (And.intro (three_set (u0 := .slice (some ⟨g, 0, none⟩) ln c1) (u1 := .slice A2 n2 c2) (u2 := .int .i64 q) hnb s5) (one_set (u0 := .slice (some ⟨g, 0, none⟩) ln c1) (u1 := .slice A2 n2 c2) (u2 := .int .i64 q) hng u0))
    clear hr5 hg5 C5 hk1
    refine hK.out _ _ s5 (fun hS => ?_)
    refine wpAnyH_mono (S' := fun w' : World => (w'.cell? ⟨bb, 0, none⟩ = some (.slice (some ⟨g, 0, none⟩) ln c1) ∧ w'.cell? ⟨bb, 1, none⟩ = some (.slice A2 n2 c2) ∧ w'.cell? ⟨bb, 2, none⟩ = some (.int .i64 q)) ∧ w'.cell? ⟨g, k * 6, none⟩ = some (.string nm)) (fun _ h => h.1) _ _ _ _ ?_
    have hS2 : (fun w' : World => (w'.cell? ⟨bb, 0, none⟩ = some (.slice (some ⟨g, 0, none⟩) ln c1) ∧ w'.cell? ⟨bb, 1, none⟩ = some (.slice A2 n2 c2) ∧ w'.cell? ⟨bb, 2, none⟩ = some (.int .i64 q)) ∧ w'.cell? ⟨g, k * 6, none⟩ = some (.string nm)) w5 := ⟨s5, u0⟩
    clear hS
    refine wpAnyH_take (i := 8) (oi := ?oi109) (v := ?v109) ?hi109 (by kernel_rfl) ?hf109 ?hr109 ?hQ109 (Or.inl ⟨?hw109, ?hy109⟩) (by assumption) ?rest109
    case hi109 => simp only [List.getElem?_toArray, List.getElem?_cons_succ, List.getElem?_cons_zero]; rfl
    case hf109 => kernel_rfl
    case hr109 => kernel_rfl
    case hw109 => rfl
    case hy109 => (intro w hSw; (try dsimp only at hSw); go_simp; all_goals (first | done | with_reducible rfl))
    case hQ109 => exact fun _ _ _ h => h
    simp only [Act.put, List.setIfInBounds_toArray, List.set_cons_zero, List.set_cons_succ]
    refine wpAnyH_take (i := 9) (oi := ?oi110) (v := ?v110) ?hi110 (by kernel_rfl) ?hf110 ?hr110 ?hQ110 (Or.inl ⟨?hw110, ?hy110⟩) (by assumption) ?rest110
    case hi110 => simp only [List.getElem?_toArray, List.getElem?_cons_succ, List.getElem?_cons_zero]; rfl
    case hf110 => kernel_rfl
    case hr110 => kernel_rfl
    case hw110 => rfl
    case hy110 => (intro w hSw; (try dsimp only at hSw); go_simp; all_goals (first | done | with_reducible rfl))
    case hQ110 => exact fun _ _ _ h => h
    simp only [Act.put, List.setIfInBounds_toArray, List.set_cons_zero, List.set_cons_succ]
    refine wpAnyH_take (i := 10) (oi := ?oi111) (v := ?v111) ?hi111 (by kernel_rfl) ?hf111 ?hr111 ?hQ111 (Or.inl ⟨?hw111, ?hy111⟩) (by assumption) ?rest111
    case hi111 => simp only [List.getElem?_toArray, List.getElem?_cons_succ, List.getElem?_cons_zero]; rfl
    case hf111 => kernel_rfl
    case hr111 => kernel_rfl
    case hw111 => rfl
    case hy111 => (intro w hSw; (try dsimp only at hSw); go_simp; all_goals (first | done | with_reducible rfl))
    case hQ111 => exact fun _ _ _ h => h
    simp only [Act.put, List.setIfInBounds_toArray, List.set_cons_zero, List.set_cons_succ]
    refine wpAnyH_ready (rs := [11]) (by kernel_rfl) (by simp) ?_
    refine AllReadyH.cons (o := ?oi112) ?hi112 (fun K hK => ?step112) AllReadyH.nil
    case hi112 => simp only [List.getElem?_toArray, List.getElem?_cons_succ, List.getElem?_cons_zero]; rfl
    rw [if_pos (by rfl)]
    go_simp
    refine hK.out _ _ S7.out (fun hS => ?_)
    refine wpAnyH_take (i := 12) (oi := ?oi113) (v := ?v113) ?hi113 (by kernel_rfl) ?hf113 ?hr113 ?hQ113 (Or.inl ⟨?hw113, ?hy113⟩) (by assumption) ?rest113
    case hi113 => simp only [List.getElem?_toArray, List.getElem?_cons_succ, List.getElem?_cons_zero]; rfl
    case hf113 => kernel_rfl
    case hr113 => kernel_rfl
    case hw113 => rfl
    case hy113 => (intro w hSw; (try dsimp only at hSw); go_simp; all_goals (first | done | with_reducible rfl))
    case hQ113 => exact fun _ _ _ h => h
    simp only [Act.put, List.setIfInBounds_toArray, List.set_cons_zero, List.set_cons_succ]
    refine wpAnyH_done (by kernel_rfl) ?_ _
    clear l0 l1 l2 h0 h1 h2 u0 s5
    go_wp2_with fail
    have Y1 := Rows.boxset (pre := [_]) (j := 0) (u := .slice (some ⟨g, 0, none⟩) ln c1) X5.out
    have Y2 := Rows.boxset (pre := [_]) (j := 1) (u := .slice A2 n2 c2) Y1
    have Y3 := Rows.boxset (pre := [_]) (j := 2) (u := .int .i64 q) Y2
    have f0 := (Rows.bcell2 (pre := [_]) (q := 0) Y3 rfl).1
    have f1 := (Rows.bcell2 (pre := [_]) (q := 1) Y3 rfl).1
    have f2 := (Rows.bcell2 (pre := [_]) (q := 2) Y3 rfl).1
    refine bodyPost_ret (v := .tuple #[.agg #[.slice (some ⟨g, 0, none⟩) ln c1, .slice A2 n2 c2, .int .i64 q], .string nm]) (by simp [results, Tryz.results85, go_sem, f0, f1, f2]) rfl ?_
    refine ⟨_, treeRows (a ++ x :: b).length (.slice (some ⟨g, 0, none⟩) ln c1) (a ++ x :: b) hs.length (.slice A2 n2 c2) hs, lsOf (a ++ x :: b), hsOf hs, _, nm, (p1 + 1 + 1), rfl, ⟨_, _, a ++ x :: b, hs, rfl, rfl, rfl, rfl⟩, HSm.out, hnx, ?_, by omega, ((D5.out.set (b := rb) (j := 0) (u := .slice (some ⟨g, 0, none⟩) ln c1) hlt).set (b := rb) (j := 1) (u := .slice A2 n2 c2) hlt).set (b := rb) (j := 2) (u := .int .i64 q) hlt, grown_at (b := rb) (j := 2) (u := .int .i64 q) (grown_at (b := rb) (j := 1) (u := .slice A2 n2 c2) (grown_at (b := rb) (j := 0) (u := .slice (some ⟨g, 0, none⟩) ln c1) G5.out (by rw [hrb.out]; exact Nat.le_refl _)) (by rw [hrb.out]; exact Nat.le_refl _)) (by rw [hrb.out]; exact Nat.le_refl _)⟩
    rw [hrb.out, hln.out, hkn.out]
    exact Y3.sub (List.Sublist.cons _ (List.Sublist.cons _ (List.Sublist.refl _)))
  · have hk0 : k3 = 0 := by omega
    subst hk0
    have C5 := hid (anyName_c R (p1 + 1) w3.drew (D3.out.below (Below.refl _ _).drew) (by omega))
    replace sb := hid sb
    go_wp2_with fail
    refine wp_region_held_drew (S := (fun w' : World => w'.cell? ⟨bb, 0, none⟩ = some (.slice (some ⟨g, 0, none⟩) ln c1) ∧ w'.cell? ⟨bb, 1, none⟩ = some (.slice A2 n2 c2) ∧ w'.cell? ⟨bb, 2, none⟩ = some (.int .i64 q))) (by kernel_rfl) sb.out (fun hS => ?_)
    refine wpAnyH_take (i := 0) (oi := ?oi114) (v := ?v114) ?hi114 (by kernel_rfl) ?hf114 ?hr114 ?hQ114 (Or.inl ⟨?hw114, ?hy114⟩) (by assumption) ?rest114
    case hi114 => simp only [List.getElem?_toArray, List.getElem?_cons_succ, List.getElem?_cons_zero]; rfl
    case hf114 => kernel_rfl
    case hr114 => kernel_rfl
    case hw114 => rfl
    case hy114 => (intro w hSw; (try dsimp only at hSw); go_simp; all_goals (first | done | with_reducible rfl))
    case hQ114 => exact fun _ _ _ h => h
    simp only [Act.put, List.setIfInBounds_toArray, List.set_cons_zero, List.set_cons_succ]
    refine wpAnyH_take (i := 1) (oi := ?oi115) (v := ?v115) ?hi115 (by kernel_rfl) ?hf115 ?hr115 ?hQ115 (Or.inl ⟨?hw115, ?hy115⟩) (by assumption) ?rest115
    case hi115 => simp only [List.getElem?_toArray, List.getElem?_cons_succ, List.getElem?_cons_zero]; rfl
    case hf115 => kernel_rfl
    case hr115 => kernel_rfl
    case hw115 => rfl
    case hy115 => (intro w hSw; (try dsimp only at hSw); go_simp; all_goals (first | done | with_reducible rfl))
    case hQ115 => exact fun _ _ _ h => h
    simp only [Act.put, List.setIfInBounds_toArray, List.set_cons_zero, List.set_cons_succ]
    refine wpAnyH_ready (rs := [2]) (by kernel_rfl) (by simp) ?_
    refine AllReadyH.cons (o := ?oi116) ?hi116 (fun K hK => ?step116) AllReadyH.nil
    case hi116 => simp only [List.getElem?_toArray, List.getElem?_cons_succ, List.getElem?_cons_zero]; rfl
    rw [if_pos (by rfl)]
    go_simp
    go_at_call 111
    refine C5.out.mono ?_
    rintro e w5 ⟨nm, p5, hnx, rfl, hp5, hr5, hg5⟩
    have X5 := hid (X3.out.dr.offR hg5 hlt)
    have D5 := hid hr5
    have G5 := hid (grown_tr (grown_drN G3.out 1) hg5)
    have s5 : w5.cell? ⟨bb, 0, none⟩ = some (.slice (some ⟨g, 0, none⟩) ln c1) ∧ w5.cell? ⟨bb, 1, none⟩ = some (.slice A2 n2 c2) ∧ w5.cell? ⟨bb, 2, none⟩ = some (.int .i64 q) := ⟨(Rows.bcell2 (pre := []) (q := 0) X5.out rfl).1, (Rows.bcell2 (pre := []) (q := 1) X5.out rfl).1, (Rows.bcell2 (pre := []) (q := 2) X5.out rfl).1⟩
    obtain ⟨l0, h0, _⟩ := Rows.bcell2 (pre := [_]) (q := 0) X5.out rfl
    obtain ⟨l1, h1, _⟩ := Rows.bcell2 (pre := [_]) (q := 1) X5.out rfl
    obtain ⟨l2, h2, _⟩ := Rows.bcell2 (pre := [_]) (q := 2) X5.out rfl
    have hnb : rb ≠ bb := by omega
    have S7 := hid (three_set (u0 := .slice (some ⟨g, 0, none⟩) ln c1) (u1 := .slice A2 n2 c2) (u2 := .int .i64 q) hnb s5)
    clear hr5 hg5 C5
    refine hK.out _ _ s5 (fun hS => ?_)
    refine wpAnyH_ready (rs := [3]) (by kernel_rfl) (by simp) ?_
    refine AllReadyH.cons (o := ?oi117) ?hi117 (fun K hK => ?step117) AllReadyH.nil
    case hi117 => simp only [List.getElem?_toArray, List.getElem?_cons_succ, List.getElem?_cons_zero]; rfl
    rw [if_pos (by rfl)]
    go_simp
    refine hK.out _ _ S7.out (fun hS => ?_)
    refine wpAnyH_take (i := 4) (oi := ?oi118) (v := ?v118) ?hi118 (by kernel_rfl) ?hf118 ?hr118 ?hQ118 (Or.inl ⟨?hw118, ?hy118⟩) (by assumption) ?rest118
    case hi118 => simp only [List.getElem?_toArray, List.getElem?_cons_succ, List.getElem?_cons_zero]; rfl
    case hf118 => kernel_rfl
    case hr118 => kernel_rfl
    case hw118 => rfl
    case hy118 => (intro w hSw; (try dsimp only at hSw); go_simp; all_goals (first | done | with_reducible rfl))
    case hQ118 => exact fun _ _ _ h => h
    simp only [Act.put, List.setIfInBounds_toArray, List.set_cons_zero, List.set_cons_succ]
    refine wpAnyH_done (by kernel_rfl) ?_ _
    clear l0 l1 l2 h0 h1 h2 s5
    go_wp2_with fail
    have Y1 := Rows.boxset (pre := [_]) (j := 0) (u := .slice (some ⟨g, 0, none⟩) ln c1) X5.out
    have Y2 := Rows.boxset (pre := [_]) (j := 1) (u := .slice A2 n2 c2) Y1
    have Y3 := Rows.boxset (pre := [_]) (j := 2) (u := .int .i64 q) Y2
    have f0 := (Rows.bcell2 (pre := [_]) (q := 0) Y3 rfl).1
    have f1 := (Rows.bcell2 (pre := [_]) (q := 1) Y3 rfl).1
    have f2 := (Rows.bcell2 (pre := [_]) (q := 2) Y3 rfl).1
    refine bodyPost_ret (v := .tuple #[.agg #[.slice (some ⟨g, 0, none⟩) ln c1, .slice A2 n2 c2, .int .i64 q], .string nm]) (by simp [results, Tryz.results85, go_sem, f0, f1, f2]) rfl ?_
    refine ⟨_, treeRows ls.length (.slice (some ⟨g, 0, none⟩) ln c1) ls hs.length (.slice A2 n2 c2) hs, lsOf ls, hsOf hs, _, nm, p5, rfl, ⟨_, _, ls, hs, rfl, rfl, rfl, rfl⟩, HSm.out, by omega, ?_, by omega, ((D5.out.set (b := rb) (j := 0) (u := .slice (some ⟨g, 0, none⟩) ln c1) hlt).set (b := rb) (j := 1) (u := .slice A2 n2 c2) hlt).set (b := rb) (j := 2) (u := .int .i64 q) hlt, grown_at (b := rb) (j := 2) (u := .int .i64 q) (grown_at (b := rb) (j := 1) (u := .slice A2 n2 c2) (grown_at (b := rb) (j := 0) (u := .slice (some ⟨g, 0, none⟩) ln c1) G5.out (by rw [hrb.out]; exact Nat.le_refl _)) (by rw [hrb.out]; exact Nat.le_refl _)) (by rw [hrb.out]; exact Nat.le_refl _)⟩
    rw [hrb.out, hln.out, hkn.out]
    exact Y3.sub (List.Sublist.cons _ (List.Sublist.cons _ (List.Sublist.refl _)))
end Go.Proofs.YtioegkcekbkblaaGreat
