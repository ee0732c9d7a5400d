/-
  FILES: a line behind the first list, by an open file that a deferred call closes.
-/
import Derived.Test.YtoiagfdhanhnkaaF10
import Derived.Test.YtoiagfdhanhnkaaF11
import Derived.Defers
namespace Go.Proofs.Ytoiagfdhanhnkaa
open Go.RowKit Nm
set_option linter.unusedSimpArgs false
set_option linter.unusedVariables false

theorem top_put {w : World} {lo g n c : Nat} {T : TypeId} {u0 u : Value} {hs : List Value} {rs : List Row} (h : Rows w lo ((⟨T, 1, n, .slice (some ⟨g, 0, none⟩) n c, u0 :: hs⟩ : Row) :: rs)) : Rows (w.setCell ⟨g, 0, none⟩ u) lo ((⟨T, 1, n, .slice (some ⟨g, 0, none⟩) n c, u :: hs⟩ : Row) :: rs) := by
  have htop : w.ownsRow lo T 1 (.slice (some ⟨g, 0, none⟩) n c) n (u0 :: hs) := h.head
  have hst := htop.stored 0 u
  exact Rows.write (pre := []) (r := ⟨T, 1, n, .slice (some ⟨g, 0, none⟩) n c, u0 :: hs⟩) h hst.2 hst.1

set_option maxHeartbeats 4000000 in
set_option maxRecDepth 100000 in
theorem openFile_c {w : World} {bo g n c : Nat} {A6 : Option Addr} {n6 c6 : Nat} (h0 : w.cell? ⟨bo, 2, none⟩ = some (.slice (some ⟨g, 0, none⟩) n c)) (h1 : w.cell? ⟨g, 0, none⟩ = some (.slice A6 n6 c6)) (hn : 0 < n) :
    Calls Try.prog 70 #[.pointer (some ⟨bo, 0, none⟩)] w fun e w' => e = .returned (.pointer (some ⟨w.heap.size, 0, none⟩)) ∧ w' = w.alloc (.cells #[.pointer (some ⟨bo, 0, none⟩), .slice A6 n6 c6] 80) := by
  go_enter Try.func70, Try.ntmps70
  go_wp2_with fail
  go_ret
  exact ⟨rfl, rfl⟩

set_option maxHeartbeats 4000000 in
set_option maxRecDepth 100000 in
theorem fileWrite_c {w w2 : World} {bf bo : Nat} {A6 A7 : Option Addr} {n6 c6 c7 : Nat} (x : ByteArray) (h0 : w.cell? ⟨bf, 1, none⟩ = some (.slice A6 n6 c6)) (hb : bf < w.heap.size)
    (hrun : (Builtin.append_ #[35, 35] 35 #[.slice A6 n6 c6, .slice (some ⟨w.heap.size, 0, none⟩) 1 1]).run Try.prog (w.alloc (.cells #[.string x] 9)) = .ok (.slice A7 (n6 + 1) c7) w2)
    (h2 : w2.cell? ⟨bf, 1, none⟩ = some (.slice A6 n6 c6)) (h3 : w2.frozen? ⟨bf, 1, none⟩ = false) :
    Calls Try.prog 72 #[.pointer (some ⟨bf, 0, none⟩), .string x] w fun e w' => e = .returned (.tuple #[]) ∧ w' = w2.setCell ⟨bf, 1, none⟩ (.slice A7 (n6 + 1) c7) := by
  have c1 : (w.alloc (.cells #[.string x] 9)).cell? ⟨bf, 1, none⟩ = some (.slice A6 n6 c6) := (World.cell?_alloc_past _ _ _ hb).trans h0
  have HRun := hid hrun
  clear hrun
  go_enter Try.func72, Try.ntmps72
  go_wp2_with (at_builtin; refine wpList_runB rfl rfl (by rfl) (by rfl) HRun.out ?_)
  go_end0
  exact ⟨rfl, rfl⟩

set_option maxHeartbeats 4000000 in
set_option maxRecDepth 100000 in
theorem fileClose_d {w : World} {bf bo g n c : Nat} {A7 : Option Addr} {n7 c7 : Nat} {u0 : Value} (u : FrameMode) (h0 : w.cell? ⟨bf, 0, none⟩ = some (.pointer (some ⟨bo, 0, none⟩))) (h1 : w.cell? ⟨bf, 1, none⟩ = some (.slice A7 n7 c7)) (h2 : w.cell? ⟨bo, 2, none⟩ = some (.slice (some ⟨g, 0, none⟩) n c))
    (h3 : w.cell? ⟨g, 0, none⟩ = some u0) (h4 : w.frozen? ⟨g, 0, none⟩ = false) (hn : 0 < n) (e1 : g ≠ bf) (e2 : g ≠ bo) :
    CallsD Try.prog 71 #[.pointer (some ⟨bf, 0, none⟩)] u w fun e u' w' => u' = u ∧ (e = .returned (.tuple #[]) ∧ w' = w.drew.setCell ⟨g, 0, none⟩ (.slice A7 n7 c7)) := by
  go_enter_d Try.func71, Try.ntmps71
  go_wp2_with fail
  refine wp_region_held_drew (S := (fun w' : World => w'.cell? ⟨bf, 0, none⟩ = some (.pointer (some ⟨bo, 0, none⟩)) ∧ w'.cell? ⟨bf, 1, none⟩ = some (.slice A7 n7 c7) ∧ w'.cell? ⟨bo, 2, none⟩ = some (.slice (some ⟨g, 0, none⟩) n c))) (by kernel_rfl) ⟨h0, h1, h2⟩ (fun hS => ?_)
  refine wpAnyH_take (i := 0) (oi := ?oi101) (v := ?v101) ?hi101 (by kernel_rfl) ?hf101 ?hr101 ?hQ101 (Or.inl ⟨?hw101, ?hy101⟩) (by assumption) ?rest101
  case hi101 => simp only [List.getElem?_toArray, List.getElem?_cons_succ, List.getElem?_cons_zero]; rfl
  case hf101 => kernel_rfl
  case hr101 => kernel_rfl
  case hw101 => rfl
  case hy101 => (intro w hSw; (try dsimp only at hSw); go_simp; all_goals (first | done | with_reducible rfl))
  case hQ101 => exact fun _ _ _ h => h
  simp only [Act.put, List.setIfInBounds_toArray, List.set_cons_zero, List.set_cons_succ]
  refine wpAnyH_take (i := 1) (oi := ?oi102) (v := ?v102) ?hi102 (by kernel_rfl) ?hf102 ?hr102 ?hQ102 (Or.inl ⟨?hw102, ?hy102⟩) (by assumption) ?rest102
  case hi102 => simp only [List.getElem?_toArray, List.getElem?_cons_succ, List.getElem?_cons_zero]; rfl
  case hf102 => kernel_rfl
  case hr102 => kernel_rfl
  case hw102 => rfl
  case hy102 => (intro w hSw; (try dsimp only at hSw); go_simp; all_goals (first | done | with_reducible rfl))
  case hQ102 => exact fun _ _ _ h => h
  simp only [Act.put, List.setIfInBounds_toArray, List.set_cons_zero, List.set_cons_succ]
  refine wpAnyH_take (i := 2) (oi := ?oi103) (v := ?v103) ?hi103 (by kernel_rfl) ?hf103 ?hr103 ?hQ103 (Or.inl ⟨?hw103, ?hy103⟩) (by assumption) ?rest103
  case hi103 => simp only [List.getElem?_toArray, List.getElem?_cons_succ, List.getElem?_cons_zero]; rfl
  case hf103 => kernel_rfl
  case hr103 => kernel_rfl
  case hw103 => rfl
  case hy103 => (intro w hSw; (try dsimp only at hSw); go_simp; all_goals (first | done | with_reducible rfl))
  case hQ103 => exact fun _ _ _ h => h
  simp only [Act.put, List.setIfInBounds_toArray, List.set_cons_zero, List.set_cons_succ]
  refine wpAnyH_take (i := 3) (oi := ?oi104) (v := ?v104) ?hi104 (by kernel_rfl) ?hf104 ?hr104 ?hQ104 (Or.inl ⟨?hw104, ?hy104⟩) (by assumption) ?rest104
  case hi104 => simp only [List.getElem?_toArray, List.getElem?_cons_succ, List.getElem?_cons_zero]; rfl
  case hf104 => kernel_rfl
  case hr104 => kernel_rfl
  case hw104 => rfl
  case hy104 => (intro w hSw; (try dsimp only at hSw); go_simp; all_goals (first | done | with_reducible rfl))
  case hQ104 => exact fun _ _ _ h => h
  simp only [Act.put, List.setIfInBounds_toArray, List.set_cons_zero, List.set_cons_succ]
  refine wpAnyH_take (i := 4) (oi := ?oi105) (v := ?v105) ?hi105 (by kernel_rfl) ?hf105 ?hr105 ?hQ105 (Or.inl ⟨?hw105, ?hy105⟩) (by assumption) ?rest105
  case hi105 => simp only [List.getElem?_toArray, List.getElem?_cons_succ, List.getElem?_cons_zero]; rfl
  case hf105 => kernel_rfl
  case hr105 => kernel_rfl
  case hw105 => rfl
  case hy105 => (intro w hSw; (try dsimp only at hSw); go_simp; all_goals (first | done | with_reducible rfl))
  case hQ105 => exact fun _ _ _ h => h
  simp only [Act.put, List.setIfInBounds_toArray, List.set_cons_zero, List.set_cons_succ]
  refine wpAnyH_take (i := 5) (oi := ?oi106) (v := ?v106) ?hi106 (by kernel_rfl) ?hf106 ?hr106 ?hQ106 (Or.inl ⟨?hw106, ?hy106⟩) (by assumption) ?rest106
  case hi106 => simp only [List.getElem?_toArray, List.getElem?_cons_succ, List.getElem?_cons_zero]; rfl
  case hf106 => kernel_rfl
  case hr106 => kernel_rfl
  case hw106 => rfl
  case hy106 => (intro w hSw; (try dsimp only at hSw); go_simp; all_goals (first | done | with_reducible rfl))
  case hQ106 => exact fun _ _ _ h => h
  simp only [Act.put, List.setIfInBounds_toArray, List.set_cons_zero, List.set_cons_succ]
  refine wpAnyH_take (i := 6) (oi := ?oi107) (v := ?v107) ?hi107 (by kernel_rfl) ?hf107 ?hr107 ?hQ107 (Or.inl ⟨?hw107, ?hy107⟩) (by assumption) ?rest107
  case hi107 => simp only [List.getElem?_toArray, List.getElem?_cons_succ, List.getElem?_cons_zero]; rfl
  case hf107 => kernel_rfl
  case hr107 => kernel_rfl
  case hw107 => rfl
  case hy107 => (intro w hSw; (try dsimp only at hSw); go_simp; all_goals (first | done | with_reducible rfl))
  case hQ107 => exact fun _ _ _ h => h
  simp only [Act.put, List.setIfInBounds_toArray, List.set_cons_zero, List.set_cons_succ]
  refine wpAnyH_take (i := 7) (oi := ?oi108) (v := ?v108) ?hi108 (by kernel_rfl) ?hf108 ?hr108 ?hQ108 (Or.inl ⟨?hw108, ?hy108⟩) (by assumption) ?rest108
  case hi108 => simp only [List.getElem?_toArray, List.getElem?_cons_succ, List.getElem?_cons_zero]; rfl
  case hf108 => kernel_rfl
  case hr108 => kernel_rfl
  case hw108 => rfl
  case hy108 => (intro w hSw; (try dsimp only at hSw); go_simp; all_goals (first | done | with_reducible rfl))
  case hQ108 => exact fun _ _ _ h => h
  simp only [Act.put, List.setIfInBounds_toArray, List.set_cons_zero, List.set_cons_succ]
  refine wpAnyH_take (i := 8) (oi := ?oi109) (v := ?v109) ?hi109 (by kernel_rfl) ?hf109 ?hr109 ?hQ109 (Or.inl ⟨?hw109, ?hy109⟩) (by assumption) ?rest109
  case hi109 => simp only [List.getElem?_toArray, List.getElem?_cons_succ, List.getElem?_cons_zero]; rfl
  case hf109 => kernel_rfl
  case hr109 => kernel_rfl
  case hw109 => rfl
  case hy109 => (intro w hSw; (try dsimp only at hSw); go_simp; all_goals (first | done | with_reducible rfl))
  case hQ109 => exact fun _ _ _ h => h
  simp only [Act.put, List.setIfInBounds_toArray, List.set_cons_zero, List.set_cons_succ]
  refine wpAnyH_take (i := 9) (oi := ?oi110) (v := ?v110) ?hi110 (by kernel_rfl) ?hf110 ?hr110 ?hQ110 (Or.inl ⟨?hw110, ?hy110⟩) (by assumption) ?rest110
  case hi110 => simp only [List.getElem?_toArray, List.getElem?_cons_succ, List.getElem?_cons_zero]; rfl
  case hf110 => kernel_rfl
  case hr110 => kernel_rfl
  case hw110 => rfl
  case hy110 => (intro w hSw; (try dsimp only at hSw); go_simp; all_goals (first | done | with_reducible rfl))
  case hQ110 => exact fun _ _ _ h => h
  simp only [Act.put, List.setIfInBounds_toArray, List.set_cons_zero, List.set_cons_succ]
  refine wpAnyH_take (i := 10) (oi := ?oi111) (v := ?v111) ?hi111 (by kernel_rfl) ?hf111 ?hr111 ?hQ111 (Or.inl ⟨?hw111, ?hy111⟩) (by assumption) ?rest111
  case hi111 => simp only [List.getElem?_toArray, List.getElem?_cons_succ, List.getElem?_cons_zero]; rfl
  case hf111 => kernel_rfl
  case hr111 => kernel_rfl
  case hw111 => rfl
  case hy111 => (intro w hSw; (try dsimp only at hSw); go_simp; all_goals (first | done | with_reducible rfl))
  case hQ111 => exact fun _ _ _ h => h
  simp only [Act.put, List.setIfInBounds_toArray, List.set_cons_zero, List.set_cons_succ]
  refine wpAnyH_take (i := 11) (oi := ?oi112) (v := ?v112) ?hi112 (by kernel_rfl) ?hf112 ?hr112 ?hQ112 (Or.inl ⟨?hw112, ?hy112⟩) (by assumption) ?rest112
  case hi112 => simp only [List.getElem?_toArray, List.getElem?_cons_succ, List.getElem?_cons_zero]; rfl
  case hf112 => kernel_rfl
  case hr112 => kernel_rfl
  case hw112 => rfl
  case hy112 => (intro w hSw; (try dsimp only at hSw); go_simp; all_goals (first | done | with_reducible rfl))
  case hQ112 => exact fun _ _ _ h => h
  simp only [Act.put, List.setIfInBounds_toArray, List.set_cons_zero, List.set_cons_succ]
  have h3' : w.drew.cell? ⟨g, 0, none⟩ = some u0 := h3
  have h4' : w.drew.frozen? ⟨g, 0, none⟩ = false := h4
  refine wpAnyH_ready (rs := [12]) (by kernel_rfl) (by simp) ?_
  refine AllReadyH.cons (o := ?oi113) ?hi113 (fun K hK => ?step113) AllReadyH.nil
  case hi113 => simp only [List.getElem?_toArray, List.getElem?_cons_succ, List.getElem?_cons_zero]; rfl
  rw [if_pos (by rfl)]
  go_simp
  have far : ∀ (b q : Nat) (u u' : Value), g ≠ b → w.drew.cell? ⟨b, q, none⟩ = some u → (w.drew.setCell ⟨g, 0, none⟩ u').cell? ⟨b, q, none⟩ = some u := fun b q u u' he h => (World.cell?_setCell_far _ _ _ _ he).trans h
  refine hK.out _ _ ⟨far _ _ _ _ e1 h0, far _ _ _ _ e1 h1, far _ _ _ _ e2 h2⟩ (fun hS9 => ?_)
  refine wpAnyH_done (by kernel_rfl) ?_ _
  go_wp2_with fail
  go_end0
  exact ⟨rfl, rfl⟩

set_option maxHeartbeats 8000000 in
set_option maxRecDepth 100000 in
theorem appendLine_c {w : World} {lo bo g n c n6 c6 : Nat} {mo ke : Int} {A6 : Option Addr} {l : TxtL} {es : List Cell2} {rest : List Row} (x : ByteArray)
    (h : Rows w lo ([bxRow 26 3 bo [.int .i64 mo, .int .i64 ke, .slice (some ⟨g, 0, none⟩) n c]] ++ (nestRows 35 (.slice (some ⟨g, 0, none⟩) n c) ((.slice A6 n6 c6, [⟨9, 1, n6, .slice A6 n6 c6, l.map txt⟩]) :: es) ++ rest))) (hn : es.length + 1 = n) (hlo : lo ≤ w.heap.size) (hn6 : n6 ≤ 1048576) :
    Calls Try.prog 57 #[.pointer (some ⟨bo, 0, none⟩), .string x] w fun e w' => e = .returned (.tuple #[]) ∧ ∃ A7 c7,
      Rows w' lo ([bxRow 26 3 bo [.int .i64 mo, .int .i64 ke, .slice (some ⟨g, 0, none⟩) n c]] ++ (nestRows 35 (.slice (some ⟨g, 0, none⟩) n c) ((.slice A7 (n6 + 1) c7, [⟨9, 1, n6 + 1, .slice A7 (n6 + 1) c7, (l ++ [x.data.toList]).map txt⟩]) :: es) ++ rest)) ∧ Below lo w w' := by
  have htop : w.ownsRow lo 35 1 (.slice (some ⟨g, 0, none⟩) n c) n (.slice A6 n6 c6 :: heads es) := by have h9 := nest_top h.right.left; rw [List.length_cons, hn] at h9; exact h9
  have d0 := (Rows.bc h.left 2 rfl).1
  have d1 : w.cell? ⟨g, 0, none⟩ = some (.slice A6 n6 c6) := (htop.cellAt 0 (by omega)).trans rfl
  have hgw : g < w.heap.size := (htop.lt g rfl).2
  have hgbo : g ≠ bo := box_ne h (List.mem_append_left _ (show (⟨35, 1, _, .slice (some ⟨g, 0, none⟩) n c, _⟩ : Row) ∈ _ from List.mem_cons_self ..)) rfl
  have CO := hid (openFile_c d0 d1 (by omega))
  have H1 := (h.bx hlo #[.pointer (some ⟨bo, 0, none⟩), .slice A6 n6 c6] 80 2 rfl)
  have hlo1 : lo ≤ (w.alloc (.cells #[.pointer (some ⟨bo, 0, none⟩), .slice A6 n6 c6] 80)).heap.size := by simp; omega
  have hb1 : Below lo w (w.alloc (.cells #[.pointer (some ⟨bo, 0, none⟩), .slice A6 n6 c6] 80)) := (Below.refl _ _).alloc hlo _
  have hbf1 : w.heap.size < (w.alloc (.cells #[.pointer (some ⟨bo, 0, none⟩), .slice A6 n6 c6] 80)).heap.size := by simp
  have hgbf : g ≠ w.heap.size := by omega
  generalize w.alloc (.cells #[.pointer (some ⟨bo, 0, none⟩), .slice A6 n6 c6] 80) = w1 at *
  generalize w.heap.size = bf at *
  obtain ⟨A7, c7, w2, hrun, hb2, hs2, hR5, _⟩ := nest_put0 (H1.perm (perm3 _ _ _ _)) hn hlo1 hn6 x 9
  have a1 := (Rows.bc H1.left 1 rfl).1
  obtain ⟨a2, a3, _⟩ := Rows.bcell2 (pre := []) (q := 1) (hR5.perm List.perm_append_comm) rfl
  have CW := hid (fileWrite_c (bo := bo) x a1 hbf1 hrun a2 a3)
  have H3 : Rows (w2.setCell ⟨bf, 1, none⟩ (.slice A7 (n6 + 1) c7)) lo ((⟨35, 1, n, .slice (some ⟨g, 0, none⟩) n c, .slice A6 n6 c6 :: heads es⟩ : Row) :: ((⟨9, 1, n6 + 1, .slice A7 (n6 + 1) c7, (l ++ [x.data.toList]).map txt⟩ :: inner es) ++ ([bxRow 80 2 bf [.pointer (some ⟨bo, 0, none⟩), .slice A7 (n6 + 1) c7]] ++ ([bxRow 26 3 bo [.int .i64 mo, .int .i64 ke, .slice (some ⟨g, 0, none⟩) n c]] ++ rest)))) :=
    (show Rows _ lo (([bxRow 80 2 bf [.pointer (some ⟨bo, 0, none⟩), .slice A7 (n6 + 1) c7]] ++ ([bxRow 26 3 bo [.int .i64 mo, .int .i64 ke, .slice (some ⟨g, 0, none⟩) n c]] ++ rest)) ++ _) from Rows.boxset (pre := []) (j := 1) (u := .slice A7 (n6 + 1) c7) (hR5.perm List.perm_append_comm)).perm List.perm_append_comm
  have hb3 : Below lo w (w2.setCell ⟨bf, 1, none⟩ (.slice A7 (n6 + 1) c7)) := (hb1.trans hb2).setCell (p := ⟨bf, 1, none⟩) hlo _
  generalize hw3 : w2.setCell ⟨bf, 1, none⟩ (.slice A7 (n6 + 1) c7) = w3 at *
  have b0 := (Rows.bc H3.tail.right.left 0 rfl).1
  have b1 := (Rows.bc H3.tail.right.left 1 rfl).1
  have b2 := (Rows.bc H3.tail.right.right.left 2 rfl).1
  have t3 : w3.ownsRow lo 35 1 (.slice (some ⟨g, 0, none⟩) n c) n (.slice A6 n6 c6 :: heads es) := H3.head
  have g0 : w3.cell? ⟨g, 0, none⟩ = some (.slice A6 n6 c6) := (t3.cellAt 0 (by omega)).trans rfl
  have g1 := t3.frozenAt 0
  have hlog : lo ≤ g := (t3.lt g rfl).1
  have CC := hid (fun u => fileClose_d u b0 b1 b2 g0 g1 (by omega) hgbf hgbo)
  have H4 := top_put (u := .slice A7 (n6 + 1) c7) (H3.below (Below.refl _ _).drew)
  have hb4 : Below lo w (w3.drew.setCell ⟨g, 0, none⟩ (.slice A7 (n6 + 1) c7)) := hb3.drew.setCell (p := ⟨g, 0, none⟩) hlog _
  have H5 := hid (show Rows (w3.drew.setCell ⟨g, 0, none⟩ (.slice A7 (n6 + 1) c7)) lo ([bxRow 26 3 bo [.int .i64 mo, .int .i64 ke, .slice (some ⟨g, 0, none⟩) n c]] ++ (nestRows 35 (.slice (some ⟨g, 0, none⟩) n c) ((.slice A7 (n6 + 1) c7, [⟨9, 1, n6 + 1, .slice A7 (n6 + 1) c7, (l ++ [x.data.toList]).map txt⟩]) :: es) ++ rest)) by
    have h8 := (H4.sub (List.Sublist.cons_cons _ ((List.Sublist.refl _).append (List.sublist_append_right _ _))))
    have e9 : nestRows 35 (.slice (some ⟨g, 0, none⟩) n c) ((.slice A7 (n6 + 1) c7, [⟨9, 1, n6 + 1, .slice A7 (n6 + 1) c7, (l ++ [x.data.toList]).map txt⟩]) :: es) = (⟨35, 1, n, .slice (some ⟨g, 0, none⟩) n c, .slice A7 (n6 + 1) c7 :: heads es⟩ : Row) :: (⟨9, 1, n6 + 1, .slice A7 (n6 + 1) c7, (l ++ [x.data.toList]).map txt⟩ :: inner es) := by
      simp [nestRows, inner, heads, hn]
    rw [e9]
    exact (show Rows _ lo (((⟨35, 1, n, .slice (some ⟨g, 0, none⟩) n c, .slice A7 (n6 + 1) c7 :: heads es⟩ : Row) :: (⟨9, 1, n6 + 1, .slice A7 (n6 + 1) c7, (l ++ [x.data.toList]).map txt⟩ :: inner es)) ++ ([bxRow 26 3 bo [.int .i64 mo, .int .i64 ke, .slice (some ⟨g, 0, none⟩) n c]] ++ rest)) from h8).perm (List.perm_append_comm_assoc _ _ _))
  have HB4 := hid hb4
  clear h htop d0 d1 H1 hb1 hb2 hs2 hR5 a1 a2 a3 H3 hb3 b0 b1 b2 t3 g0 g1 H4 hb4 hrun hw3
  go_enter_defers Try.func57, Try.ntmps57
  go_wp2_with (first | (go_at_call 70; refine (CO.out).mono ?_; rintro e w' ⟨rfl, rfl⟩) | (go_at_call 72; refine (CW.out).mono ?_; rintro e w' ⟨rfl, rfl⟩))
  refine leaves_cons (f := 71) (args := #[.pointer (some ⟨bf, 0, none⟩)]) (by simp) (by simp [go_sem]) ?_
  refine (CC.out .returning).mono ?_
  rintro e u' w'' ⟨rfl, rfl, rfl⟩
  exact ⟨_, results_none rfl _ _ _, rfl, A7, c7, H5.out, HB4.out⟩
end Go.Proofs.Ytoiagfdhanhnkaa
