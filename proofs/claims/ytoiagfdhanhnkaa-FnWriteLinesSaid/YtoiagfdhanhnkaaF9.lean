/-
  FILES: RollFiles of the model.
-/
import Derived.Test.YtoiagfdhanhnkaaF8
namespace Go.Proofs.Ytoiagfdhanhnkaa
open Go.RowKit Nm
set_option linter.unusedSimpArgs false
set_option linter.unusedVariables false

/-- the boxes of a parameter and of a result -/
theorem two_boxes (w : World) (mo ke : Int) (A : Option Addr) (n c : Nat) : Rows ((w.alloc (.cells #[.int .i64 mo, .int .i64 ke, .slice A n c] 26)).alloc (.cells #[.int .i64 0, .int .i64 0, .slice none 0 0] 26)) w.heap.size
    ([bxRow 26 3 (w.heap.size + 1) [.int .i64 0, .int .i64 0, .slice none 0 0]] ++ [bxRow 26 3 w.heap.size [.int .i64 mo, .int .i64 ke, .slice A n c]]) := by
  have R2 := (((Rows.nil w w.heap.size).bx (Nat.le_refl _) #[.int .i64 mo, .int .i64 ke, .slice A n c] 26 3 rfl).bx (by simp) #[.int .i64 0, .int .i64 0, .slice none 0 0] 26 3 rfl)
  simp only [World.size_alloc] at R2
  exact R2
theorem two_below (w : World) (mo ke : Int) (A : Option Addr) (n c : Nat) : Below w.heap.size w ((w.alloc (.cells #[.int .i64 mo, .int .i64 ke, .slice A n c] 26)).alloc (.cells #[.int .i64 0, .int .i64 0, .slice none 0 0] 26)) :=
  ((Below.refl w.heap.size w).alloc (Nat.le_refl _) (.cells #[.int .i64 mo, .int .i64 ke, .slice A n c] 26)).alloc (by simp) (.cells #[.int .i64 0, .int .i64 0, .slice none 0 0] 26)
theorem zero_fil {w : World} {lo : Nat} : ∃ rs, FilR rs (.agg #[.int .i64 0, .int .i64 0, .slice none 0 0]) ⟨0, 0, []⟩ ∧ Rows w lo rs := ⟨_, ⟨_, rfl, NE.nil.toR⟩, Rows.one (World.ownsRow_nil _ _ _ _)⟩

set_option maxHeartbeats 4000000 in
set_option maxRecDepth 100000 in
theorem specRollFiles_c {v : Value} {B : Nat} {d : Fil} {w : World} (h : FilIn w B v d) (hB : B ≤ w.heap.size) :
    Calls Try.prog 13 #[v] w (FilPost w (rollX d)) := by
  obtain ⟨A, n, c, hv⟩ := h.form
  have C1 := hid (fun (w1 : World) (hb : Below w.heap.size w w1) => specValidFiles0_c (h.below hb hB) (Nat.le_trans hB hb.size))
  have C2 := hid (fun (hz : filOk d = true) (w1 : World) (hb : Below w.heap.size w w1) => specRolled_c (h.below hb hB) (Nat.le_trans hB hb.size) hz)
  obtain ⟨u, hu, hin⟩ := h
  obtain ⟨mo, ke, L⟩ := d
  rw [hv] at hu
  have hu2 : u = .slice A n c := by simp at hu; exact hu.symm
  subst hu2
  clear hu
  subst hv
  have HX := hid (show rollX ⟨mo, ke, L⟩ = if filOk ⟨mo, ke, L⟩ then (if (headL L).length = 0 then ⟨mo, ke, L⟩ else rollF ⟨mo, ke, L⟩) else ⟨0, 0, []⟩ from rfl)
  have HR2 := hid (two_boxes w mo ke A n c)
  have HB2 := hid (two_below w mo ke A n c)
  have hbr : w.heap.size ≤ w.heap.size + 1 := by omega
  show Calls Try.prog 13 #[.agg #[.int .i64 mo, .int .i64 ke, .slice A n c]] w _
  generalize rollX ⟨mo, ke, L⟩ = X at HX ⊢
  cases hz : filOk ⟨mo, ke, L⟩ with
  | false =>
    rw [hz] at C1 HX
    obtain rfl : X = ⟨0, 0, []⟩ := HX.out
    clear C2 HX hin hz
    go_enter Try.func13, Try.ntmps13
    go_wp2_with fail
    refine (C1.out _ HB2.out).mono ?_
    rintro e w1 ⟨rfl, hb⟩
    replace HR2 := hid (HR2.out.below hb)
    replace HB2 := hid (HB2.out.trans (hb.mono HB2.out.size))
    generalize hbr2 : w.heap.size + 1 = br at *
    obtain ⟨r0, x0, _⟩ := Rows.bcell2 (pre := []) (q := 0) HR2.out rfl
    obtain ⟨r1, x1, _⟩ := Rows.bcell2 (pre := []) (q := 1) HR2.out rfl
    obtain ⟨r2, x2, _⟩ := Rows.bcell2 (pre := []) (q := 2) HR2.out rfl
    clear hb C1 hbr2
    go_wp2_with fail
    have Y2 := Rows.boxset (pre := []) (j := 0) (u := .int .i64 0) HR2.out
    have Y3 := Rows.boxset (pre := []) (j := 1) (u := .int .i64 0) Y2
    have Y4 := Rows.boxset (pre := []) (j := 2) (u := .slice none 0 0) Y3
    have f0 := (Rows.bcell2 (pre := []) (q := 0) Y4 rfl).1
    have f1 := (Rows.bcell2 (pre := []) (q := 1) Y4 rfl).1
    have f2 := (Rows.bcell2 (pre := []) (q := 2) Y4 rfl).1
    refine bodyPost_ret (v := .agg #[.int .i64 0, .int .i64 0, .slice none 0 0]) (by simp [results, Try.results13, go_sem, f0, f1, f2]) rfl ?_
    obtain ⟨rs, h1, h2⟩ := zero_fil
    exact ⟨_, rs, rfl, h1, h2, ((HB2.out.setCell (p := ⟨br, 0, none⟩) hbr (.int .i64 0)).setCell (p := ⟨br, 1, none⟩) hbr (.int .i64 0)).setCell (p := ⟨br, 2, none⟩) hbr (.slice none 0 0)⟩
  | true =>
    rw [hz] at C1 HX
    have hpt := fil_parts hz
    have hsm := fil_small hz
    have hln : L.length = n := NestIn.count hin.1
    have hl1 : 1 ≤ L.length := hpt.2.2.2.2.2.1
    have hl4 : L.length ≤ 4 := hsm.1
    have hl0 := head_at hl1
    replace C2 := hid (C2.out hz)
    have C3 := hid (fun (w1 : World) (hb : Below w.heap.size w w1) => specCopyLists_c (hin.below hb hB) (Nat.le_trans hB hb.size) (by omega))
    have HI := hid hin
    obtain ⟨_, _, e9, hnc, hcm⟩ := hin.1.form
    have hnc2 : n ≤ c := by injection e9 with a1 a2 a3; omega
    rw [hln] at hl1
    have hlast := hid (And.intro hl0 hln)
    clear hpt hsm hin e9 hnc hcm hl0 hln hz hl4
    go_enter Try.func13, Try.ntmps13
    go_wp2_with fail
    refine (C1.out _ HB2.out).mono ?_
    rintro e w1 ⟨rfl, hb⟩
    replace HR2 := hid (HR2.out.below hb)
    replace HB2 := hid (HB2.out.trans (hb.mono HB2.out.size))
    obtain ⟨b, o, u, l, hA, hbB, hx, c0, hin⟩ := (HI.out.below HB2.out hB).elem (k := 0) (by omega)
    subst hA
    obtain ⟨A', c', rfl, hnc', hcm'⟩ := hin.1.form
    have hlh : l = headL L := by rw [hlast.out.1] at hx; exact (Option.some.inj hx).symm
    rw [← hlh] at HX
    generalize hln : l.length = ln at *
    replace hln := hid hln
    rw [Nat.add_zero] at c0
    unfold maxLen at hcm'
    have hlt2 : ln ≤ 1048576 := by have := hin.2.1; have h8 := hln.out; unfold maxTxt at this; omega
    clear hin hx hb C1
    generalize hbr2 : w.heap.size + 1 = br at *
    have ne2 : w.heap.size ≠ br := by omega
    obtain ⟨r0, x0, _⟩ := Rows.bcell2 (pre := []) (q := 0) HR2.out rfl
    obtain ⟨r1, x1, _⟩ := Rows.bcell2 (pre := []) (q := 1) HR2.out rfl
    obtain ⟨r2, x2, _⟩ := Rows.bcell2 (pre := []) (q := 2) HR2.out rfl
    have p0 := (Rows.bc HR2.out.right 0 rfl).1
    have p1 := (Rows.bc HR2.out.right 1 rfl).1
    have p2 := (Rows.bc HR2.out.right 2 rfl).1
    clear hbr2
    rcases Nat.eq_zero_or_pos ln with h0 | h0
    · subst h0
      have hXE : X = ⟨mo, ke, L⟩ := HX.out
      subst hXE
      clear HX C2
      go_wp2_with fail
      refine wp_region_held_drew (S := (fun w' : World => w'.cell? ⟨w.heap.size, 0, none⟩ = some (.int .i64 mo) ∧ w'.cell? ⟨w.heap.size, 1, none⟩ = some (.int .i64 ke) ∧ w'.cell? ⟨w.heap.size, 2, none⟩ = some (.slice (some ⟨b, o, none⟩) n c))) (by kernel_rfl) ⟨p0, p1, p2⟩ (fun hS => ?_)
      refine wpAnyH_take (i := 0) (oi := ?oi101) (v := ?v101) ?hi101 (by kernel_rfl) ?hf101 ?hr101 ?hQ101 (Or.inl ⟨?hw101, ?hy101⟩) (by assumption) ?rest101
      case hi101 => simp only [List.getElem?_toArray, List.getElem?_cons_succ, List.getElem?_cons_zero]; rfl
      case hf101 => kernel_rfl
      case hr101 => kernel_rfl
      case hw101 => rfl
      case hy101 => (intro w hSw; (try dsimp only at hSw); go_simp; all_goals (first | done | with_reducible rfl))
      case hQ101 => exact fun _ _ _ h => h
      simp only [Act.put, List.setIfInBounds_toArray, List.set_cons_zero, List.set_cons_succ]
      refine wpAnyH_take (i := 1) (oi := ?oi102) (v := ?v102) ?hi102 (by kernel_rfl) ?hf102 ?hr102 ?hQ102 (Or.inl ⟨?hw102, ?hy102⟩) (by assumption) ?rest102
      case hi102 => simp only [List.getElem?_toArray, List.getElem?_cons_succ, List.getElem?_cons_zero]; rfl
      case hf102 => kernel_rfl
      case hr102 => kernel_rfl
      case hw102 => rfl
      case hy102 => (intro w hSw; (try dsimp only at hSw); go_simp; all_goals (first | done | with_reducible rfl))
      case hQ102 => exact fun _ _ _ h => h
      simp only [Act.put, List.setIfInBounds_toArray, List.set_cons_zero, List.set_cons_succ]
      refine wpAnyH_take (i := 2) (oi := ?oi103) (v := ?v103) ?hi103 (by kernel_rfl) ?hf103 ?hr103 ?hQ103 (Or.inl ⟨?hw103, ?hy103⟩) (by assumption) ?rest103
      case hi103 => simp only [List.getElem?_toArray, List.getElem?_cons_succ, List.getElem?_cons_zero]; rfl
      case hf103 => kernel_rfl
      case hr103 => kernel_rfl
      case hw103 => rfl
      case hy103 => (intro w hSw; (try dsimp only at hSw); go_simp; all_goals (first | done | with_reducible rfl))
      case hQ103 => exact fun _ _ _ h => h
      simp only [Act.put, List.setIfInBounds_toArray, List.set_cons_zero, List.set_cons_succ]
      refine wpAnyH_take (i := 3) (oi := ?oi104) (v := ?v104) ?hi104 (by kernel_rfl) ?hf104 ?hr104 ?hQ104 (Or.inl ⟨?hw104, ?hy104⟩) (by assumption) ?rest104
      case hi104 => simp only [List.getElem?_toArray, List.getElem?_cons_succ, List.getElem?_cons_zero]; rfl
      case hf104 => kernel_rfl
      case hr104 => kernel_rfl
      case hw104 => rfl
      case hy104 => (intro w hSw; (try dsimp only at hSw); go_simp; all_goals (first | done | with_reducible rfl))
      case hQ104 => exact fun _ _ _ h => h
      simp only [Act.put, List.setIfInBounds_toArray, List.set_cons_zero, List.set_cons_succ]
      refine wpAnyH_take (i := 4) (oi := ?oi105) (v := ?v105) ?hi105 (by kernel_rfl) ?hf105 ?hr105 ?hQ105 (Or.inl ⟨?hw105, ?hy105⟩) (by assumption) ?rest105
      case hi105 => simp only [List.getElem?_toArray, List.getElem?_cons_succ, List.getElem?_cons_zero]; rfl
      case hf105 => kernel_rfl
      case hr105 => kernel_rfl
      case hw105 => rfl
      case hy105 => (intro w hSw; (try dsimp only at hSw); go_simp; all_goals (first | done | with_reducible rfl))
      case hQ105 => exact fun _ _ _ h => h
      simp only [Act.put, List.setIfInBounds_toArray, List.set_cons_zero, List.set_cons_succ]
      refine wpAnyH_take (i := 5) (oi := ?oi106) (v := ?v106) ?hi106 (by kernel_rfl) ?hf106 ?hr106 ?hQ106 (Or.inl ⟨?hw106, ?hy106⟩) (by assumption) ?rest106
      case hi106 => simp only [List.getElem?_toArray, List.getElem?_cons_succ, List.getElem?_cons_zero]; rfl
      case hf106 => kernel_rfl
      case hr106 => kernel_rfl
      case hw106 => rfl
      case hy106 => (intro w hSw; (try dsimp only at hSw); go_simp; all_goals (first | done | with_reducible rfl))
      case hQ106 => exact fun _ _ _ h => h
      simp only [Act.put, List.setIfInBounds_toArray, List.set_cons_zero, List.set_cons_succ]
      refine wpAnyH_ready (rs := [6]) (by kernel_rfl) (by simp) ?_
      refine AllReadyH.cons (o := ?oi107) ?hi107 (fun K hK => ?step107) AllReadyH.nil
      case hi107 => simp only [List.getElem?_toArray, List.getElem?_cons_succ, List.getElem?_cons_zero]; rfl
      rw [if_pos (by rfl)]
      go_simp
      go_at_call 46
      refine (C3.out _ HB2.out.drew).mono ?_
      rintro e w2 ⟨u2, rs2, rfl, hs2, hr2, hb2⟩
      obtain ⟨A2, n2, c2, rfl⟩ := hs2.form hr2
      have HR3 := hid ((HR2.out.dr.newer hb2 hr2 HB2.out.size).perm List.perm_append_comm)
      have HB3 := hid (HB2.out.drew.trans (hb2.mono HB2.out.size))
      have HS2 := hid hs2
      clear p0 p1 p2 r0 r1 r2 x0 x1 x2 c0 hs2 hr2 hb2 HR2 HB2
      have p0 := (Rows.bc HR3.out.left.right 0 rfl).1
      have p1 := (Rows.bc HR3.out.left.right 1 rfl).1
      have p2 := (Rows.bc HR3.out.left.right 2 rfl).1
      obtain ⟨r0, x0, _⟩ := Rows.bcell2 (pre := []) (q := 0) HR3.out rfl
      obtain ⟨r1, x1, _⟩ := Rows.bcell2 (pre := []) (q := 1) HR3.out rfl
      obtain ⟨r2, x2, _⟩ := Rows.bcell2 (pre := []) (q := 2) HR3.out rfl
      refine hK.out _ _ ⟨p0, p1, p2⟩ (fun hS9 => ?_)
      refine wpAnyH_take (i := 7) (oi := ?oi108) (v := ?v108) ?hi108 (by kernel_rfl) ?hf108 ?hr108 ?hQ108 (Or.inl ⟨?hw108, ?hy108⟩) (by assumption) ?rest108
      case hi108 => simp only [List.getElem?_toArray, List.getElem?_cons_succ, List.getElem?_cons_zero]; rfl
      case hf108 => kernel_rfl
      case hr108 => kernel_rfl
      case hw108 => rfl
      case hy108 => (intro w hSw; (try dsimp only at hSw); go_simp; all_goals (first | done | with_reducible rfl))
      case hQ108 => exact fun _ _ _ h => h
      simp only [Act.put, List.setIfInBounds_toArray, List.set_cons_zero, List.set_cons_succ]
      refine wpAnyH_ready (rs := [8]) (by kernel_rfl) (by simp) ?_
      refine AllReadyH.cons (o := ?oi109) ?hi109 (fun K hK => ?step109) AllReadyH.nil
      case hi109 => simp only [List.getElem?_toArray, List.getElem?_cons_succ, List.getElem?_cons_zero]; rfl
      rw [if_pos (by rfl)]
      go_simp
      have far : ∀ (W : World) (q q' : Nat) (u u' : Value), W.cell? ⟨w.heap.size, q, none⟩ = some u → (W.setCell ⟨br, q', none⟩ u').cell? ⟨w.heap.size, q, none⟩ = some u := fun W q q' u u' h => (World.cell?_setCell_far _ _ _ _ (Ne.symm ne2)).trans h
      refine hK.out _ _ ⟨far _ _ _ _ _ (far _ _ _ _ _ (far _ _ _ _ _ p0)), far _ _ _ _ _ (far _ _ _ _ _ (far _ _ _ _ _ p1)), far _ _ _ _ _ (far _ _ _ _ _ (far _ _ _ _ _ p2))⟩ (fun hS9 => ?_)
      refine wpAnyH_done (by kernel_rfl) ?_ _
      clear far hS hS9 p0 p1 p2 r0 r1 r2 x0 x1 x2
      have Y2 := Rows.boxset (pre := []) (j := 0) (u := .int .i64 mo) HR3.out
      have Y3 := Rows.boxset (pre := []) (j := 1) (u := .int .i64 ke) Y2
      have Y4 := Rows.boxset (pre := []) (j := 2) (u := .slice A2 n2 c2) Y3
      have f0 := (Rows.bcell2 (pre := []) (q := 0) Y4 rfl).1
      have f1 := (Rows.bcell2 (pre := []) (q := 1) Y4 rfl).1
      have f2 := (Rows.bcell2 (pre := []) (q := 2) Y4 rfl).1
      have HY := hid Y4
      clear Y2 Y3 Y4
      go_wp2_with fail
      refine bodyPost_ret (v := .agg #[.int .i64 mo, .int .i64 ke, .slice A2 n2 c2]) (by simp [results, Try.results13, go_sem, f0, f1, f2]) rfl ?_
      exact ⟨_, rs2, rfl, ⟨_, rfl, HS2.out⟩, HY.out.right.tail, ((HB3.out.setCell (p := ⟨br, 0, none⟩) hbr (.int .i64 mo)).setCell (p := ⟨br, 1, none⟩) hbr (.int .i64 ke)).setCell (p := ⟨br, 2, none⟩) hbr (.slice A2 n2 c2)⟩
    · have hXE : X = rollF ⟨mo, ke, L⟩ := by have h9 := HX.out; simp only [if_true] at h9; rw [if_neg (by omega)] at h9; exact h9
      subst hXE
      have hne : ((ln : Int) == 0) = false := by simp; omega
      clear HX C3 h0
      go_wp2_with fail
      refine (C2.out _ HB2.out).mono ?_
      rintro e w2 ⟨u2, rs2, rfl, hs2, hr2, hb2⟩
      obtain ⟨A2, n2, c2, rfl⟩ := hs2.form hr2
      have HR3 := hid ((HR2.out.newer hb2 hr2 HB2.out.size).perm List.perm_append_comm)
      have HB3 := hid (HB2.out.trans (hb2.mono HB2.out.size))
      have HS2 := hid hs2
      clear p0 p1 p2 r0 r1 r2 x0 x1 x2 c0 hs2 hr2 hb2 HR2 HB2
      obtain ⟨r0, x0, _⟩ := Rows.bcell2 (pre := []) (q := 0) HR3.out rfl
      obtain ⟨r1, x1, _⟩ := Rows.bcell2 (pre := []) (q := 1) HR3.out rfl
      obtain ⟨r2, x2, _⟩ := Rows.bcell2 (pre := []) (q := 2) HR3.out rfl
      go_wp2_with fail
      have Y2 := Rows.boxset (pre := []) (j := 0) (u := .int .i64 (rollF ⟨mo, ke, L⟩).mo) HR3.out
      have Y3 := Rows.boxset (pre := []) (j := 1) (u := .int .i64 (rollF ⟨mo, ke, L⟩).ke) Y2
      have Y4 := Rows.boxset (pre := []) (j := 2) (u := .slice A2 n2 c2) Y3
      have f0 := (Rows.bcell2 (pre := []) (q := 0) Y4 rfl).1
      have f1 := (Rows.bcell2 (pre := []) (q := 1) Y4 rfl).1
      have f2 := (Rows.bcell2 (pre := []) (q := 2) Y4 rfl).1
      refine bodyPost_ret (v := .agg #[.int .i64 (rollF ⟨mo, ke, L⟩).mo, .int .i64 (rollF ⟨mo, ke, L⟩).ke, .slice A2 n2 c2]) (by simp [results, Try.results13, go_sem, f0, f1, f2]) rfl ?_
      exact ⟨_, rs2, rfl, HS2.out, Y4.right.tail, ((HB3.out.setCell (p := ⟨br, 0, none⟩) hbr _).setCell (p := ⟨br, 1, none⟩) hbr _).setCell (p := ⟨br, 2, none⟩) hbr _⟩
end Go.Proofs.Ytoiagfdhanhnkaa
