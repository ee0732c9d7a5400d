/-
  FILES: write of the model. By gen_f11.py.
-/
import Derived.Test.YtoiagfdhanhnkaaF9
import Derived.Deep.Cut
namespace Go.Proofs.Ytoiagfdhanhnkaa
open Go.RowKit Nm
set_option linter.unusedSimpArgs false
set_option linter.unusedVariables false

/-- the first inner list grows by a text: its row first, its header then -/
theorem nest_put0 {w : World} {lo g n c n6 c6 : Nat} {A6 : Option Addr} {l : TxtL} {es : List Cell2} {rest : List Row}
    (h : Rows w lo (nestRows 35 (.slice (some ⟨g, 0, none⟩) n c) ((.slice A6 n6 c6, [⟨9, 1, n6, .slice A6 n6 c6, l.map txt⟩]) :: es) ++ rest)) (hn : es.length + 1 = n) (hlo : lo ≤ w.heap.size) (hn6 : n6 ≤ 1048576) (x : ByteArray) (te : TypeId) :
    ∃ A7 c7 w', (Builtin.append_ #[35, 35] 35 #[.slice A6 n6 c6, .slice (some ⟨w.heap.size, 0, none⟩) 1 1]).run Try.prog (w.alloc (.cells #[.string x] te)) = .ok (.slice A7 (n6 + 1) c7) w' ∧
      Below lo w w' ∧ w.heap.size ≤ w'.heap.size ∧
      Rows w' lo ((⟨35, 1, n, .slice (some ⟨g, 0, none⟩) n c, .slice A6 n6 c6 :: heads es⟩ : Row) :: (⟨9, 1, n6 + 1, .slice A7 (n6 + 1) c7, (l ++ [x.data.toList]).map txt⟩ :: inner es) ++ rest) ∧
      Rows (w'.setCell ⟨g, 0, none⟩ (.slice A7 (n6 + 1) c7)) lo (nestRows 35 (.slice (some ⟨g, 0, none⟩) n c) ((.slice A7 (n6 + 1) c7, [⟨9, 1, n6 + 1, .slice A7 (n6 + 1) c7, (l ++ [x.data.toList]).map txt⟩]) :: es) ++ rest) := by
  obtain ⟨i0, hi, hz0, hz1, hz2⟩ := info_parts Try.infoStr
  have h0 : Rows w lo ([(⟨35, 1, n, .slice (some ⟨g, 0, none⟩) n c, .slice A6 n6 c6 :: heads es⟩ : Row)] ++ (⟨9, 1, n6, .slice A6 n6 c6, l.map txt⟩ : Row) :: (inner es ++ rest)) := by
    simpa [nestRows, inner, heads, hn] using h
  have hin : w.ownsRow lo 9 1 (.slice A6 n6 c6) n6 (l.map txt) := h0.1 ⟨9, 1, n6, .slice A6 n6 c6, l.map txt⟩ (by simp)
  obtain ⟨v5, w4, hrun, ho4, hg4, hloc⟩ := run_app1P (P := Try.prog) w 35 lo 9 i0 _ 1 16 Try.underlying35 hi hz0 hz1 hz2 rfl (by decide) _ n6 _ hin [.string x] te rfl (fun y hy => by rw [List.mem_singleton.1 hy]; rfl) (by unfold maxLen; omega) (by omega) hlo
  obtain ⟨A5, c5, rfl, _, _⟩ := (Sl.of_own ho4).form
  have h1 := Rows.app4 (pre := [(⟨35, 1, n, .slice (some ⟨g, 0, none⟩) n c, .slice A6 n6 c6 :: heads es⟩ : Row)]) (post := inner es ++ rest) (r := ⟨9, 1, n6, .slice A6 n6 c6, l.map txt⟩) (r' := ⟨9, 1, n6 + 1, .slice A5 (n6 + 1) c5, (l ++ [x.data.toList]).map txt⟩) h0 hg4 (by simpa [txt_data, Row.own] using ho4) (fun z hz => by
    rcases hloc with e | e
    · left; rw [← e]; exact hz
    · right; have hz' : (Value.slice A5 (n6 + 1) c5).ownBlock = some z := hz; rw [e] at hz'; have : w.heap.size + 1 = z := Option.some.inj hz'; omega)
  have htop : w4.ownsRow lo 35 1 (.slice (some ⟨g, 0, none⟩) n c) n (.slice A6 n6 c6 :: heads es) := h1.1 ⟨35, 1, n, .slice (some ⟨g, 0, none⟩) n c, .slice A6 n6 c6 :: heads es⟩ (by simp)
  have hst := htop.stored 0 (.slice A5 (n6 + 1) c5)
  have h2 := Rows.write (pre := []) (r := ⟨35, 1, n, .slice (some ⟨g, 0, none⟩) n c, .slice A6 n6 c6 :: heads es⟩) (by simpa only [List.nil_append, List.cons_append] using h1) hst.2 hst.1
  refine ⟨A5, c5, w4, hrun, (Below.refl lo w).grown hg4 hlo (own_lt hin), hg4.size, by simpa using h1, ?_⟩
  simpa [nestRows, inner, heads, hn] using h2
theorem box_ne {w : World} {lo d b g : Nat} {T : TypeId} {cs : List Value} {rs : List Row} {r : Row} (h : Rows w lo ([bxRow T d b cs] ++ rs)) (hr : r ∈ rs) (hg : r.v.ownBlock = some g) : g ≠ b := by
  have h1 := (List.pairwise_append.1 h.2).2.2 _ (List.mem_singleton.2 rfl) r hr
  rcases h1.2 with h2 | h2
  · rw [hg] at h2; cases h2
  · intro e; subst e; exact h2 hg
theorem SzL_le {l : TxtL} (h : linesOk l = true) : (sizeL l : Int) ≤ 492 := by have := size_small h; omega

set_option maxHeartbeats 8000000 in
set_option maxRecDepth 100000 in
theorem specWrite_c {v : Value} {B : Nat} {d : Fil} {w : World} (x : ByteArray) (hx : x.size ≤ 1048576) (h : FilIn w B v d) (hB : B ≤ w.heap.size) (hz : filOk d = true) :
    Calls Try.prog 54 #[v, .string x] w (FilPost w (writeF d x.data.toList)) := by
  obtain ⟨A, n, c, hv⟩ := h.form
  have C2 := hid (fun (w1 : World) (hb : Below w.heap.size w w1) => specRolled_c (h.below hb hB) (Nat.le_trans hB hb.size) hz)
  obtain ⟨u, hu, hin⟩ := h
  obtain ⟨mo, ke, L⟩ := d
  rw [hv] at hu
  have hu2 : u = .slice A n c := by simp at hu; exact hu.symm
  subst hu2
  clear hu
  subst hv
  show Calls Try.prog 54 #[.agg #[.int .i64 mo, .int .i64 ke, .slice A n c], .string x] w _
  have hpt := fil_parts hz
  have hsm := fil_small hz
  have hln : L.length = n := NestIn.count hin.1
  have hl4 : L.length ≤ 4 := hsm.1
  have hl1 : 1 ≤ L.length := hpt.2.2.2.2.2.1
  have hmo1 : 1 ≤ mo := hpt.2.1
  have hmo2 : mo ≤ 120 := hpt.2.2.1
  obtain ⟨l0, Lt, rfl⟩ : ∃ l0 Lt, L = l0 :: Lt := by cases L with
    | nil => simp at hl1
    | cons a t => exact ⟨a, t, rfl⟩
  have hok0 : linesOk l0 = true := fil_lines hz l0 (List.mem_cons_self ..)
  have hl12 : l0.length ≤ 12 := (lines_len hok0).1
  have hsz0 := SzL_le hok0
  have C3 := hid (fun (w1 : World) (hb : Below w.heap.size w w1) => specCopyLists_c (hin.below hb hB) (Nat.le_trans hB hb.size) (by omega))
  have C4 := hid (fun (W : World) (v : Value) (hs : StrsIn W B v l0) => sizeOf_c hs hok0)
  have HI := hid hin
  obtain ⟨_, _, e9, hnc, hcm⟩ := hin.1.form
  have hnc2 : n ≤ c := by injection e9 with a1 a2 a3; omega
  rw [hln] at hl1 hl4
  have HX := hid (show writeF ⟨mo, ke, l0 :: Lt⟩ x.data.toList = ⟨mo, ke, putL x.data.toList (baseF ⟨mo, ke, l0 :: Lt⟩ x.data.toList).li⟩ from rfl)
  have HBF := hid (show baseF ⟨mo, ke, l0 :: Lt⟩ x.data.toList = if (decide ((0 : Int) < (l0.length : Int)) && decide (mo < (sizeL l0 : Int) + (x.size : Int) + 1)) then rollF ⟨mo, ke, l0 :: Lt⟩ else ⟨mo, ke, l0 :: Lt⟩ by rw [Lib.size_eq]; rfl)
  have HR2 := hid (two_boxes w mo ke A n c)
  have HB2 := hid (two_below w mo ke A n c)
  have HLN := hid hln
  clear hpt hsm hin e9 hnc hcm hln hz hok0
  go_enter Try.func54, Try.ntmps54
  go_wp2_with fail
  generalize (w.alloc (.cells #[.int .i64 mo, .int .i64 ke, .slice A n c] 26)).alloc (.cells #[.int .i64 0, .int .i64 0, .slice none 0 0] 26) = w1 at *
  have hw1 : w.heap.size < w1.heap.size := (Rows.bc HR2.out.right 0 rfl).2
  have hw2 : w.heap.size + 1 < w1.heap.size := (Rows.bc HR2.out.left 0 rfl).2
  go_cut [5] from 6 (fun s5 wc => ∃ (bo : Nat) (A2 : Option Addr) (c2 : Nat) (es : List Cell2), s5 = .pointer (some ⟨bo, 0, none⟩) ∧ w1.heap.size ≤ bo ∧ Hid (NE StrsR es (l0 :: Lt)) ∧ Hid (Rows wc w.heap.size ([bxRow 26 3 bo [.int .i64 mo, .int .i64 ke, .slice A2 n c2]] ++ ([bxRow 26 3 (w.heap.size + 1) [.int .i64 0, .int .i64 0, .slice none 0 0]] ++ (nestRows 35 (.slice A2 n c2) es ++ [bxRow 26 3 w.heap.size [.int .i64 mo, .int .i64 ke, .slice A n c]])))) ∧ Hid (Below w.heap.size w wc))
  case first =>
    have p0 := (Rows.bc HR2.out.right 0 rfl).1
    have p1 := (Rows.bc HR2.out.right 1 rfl).1
    have p2 := (Rows.bc HR2.out.right 2 rfl).1
    refine wp_region_held_drew (S := (fun w' : World => w'.cell? ⟨w.heap.size, 0, none⟩ = some (.int .i64 mo) ∧ w'.cell? ⟨w.heap.size, 1, none⟩ = some (.int .i64 ke) ∧ w'.cell? ⟨w.heap.size, 2, none⟩ = some (.slice A n c))) (by kernel_rfl) ⟨p0, p1, p2⟩ (fun hS => ?_)
    refine wpAnyH_take (i := 0) (oi := ?oi101) (v := ?v101) ?hi101 (by kernel_rfl) ?hf101 ?hr101 ?hQ101 (Or.inl ⟨?hw101, ?hy101⟩) (by assumption) ?rest101
    case hi101 => simp only [List.getElem?_toArray, List.getElem?_cons_succ, List.getElem?_cons_zero]; rfl
    case hf101 => kernel_rfl
    case hr101 => kernel_rfl
    case hw101 => rfl
    case hy101 => (intro w hSw; (try dsimp only at hSw); go_simp; all_goals (first | done | with_reducible rfl))
    case hQ101 => exact fun _ _ _ h => h
    simp only [Act.put, List.setIfInBounds_toArray, List.set_cons_zero, List.set_cons_succ]
    refine wpAnyH_take (i := 1) (oi := ?oi102) (v := ?v102) ?hi102 (by kernel_rfl) ?hf102 ?hr102 ?hQ102 (Or.inl ⟨?hw102, ?hy102⟩) (by assumption) ?rest102
    case hi102 => simp only [List.getElem?_toArray, List.getElem?_cons_succ, List.getElem?_cons_zero]; rfl
    case hf102 => kernel_rfl
    case hr102 => kernel_rfl
    case hw102 => rfl
    case hy102 => (intro w hSw; (try dsimp only at hSw); go_simp; all_goals (first | done | with_reducible rfl))
    case hQ102 => exact fun _ _ _ h => h
    simp only [Act.put, List.setIfInBounds_toArray, List.set_cons_zero, List.set_cons_succ]
    refine wpAnyH_take (i := 2) (oi := ?oi103) (v := ?v103) ?hi103 (by kernel_rfl) ?hf103 ?hr103 ?hQ103 (Or.inl ⟨?hw103, ?hy103⟩) (by assumption) ?rest103
    case hi103 => simp only [List.getElem?_toArray, List.getElem?_cons_succ, List.getElem?_cons_zero]; rfl
    case hf103 => kernel_rfl
    case hr103 => kernel_rfl
    case hw103 => rfl
    case hy103 => (intro w hSw; (try dsimp only at hSw); go_simp; all_goals (first | done | with_reducible rfl))
    case hQ103 => exact fun _ _ _ h => h
    simp only [Act.put, List.setIfInBounds_toArray, List.set_cons_zero, List.set_cons_succ]
    refine wpAnyH_take (i := 3) (oi := ?oi104) (v := ?v104) ?hi104 (by kernel_rfl) ?hf104 ?hr104 ?hQ104 (Or.inl ⟨?hw104, ?hy104⟩) (by assumption) ?rest104
    case hi104 => simp only [List.getElem?_toArray, List.getElem?_cons_succ, List.getElem?_cons_zero]; rfl
    case hf104 => kernel_rfl
    case hr104 => kernel_rfl
    case hw104 => rfl
    case hy104 => (intro w hSw; (try dsimp only at hSw); go_simp; all_goals (first | done | with_reducible rfl))
    case hQ104 => exact fun _ _ _ h => h
    simp only [Act.put, List.setIfInBounds_toArray, List.set_cons_zero, List.set_cons_succ]
    refine wpAnyH_take (i := 4) (oi := ?oi105) (v := ?v105) ?hi105 (by kernel_rfl) ?hf105 ?hr105 ?hQ105 (Or.inl ⟨?hw105, ?hy105⟩) (by assumption) ?rest105
    case hi105 => simp only [List.getElem?_toArray, List.getElem?_cons_succ, List.getElem?_cons_zero]; rfl
    case hf105 => kernel_rfl
    case hr105 => kernel_rfl
    case hw105 => rfl
    case hy105 => (intro w hSw; (try dsimp only at hSw); go_simp; all_goals (first | done | with_reducible rfl))
    case hQ105 => exact fun _ _ _ h => h
    simp only [Act.put, List.setIfInBounds_toArray, List.set_cons_zero, List.set_cons_succ]
    refine wpAnyH_take (i := 5) (oi := ?oi106) (v := ?v106) ?hi106 (by kernel_rfl) ?hf106 ?hr106 ?hQ106 (Or.inl ⟨?hw106, ?hy106⟩) (by assumption) ?rest106
    case hi106 => simp only [List.getElem?_toArray, List.getElem?_cons_succ, List.getElem?_cons_zero]; rfl
    case hf106 => kernel_rfl
    case hr106 => kernel_rfl
    case hw106 => rfl
    case hy106 => (intro w hSw; (try dsimp only at hSw); go_simp; all_goals (first | done | with_reducible rfl))
    case hQ106 => exact fun _ _ _ h => h
    simp only [Act.put, List.setIfInBounds_toArray, List.set_cons_zero, List.set_cons_succ]
    refine wpAnyH_ready (rs := [6, 8]) (by kernel_rfl) (by simp) ?_
    refine AllReadyH.cons (o := ?oi107) ?hi107 (fun K hK => ?stepA107) (AllReadyH.cons (o := ?oj107) ?hj107 (fun K hK => ?stepB107) AllReadyH.nil)
    case hi107 => simp only [List.getElem?_toArray, List.getElem?_cons_succ, List.getElem?_cons_zero]; rfl
    case hj107 => simp only [List.getElem?_toArray, List.getElem?_cons_succ, List.getElem?_cons_zero]; rfl
    all_goals rw [if_pos (by rfl)]
    all_goals go_simp
    · go_at_call 46
      refine (C3.out _ HB2.out.drew).mono ?_
      rintro e w2 ⟨u2, rs2, rfl, hs2, hr2, hb2⟩
      obtain ⟨A2, c2, rfl, _, _⟩ := (NestR.own_ hs2 hr2).form
      obtain ⟨es2, rfl, hne2⟩ := hs2.ne
      rw [HLN.out] at hr2
      rw [show (l0 :: Lt).length = n from HLN.out]
      have HR3 := hid (HR2.out.dr.newer hb2 hr2 HB2.out.size)
      have HB3 := hid (HB2.out.drew.trans (hb2.mono HB2.out.size))
      have HE := hid hne2
      have hsz2 : w1.heap.size ≤ w2.heap.size := hb2.size
      clear hs2 hr2 hb2 hne2 p0 p1 p2
      have p0 := (Rows.bc HR3.out.right.right 0 rfl).1
      have p1 := (Rows.bc HR3.out.right.right 1 rfl).1
      have p2 := (Rows.bc HR3.out.right.right 2 rfl).1
      refine hK.out _ _ ⟨p0, p1, p2⟩ (fun hS9 => ?_)
      refine wpAnyH_take (i := 7) (oi := ?oi108) (v := ?v108) ?hi108 (by kernel_rfl) ?hf108 ?hr108 ?hQ108 (Or.inl ⟨?hw108, ?hy108⟩) (by assumption) ?rest108
      case hi108 => simp only [List.getElem?_toArray, List.getElem?_cons_succ, List.getElem?_cons_zero]; rfl
      case hf108 => kernel_rfl
      case hr108 => kernel_rfl
      case hw108 => rfl
      case hy108 => (intro w hSw; (try dsimp only at hSw); go_simp; all_goals (first | done | with_reducible rfl))
      case hQ108 => exact fun _ _ _ h => h
      simp only [Act.put, List.setIfInBounds_toArray, List.set_cons_zero, List.set_cons_succ]
      refine wpAnyH_ready (rs := [8]) (by kernel_rfl) (by simp) ?_
      refine AllReadyH.cons (o := ?oi109) ?hi109 (fun K hK => ?step109) AllReadyH.nil
      case hi109 => simp only [List.getElem?_toArray, List.getElem?_cons_succ, List.getElem?_cons_zero]; rfl
      rw [if_pos (by rfl)]
      go_simp
      have HR4 := hid (HR3.out.bx HB3.out.size #[.int .i64 0, .int .i64 0, .slice none 0 0] 26 3 rfl)
      have HB4 := hid (HB3.out.alloc HB3.out.size (.cells #[.int .i64 0, .int .i64 0, .slice none 0 0] 26))
      have hbo : w1.heap.size ≤ w2.heap.size := hsz2
      have hbo2 : w.heap.size ≤ w2.heap.size := by omega
      have ne1 : w2.heap.size ≠ w.heap.size := by omega
      clear p0 p1 p2
      have p0 := (Rows.bc HR4.out.right.right.right 0 rfl).1
      have p1 := (Rows.bc HR4.out.right.right.right 1 rfl).1
      have p2 := (Rows.bc HR4.out.right.right.right 2 rfl).1
      refine hK.out _ _ ⟨p0, p1, p2⟩ (fun hS9 => ?_)
      generalize w2.alloc (.cells #[.int .i64 0, .int .i64 0, .slice none 0 0] 26) = w3 at *
      generalize w2.heap.size = bo at *
      obtain ⟨z0c, z0, _⟩ := Rows.bcell2 (pre := []) (q := 0) HR4.out rfl
      obtain ⟨z1c, z1, _⟩ := Rows.bcell2 (pre := []) (q := 1) HR4.out rfl
      obtain ⟨z2c, z2, _⟩ := Rows.bcell2 (pre := []) (q := 2) HR4.out rfl
      refine wpAnyH_ready (rs := [9]) (by kernel_rfl) (by simp) ?_
      refine AllReadyH.cons (o := ?oi110) ?hi110 (fun K hK => ?step110) AllReadyH.nil
      case hi110 => simp only [List.getElem?_toArray, List.getElem?_cons_succ, List.getElem?_cons_zero]; rfl
      rw [if_pos (by rfl)]
      go_simp
      have far : ∀ (W : World) (q q' : Nat) (u u' : Value), W.cell? ⟨w.heap.size, q, none⟩ = some u → (W.setCell ⟨bo, q', none⟩ u').cell? ⟨w.heap.size, q, none⟩ = some u := fun W q q' u u' h => (World.cell?_setCell_far _ _ _ _ ne1).trans h
      refine hK.out _ _ ⟨far _ _ _ _ _ (far _ _ _ _ _ (far _ _ _ _ _ p0)), far _ _ _ _ _ (far _ _ _ _ _ (far _ _ _ _ _ p1)), far _ _ _ _ _ (far _ _ _ _ _ (far _ _ _ _ _ p2))⟩ (fun hS9 => ?_)
      refine wpAnyH_done (by kernel_rfl) ?_ _
      clear far hS hS9 p0 p1 p2 z0c z1c z2c z0 z1 z2
      have Y0 := Rows.boxset (pre := []) (j := 0) (u := .int .i64 mo) HR4.out
      have Y1 := Rows.boxset (pre := []) (j := 1) (u := .int .i64 ke) Y0
      have Y2 := hid (Rows.boxset (pre := []) (j := 2) (u := .slice A2 n c2) Y1)
      clear Y0 Y1
      go_wp2_with fail
      go_meet
      case rel => exact ⟨_, A2, c2, es2, rfl, hbo, HE.out, Y2.out.perm (List.Perm.append_left _ (by simpa only [List.append_assoc] using (List.perm_append_comm_assoc _ _ _))), ((HB4.out.setCell (p := ⟨_, 0, none⟩) hbo2 (.int .i64 mo)).setCell (p := ⟨_, 1, none⟩) hbo2 (.int .i64 ke)).setCell (p := ⟨_, 2, none⟩) hbo2 (.slice A2 n c2)⟩
    · have HR3 := hid (HR2.out.dr.bx HB2.out.size #[.int .i64 0, .int .i64 0, .slice none 0 0] 26 3 rfl)
      have HB3 := hid (HB2.out.drew.alloc HB2.out.size (.cells #[.int .i64 0, .int .i64 0, .slice none 0 0] 26))
      simp only [show w1.drew.heap.size = w1.heap.size from rfl] at HR3 HB3
      clear p0 p1 p2
      have p0 := (Rows.bc HR3.out.right.right 0 rfl).1
      have p1 := (Rows.bc HR3.out.right.right 1 rfl).1
      have p2 := (Rows.bc HR3.out.right.right 2 rfl).1
      refine hK.out _ _ ⟨p0, p1, p2⟩ (fun hS9 => ?_)
      refine wpAnyH_ready (rs := [6]) (by kernel_rfl) (by simp) ?_
      refine AllReadyH.cons (o := ?oi111) ?hi111 (fun K hK => ?step111) AllReadyH.nil
      case hi111 => simp only [List.getElem?_toArray, List.getElem?_cons_succ, List.getElem?_cons_zero]; rfl
      rw [if_pos (by rfl)]
      go_simp
      go_at_call 46
      refine (C3.out _ HB3.out).mono ?_
      rintro e w2 ⟨u2, rs2, rfl, hs2, hr2, hb2⟩
      obtain ⟨A2, c2, rfl, _, _⟩ := (NestR.own_ hs2 hr2).form
      obtain ⟨es2, rfl, hne2⟩ := hs2.ne
      rw [HLN.out] at hr2
      rw [show (l0 :: Lt).length = n from HLN.out]
      have HR4 := hid ((HR3.out.newer hb2 hr2 HB3.out.size).perm (List.perm_append_comm_assoc _ _ _))
      have HB4 := hid (HB3.out.trans (hb2.mono HB3.out.size))
      have HE := hid hne2
      have hbo : w1.heap.size ≤ w1.heap.size := Nat.le_refl _
      have hbo2 : w.heap.size ≤ w1.heap.size := by omega
      have ne1 : w1.heap.size ≠ w.heap.size := by omega
      clear hs2 hr2 hb2 hne2 p0 p1 p2
      have p0 := (Rows.bc HR4.out.right.right.right 0 rfl).1
      have p1 := (Rows.bc HR4.out.right.right.right 1 rfl).1
      have p2 := (Rows.bc HR4.out.right.right.right 2 rfl).1
      refine hK.out _ _ ⟨p0, p1, p2⟩ (fun hS9 => ?_)
      refine wpAnyH_take (i := 7) (oi := ?oi112) (v := ?v112) ?hi112 (by kernel_rfl) ?hf112 ?hr112 ?hQ112 (Or.inl ⟨?hw112, ?hy112⟩) (by assumption) ?rest112
      case hi112 => simp only [List.getElem?_toArray, List.getElem?_cons_succ, List.getElem?_cons_zero]; rfl
      case hf112 => kernel_rfl
      case hr112 => kernel_rfl
      case hw112 => rfl
      case hy112 => (intro w hSw; (try dsimp only at hSw); go_simp; all_goals (first | done | with_reducible rfl))
      case hQ112 => exact fun _ _ _ h => h
      simp only [Act.put, List.setIfInBounds_toArray, List.set_cons_zero, List.set_cons_succ]
      generalize hbv : w1.heap.size = bo at *
      obtain ⟨z0c, z0, _⟩ := Rows.bcell2 (pre := []) (q := 0) HR4.out rfl
      obtain ⟨z1c, z1, _⟩ := Rows.bcell2 (pre := []) (q := 1) HR4.out rfl
      obtain ⟨z2c, z2, _⟩ := Rows.bcell2 (pre := []) (q := 2) HR4.out rfl
      refine wpAnyH_ready (rs := [9]) (by kernel_rfl) (by simp) ?_
      refine AllReadyH.cons (o := ?oi113) ?hi113 (fun K hK => ?step113) AllReadyH.nil
      case hi113 => simp only [List.getElem?_toArray, List.getElem?_cons_succ, List.getElem?_cons_zero]; rfl
      rw [if_pos (by rfl)]
      go_simp
      have far : ∀ (W : World) (q q' : Nat) (u u' : Value), W.cell? ⟨w.heap.size, q, none⟩ = some u → (W.setCell ⟨bo, q', none⟩ u').cell? ⟨w.heap.size, q, none⟩ = some u := fun W q q' u u' h => (World.cell?_setCell_far _ _ _ _ ne1).trans h
      refine hK.out _ _ ⟨far _ _ _ _ _ (far _ _ _ _ _ (far _ _ _ _ _ p0)), far _ _ _ _ _ (far _ _ _ _ _ (far _ _ _ _ _ p1)), far _ _ _ _ _ (far _ _ _ _ _ (far _ _ _ _ _ p2))⟩ (fun hS9 => ?_)
      refine wpAnyH_done (by kernel_rfl) ?_ _
      clear far hS hS9 p0 p1 p2 z0c z1c z2c z0 z1 z2
      have Y0 := Rows.boxset (pre := []) (j := 0) (u := .int .i64 mo) HR4.out
      have Y1 := Rows.boxset (pre := []) (j := 1) (u := .int .i64 ke) Y0
      have Y2 := hid (Rows.boxset (pre := []) (j := 2) (u := .slice A2 n c2) Y1)
      clear Y0 Y1
      go_wp2_with fail
      go_meet
      case rel => exact ⟨_, A2, c2, es2, rfl, hbo, HE.out, Y2.out.perm (List.Perm.append_left _ (by simpa only [List.append_assoc] using (List.perm_append_comm_assoc _ _ _))), ((HB4.out.setCell (p := ⟨_, 0, none⟩) hbo2 (.int .i64 mo)).setCell (p := ⟨_, 1, none⟩) hbo2 (.int .i64 ke)).setCell (p := ⟨_, 2, none⟩) hbo2 (.slice A2 n c2)⟩
  case rest =>
    clear HR2 HB2
    obtain ⟨bo, A2, c2, es, rfl, hbo, HE, HR, HB⟩ := hcut
    rename World => wc
    obtain ⟨b, o, u, l, hA, hbB, hxx, c0, hin⟩ := (HI.out.below HB.out hB).elem (k := 0) (by omega)
    subst hA
    obtain ⟨A', c', rfl, hnc', hcm'⟩ := hin.1.form
    obtain rfl : l0 = l := Option.some.inj hxx
    rw [Nat.add_zero] at c0
    unfold maxLen at hcm'
    have HIN := hid (fun n => hin.below (below_dr (Below.refl wc.heap.size wc) n) (Nat.le_trans hB HB.out.size))
    obtain ⟨u6, rs6, es6, rfl, hs6, hne6⟩ := HE.out.cons_inv
    obtain ⟨A6, c6, hu6, _, _⟩ := (Sl.of_own (hs6.own (nest_sub HR.out.right.right.left (List.mem_cons_self ..)))).form
    have hu6' : u6 = .slice A6 l0.length c6 := hu6
    subst hu6'
    have hs6' : rs6 = [⟨9, 1, l0.length, .slice A6 l0.length c6, l0.map txt⟩] := hs6
    subst hs6'
    have hn6 : es6.length + 1 = n := by have h8 := hne6.1; have h9 := HLN.out; simp at h9; omega
    obtain ⟨g, rfl, _⟩ := own_some (show World.ownsRow wc w.heap.size 35 1 (.slice A2 n c2) n _ by have h9 := nest_top HR.out.right.right.left; rw [show ((((Value.slice A6 l0.length c6), [(⟨9, 1, l0.length, .slice A6 l0.length c6, l0.map txt⟩ : Row)]) : Cell2) :: es6).length = n from by simp; exact hn6] at h9; exact h9) (by omega)
    have HE6 := hid hne6
    generalize hln : l0.length = ln at *
    generalize hsl : sizeL l0 = sl at *
    have HLs := hid (And.intro hln hsl)
    clear hin hxx hs6 hne6 HE hu6 hln hsl
    have p0 := (Rows.bc HR.out.right.right.right 0 rfl).1
    have p1 := (Rows.bc HR.out.right.right.right 1 rfl).1
    have p2 := (Rows.bc HR.out.right.right.right 2 rfl).1
    have CQ := hid (fun n => C4.out (wc.drewN n) _ (HIN.out n))
    have hl0 : 0 < n := by omega
    have hl0' : (0 : Int) < (n : Int) := by omega
    have wr1 : (0 : Int) ≤ (sl : Int) := by omega
    have wr2 : (x.size : Int) ≤ 1048576 := by omega
    have wr3 : (0 : Int) ≤ (x.size : Int) := by omega
    have HRn := hid (fun n => HR.out.below (below_dr (Below.refl _ _) n))
    have HBn := hid (fun n => below_dr HB.out n)
    have hbo2 : w.heap.size ≤ bo := by omega
    have hbr2 : w.heap.size ≤ w.heap.size + 1 := by omega
    cases g1 : decide ((0 : Int) < (ln : Int)) with
    | false =>
      have g1' : decide (0 < ln) = false := by simpa using g1
      have hXB : writeF ⟨mo, ke, l0 :: Lt⟩ x.data.toList = ⟨mo, ke, (l0 ++ [x.data.toList]) :: Lt⟩ := by rw [HX.out, HBF.out, g1]; rfl
      replace hXB := hid hXB
      clear HX HBF C2
      go_wp2_with fail
      go_quiet ((go_at_call 67; exact Calls.quiet_of_same (CQ.out _)))
      go_wp2_with fail
      have HRw := hid (HRn.out nq)
      have HBw := hid (HBn.out nq)
      clear HRn HBn HR HB p0 p1 p2 c0 CQ HIN HI C3 C4
      generalize wc.drewN nq = wd at *
      have HW := hid ((show Rows wd.drew w.heap.size _ from HRw.out.dr).perm (perm3 _ _ _ _))
      obtain ⟨A7, c7, w5, hrun, hb5, hs5, hR5, hR6⟩ := nest_put0 HW.out hn6 (show w.heap.size ≤ wd.drew.heap.size from HBw.out.size) (show ln ≤ 1048576 by omega) x 9
      have HRun := hid hrun
      have HR5 := hid hR5
      have HR6 := hid hR6
      have htopW : wd.drew.ownsRow w.heap.size 35 1 (.slice (some ⟨g, 0, none⟩) n c2) n (.slice A6 ln c6 :: heads es6) := by have h9 := nest_top HW.out.left; rw [List.length_cons, hn6] at h9; exact h9
      have hgW : g < wd.heap.size := (htopW.lt g rfl).2
      have hboW : bo < wd.heap.size := (Rows.bc HRw.out.left 0 rfl).2
      have hgw0 : w.heap.size ≤ g := (htopW.lt g rfl).1
      have hgbo : g ≠ bo := box_ne HRw.out (List.mem_append_right _ (List.mem_append_left _ (show (⟨35, 1, _, .slice (some ⟨g, 0, none⟩) n c2, _⟩ : Row) ∈ _ from List.mem_cons_self ..))) rfl
      have d0 := (Rows.bc HRw.out.left 2 rfl).1
      have d1 : wd.cell? ⟨g, 0, none⟩ = some (.slice A6 ln c6) := (htopW.cellAt 0 (by omega)).trans rfl
      have e0 := (Rows.bc HR5.out.right.left 2 rfl).1
      have e1 : w5.cell? ⟨g, 0, none⟩ = some (.slice A6 ln c6) := ((show w5.ownsRow w.heap.size 35 1 (.slice (some ⟨g, 0, none⟩) n c2) n _ from HR5.out.head).cellAt 0 (by omega)).trans rfl
      have e1f := (show w5.ownsRow w.heap.size 35 1 (.slice (some ⟨g, 0, none⟩) n c2) n _ from HR5.out.head).frozenAt 0
      have HB6 := hid (((show Below w.heap.size w wd.drew from HBw.out.drew).trans hb5).setCell (p := ⟨g, 0, none⟩) hgw0 (.slice A7 (ln + 1) c7))
      clear hrun hb5 hs5 hR5 hR6 htopW
      refine wp_region_let 10 (fun w' : World => w'.cell? ⟨bo, 2, none⟩ = some (.slice (some ⟨g, 0, none⟩) n c2)) (fun w' : World => w'.cell? ⟨g, 0, none⟩ = some (.slice A6 ln c6)) (by kernel_rfl) d0 d1 (fun hS => ?_)
      refine wpAnyL_take (i := 0) (oi := ?oi114) (v := ?v114) ?hi114 (by kernel_rfl) ?hf114 ?hr114 (by decide) ?hQ114 (Or.inl ⟨?hw114, ?hy114⟩) (⟨hS.1, fun h => hS.2 (by first | rfl | exact h)⟩) ?rest114
      case hi114 => simp only [List.getElem?_toArray, List.getElem?_cons_succ, List.getElem?_cons_zero]; rfl
      case hf114 => kernel_rfl
      case hr114 => kernel_rfl
      case hw114 => rfl
      case hy114 => (intro w hSw; (try dsimp only at hSw); go_simp; all_goals (first | done | with_reducible rfl))
      case hQ114 => exact fun _ _ _ h => h
      simp only [Act.put, List.setIfInBounds_toArray, List.set_cons_zero, List.set_cons_succ]
      refine wpAnyL_take (i := 1) (oi := ?oi115) (v := ?v115) ?hi115 (by kernel_rfl) ?hf115 ?hr115 (by decide) ?hQ115 (Or.inl ⟨?hw115, ?hy115⟩) (⟨hS.1, fun h => hS.2 (by first | rfl | exact h)⟩) ?rest115
      case hi115 => simp only [List.getElem?_toArray, List.getElem?_cons_succ, List.getElem?_cons_zero]; rfl
      case hf115 => kernel_rfl
      case hr115 => kernel_rfl
      case hw115 => rfl
      case hy115 => (intro w hSw; (try dsimp only at hSw); go_simp; all_goals (first | done | with_reducible rfl))
      case hQ115 => exact fun _ _ _ h => h
      simp only [Act.put, List.setIfInBounds_toArray, List.set_cons_zero, List.set_cons_succ]
      refine wpAnyL_take (i := 2) (oi := ?oi116) (v := ?v116) ?hi116 (by kernel_rfl) ?hf116 ?hr116 (by decide) ?hQ116 (Or.inl ⟨?hw116, ?hy116⟩) (⟨hS.1, fun h => hS.2 (by first | rfl | exact h)⟩) ?rest116
      case hi116 => simp only [List.getElem?_toArray, List.getElem?_cons_succ, List.getElem?_cons_zero]; rfl
      case hf116 => kernel_rfl
      case hr116 => kernel_rfl
      case hw116 => rfl
      case hy116 => (intro w hSw; (try dsimp only at hSw); go_simp; all_goals (first | done | with_reducible rfl))
      case hQ116 => exact fun _ _ _ h => h
      simp only [Act.put, List.setIfInBounds_toArray, List.set_cons_zero, List.set_cons_succ]
      refine wpAnyL_take (i := 3) (oi := ?oi117) (v := ?v117) ?hi117 (by kernel_rfl) ?hf117 ?hr117 (by decide) ?hQ117 (Or.inl ⟨?hw117, ?hy117⟩) (⟨hS.1, fun h => hS.2 (by first | rfl | exact h)⟩) ?rest117
      case hi117 => simp only [List.getElem?_toArray, List.getElem?_cons_succ, List.getElem?_cons_zero]; rfl
      case hf117 => kernel_rfl
      case hr117 => kernel_rfl
      case hw117 => rfl
      case hy117 => (intro w hSw; (try dsimp only at hSw); go_simp; all_goals (first | done | with_reducible rfl))
      case hQ117 => exact fun _ _ _ h => h
      simp only [Act.put, List.setIfInBounds_toArray, List.set_cons_zero, List.set_cons_succ]
      refine wpAnyL_take (i := 4) (oi := ?oi118) (v := ?v118) ?hi118 (by kernel_rfl) ?hf118 ?hr118 (by decide) ?hQ118 (Or.inl ⟨?hw118, ?hy118⟩) (⟨hS.1, fun h => hS.2 (by first | rfl | exact h)⟩) ?rest118
      case hi118 => simp only [List.getElem?_toArray, List.getElem?_cons_succ, List.getElem?_cons_zero]; rfl
      case hf118 => kernel_rfl
      case hr118 => kernel_rfl
      case hw118 => rfl
      case hy118 => (intro w hSw; (try dsimp only at hSw); go_simp; all_goals (first | done | with_reducible rfl))
      case hQ118 => exact fun _ _ _ h => h
      simp only [Act.put, List.setIfInBounds_toArray, List.set_cons_zero, List.set_cons_succ]
      refine wpAnyL_take1 (i := 5) (oi := ?oi119) (om := ?om119) (v := ?v119) ?hi119 (by kernel_rfl) ?hf119 ?hr119 (by decide) ?hm119 ?hd119 (by rfl) ?hQ119 (Or.inl ⟨?hw119, ?hy119⟩) (⟨hS.1, fun h => hS.2 (by first | rfl | exact h)⟩) ?rest119
      case hi119 => simp only [List.getElem?_toArray, List.getElem?_cons_succ, List.getElem?_cons_zero]; rfl
      case hm119 => simp only [List.getElem?_toArray, List.getElem?_cons_succ, List.getElem?_cons_zero]; rfl
      case hd119 => kernel_rfl
      case hf119 => kernel_rfl
      case hr119 => kernel_rfl
      case hw119 => rfl
      case hy119 => (intro w hSw; (try dsimp only at hSw); go_simp; all_goals (first | done | with_reducible rfl))
      case hQ119 => exact fun _ _ _ h => h
      simp only [Act.put, List.setIfInBounds_toArray, List.set_cons_zero, List.set_cons_succ]
      refine wpAnyL_take (i := 6) (oi := ?oi120) (v := ?v120) ?hi120 (by kernel_rfl) ?hf120 ?hr120 (by decide) ?hQ120 (Or.inl ⟨?hw120, ?hy120⟩) (⟨hS.1, fun h => hS.2 (by first | rfl | exact h)⟩) ?rest120
      case hi120 => simp only [List.getElem?_toArray, List.getElem?_cons_succ, List.getElem?_cons_zero]; rfl
      case hf120 => kernel_rfl
      case hr120 => kernel_rfl
      case hw120 => rfl
      case hy120 => (intro w hSw; (try dsimp only at hSw); go_simp; all_goals (first | done | with_reducible rfl))
      case hQ120 => exact fun _ _ _ h => h
      simp only [Act.put, List.setIfInBounds_toArray, List.set_cons_zero, List.set_cons_succ]
      refine wpAnyL_ready (rs := [7]) (by kernel_rfl) (by simp) ?_
      refine AllReadyL.cons (o := ?oi121) ?hi121 (fun K hK => ?step121) AllReadyL.nil
      case hi121 => simp only [List.getElem?_toArray, List.getElem?_cons_succ, List.getElem?_cons_zero]; rfl
      rw [if_pos (by rfl)]
      go_simp
      refine hK.out _ _ ⟨(World.cell?_alloc_past _ _ _ hboW).trans d0, fun _ => (World.cell?_alloc_past _ _ _ hgW).trans d1⟩ (fun hS => ?_)
      refine wpAnyL_ready (rs := [8]) (by kernel_rfl) (by simp) ?_
      refine AllReadyL.cons (o := ?oi122) ?hi122 (fun K hK => ?step122) AllReadyL.nil
      case hi122 => simp only [List.getElem?_toArray, List.getElem?_cons_succ, List.getElem?_cons_zero]; rfl
      rw [if_pos (by rfl)]
      refine wp_app rfl (by rfl) (by rfl) HRun.out ?_
      refine hK.out _ _ ⟨e0, fun _ => e1⟩ (fun hS => ?_)
      simp only [Act.put, List.setIfInBounds_toArray, List.set_cons_zero, List.set_cons_succ]
      refine wpAnyL_take (i := 9) (oi := ?oi123) (v := ?v123) ?hi123 (by kernel_rfl) ?hf123 ?hr123 (by decide) ?hQ123 (Or.inl ⟨?hw123, ?hy123⟩) (⟨hS.1, fun h => hS.2 (by first | rfl | exact h)⟩) ?rest123
      case hi123 => simp only [List.getElem?_toArray, List.getElem?_cons_succ, List.getElem?_cons_zero]; rfl
      case hf123 => kernel_rfl
      case hr123 => kernel_rfl
      case hw123 => rfl
      case hy123 => (intro w hSw; (try dsimp only at hSw); go_simp; all_goals (first | done | with_reducible rfl))
      case hQ123 => exact fun _ _ _ h => h
      simp only [Act.put, List.setIfInBounds_toArray, List.set_cons_zero, List.set_cons_succ]
      refine wpAnyL_ready (rs := [10]) (by kernel_rfl) (by simp) ?_
      refine AllReadyL.cons (o := ?oi124) ?hi124 (fun K hK => ?step124) AllReadyL.nil
      case hi124 => simp only [List.getElem?_toArray, List.getElem?_cons_succ, List.getElem?_cons_zero]; rfl
      rw [if_pos (by rfl)]
      go_simp
      refine hK.out _ _ ⟨(World.cell?_setCell_far _ _ _ _ hgbo).trans e0, fun h => absurd h (by decide)⟩ (fun hS => ?_)
      refine wpAnyL_done (by kernel_rfl) ?_ _
      clear hS d0 d1 e0 e1 e1f HRun HR5 HW
      have HR7 := hid (HR6.out.perm (perm3 _ _ _ _).symm)
      clear HR6
      generalize w5.setCell ⟨g, 0, none⟩ (.slice A7 (ln + 1) c7) = w6 at *
      obtain ⟨o0, _, _⟩ := Rows.bcell2 (pre := []) (q := 0) HR7.out rfl
      obtain ⟨o1, _, _⟩ := Rows.bcell2 (pre := []) (q := 1) HR7.out rfl
      obtain ⟨o2, _, _⟩ := Rows.bcell2 (pre := []) (q := 2) HR7.out rfl
      obtain ⟨r0, x0, _⟩ := Rows.bcell2 (pre := [_]) (q := 0) HR7.out rfl
      obtain ⟨r1, x1, _⟩ := Rows.bcell2 (pre := [_]) (q := 1) HR7.out rfl
      obtain ⟨r2, x2, _⟩ := Rows.bcell2 (pre := [_]) (q := 2) HR7.out rfl
      go_wp2_with fail
      have Y2 := Rows.boxset (pre := [_]) (j := 0) (u := .int .i64 mo) HR7.out
      have Y3 := Rows.boxset (pre := [_]) (j := 1) (u := .int .i64 ke) Y2
      have Y4 := Rows.boxset (pre := [_]) (j := 2) (u := .slice (some ⟨g, 0, none⟩) n c2) Y3
      have f0 := (Rows.bcell2 (pre := [_]) (q := 0) Y4 rfl).1
      have f1 := (Rows.bcell2 (pre := [_]) (q := 1) Y4 rfl).1
      have f2 := (Rows.bcell2 (pre := [_]) (q := 2) Y4 rfl).1
      refine bodyPost_ret (v := .agg #[.int .i64 mo, .int .i64 ke, .slice (some ⟨g, 0, none⟩) n c2]) (by simp [results, Try.results54, go_sem, f0, f1, f2]) rfl ?_
      rw [hXB.out]
      exact ⟨_, _, rfl, ⟨_, rfl, (NE.cons HE6.out (l := l0 ++ [x.data.toList]) (by unfold StrsR; rw [List.length_append, HLs.out.1]; rfl)).toR⟩, (Rows.right Y4).left, ((HB6.out.setCell (p := ⟨w.heap.size + 1, 0, none⟩) hbr2 (.int .i64 mo)).setCell (p := ⟨w.heap.size + 1, 1, none⟩) hbr2 (.int .i64 ke)).setCell (p := ⟨w.heap.size + 1, 2, none⟩) hbr2 (.slice (some ⟨g, 0, none⟩) n c2)⟩
    | true =>
      have g1' : decide (0 < ln) = true := by simpa using g1
      cases g2 : decide (mo < (sl : Int) + (x.size : Int) + 1) with
      | false =>
        have hXB : writeF ⟨mo, ke, l0 :: Lt⟩ x.data.toList = ⟨mo, ke, (l0 ++ [x.data.toList]) :: Lt⟩ := by rw [HX.out, HBF.out, g1, g2]; rfl
        replace hXB := hid hXB
        clear HX HBF C2
        go_wp2_with fail
        go_quiet ((go_at_call 67; exact Calls.quiet_of_same (CQ.out _)))
        go_wp2_with fail
        have HRw := hid (HRn.out nq)
        have HBw := hid (HBn.out nq)
        clear HRn HBn HR HB p0 p1 p2 c0 CQ HIN HI C3 C4
        generalize wc.drewN nq = wd at *
        have HW := hid ((show Rows wd.drew w.heap.size _ from HRw.out.dr).perm (perm3 _ _ _ _))
        obtain ⟨A7, c7, w5, hrun, hb5, hs5, hR5, hR6⟩ := nest_put0 HW.out hn6 (show w.heap.size ≤ wd.drew.heap.size from HBw.out.size) (show ln ≤ 1048576 by omega) x 9
        have HRun := hid hrun
        have HR5 := hid hR5
        have HR6 := hid hR6
        have htopW : wd.drew.ownsRow w.heap.size 35 1 (.slice (some ⟨g, 0, none⟩) n c2) n (.slice A6 ln c6 :: heads es6) := by have h9 := nest_top HW.out.left; rw [List.length_cons, hn6] at h9; exact h9
        have hgW : g < wd.heap.size := (htopW.lt g rfl).2
        have hboW : bo < wd.heap.size := (Rows.bc HRw.out.left 0 rfl).2
        have hgw0 : w.heap.size ≤ g := (htopW.lt g rfl).1
        have hgbo : g ≠ bo := box_ne HRw.out (List.mem_append_right _ (List.mem_append_left _ (show (⟨35, 1, _, .slice (some ⟨g, 0, none⟩) n c2, _⟩ : Row) ∈ _ from List.mem_cons_self ..))) rfl
        have d0 := (Rows.bc HRw.out.left 2 rfl).1
        have d1 : wd.cell? ⟨g, 0, none⟩ = some (.slice A6 ln c6) := (htopW.cellAt 0 (by omega)).trans rfl
        have e0 := (Rows.bc HR5.out.right.left 2 rfl).1
        have e1 : w5.cell? ⟨g, 0, none⟩ = some (.slice A6 ln c6) := ((show w5.ownsRow w.heap.size 35 1 (.slice (some ⟨g, 0, none⟩) n c2) n _ from HR5.out.head).cellAt 0 (by omega)).trans rfl
        have e1f := (show w5.ownsRow w.heap.size 35 1 (.slice (some ⟨g, 0, none⟩) n c2) n _ from HR5.out.head).frozenAt 0
        have HB6 := hid (((show Below w.heap.size w wd.drew from HBw.out.drew).trans hb5).setCell (p := ⟨g, 0, none⟩) hgw0 (.slice A7 (ln + 1) c7))
        clear hrun hb5 hs5 hR5 hR6 htopW
        refine wp_region_let 10 (fun w' : World => w'.cell? ⟨bo, 2, none⟩ = some (.slice (some ⟨g, 0, none⟩) n c2)) (fun w' : World => w'.cell? ⟨g, 0, none⟩ = some (.slice A6 ln c6)) (by kernel_rfl) d0 d1 (fun hS => ?_)
        refine wpAnyL_take (i := 0) (oi := ?oi125) (v := ?v125) ?hi125 (by kernel_rfl) ?hf125 ?hr125 (by decide) ?hQ125 (Or.inl ⟨?hw125, ?hy125⟩) (⟨hS.1, fun h => hS.2 (by first | rfl | exact h)⟩) ?rest125
        case hi125 => simp only [List.getElem?_toArray, List.getElem?_cons_succ, List.getElem?_cons_zero]; rfl
        case hf125 => kernel_rfl
        case hr125 => kernel_rfl
        case hw125 => rfl
        case hy125 => (intro w hSw; (try dsimp only at hSw); go_simp; all_goals (first | done | with_reducible rfl))
        case hQ125 => exact fun _ _ _ h => h
        simp only [Act.put, List.setIfInBounds_toArray, List.set_cons_zero, List.set_cons_succ]
        refine wpAnyL_take (i := 1) (oi := ?oi126) (v := ?v126) ?hi126 (by kernel_rfl) ?hf126 ?hr126 (by decide) ?hQ126 (Or.inl ⟨?hw126, ?hy126⟩) (⟨hS.1, fun h => hS.2 (by first | rfl | exact h)⟩) ?rest126
        case hi126 => simp only [List.getElem?_toArray, List.getElem?_cons_succ, List.getElem?_cons_zero]; rfl
        case hf126 => kernel_rfl
        case hr126 => kernel_rfl
        case hw126 => rfl
        case hy126 => (intro w hSw; (try dsimp only at hSw); go_simp; all_goals (first | done | with_reducible rfl))
        case hQ126 => exact fun _ _ _ h => h
        simp only [Act.put, List.setIfInBounds_toArray, List.set_cons_zero, List.set_cons_succ]
        refine wpAnyL_take (i := 2) (oi := ?oi127) (v := ?v127) ?hi127 (by kernel_rfl) ?hf127 ?hr127 (by decide) ?hQ127 (Or.inl ⟨?hw127, ?hy127⟩) (⟨hS.1, fun h => hS.2 (by first | rfl | exact h)⟩) ?rest127
        case hi127 => simp only [List.getElem?_toArray, List.getElem?_cons_succ, List.getElem?_cons_zero]; rfl
        case hf127 => kernel_rfl
        case hr127 => kernel_rfl
        case hw127 => rfl
        case hy127 => (intro w hSw; (try dsimp only at hSw); go_simp; all_goals (first | done | with_reducible rfl))
        case hQ127 => exact fun _ _ _ h => h
        simp only [Act.put, List.setIfInBounds_toArray, List.set_cons_zero, List.set_cons_succ]
        refine wpAnyL_take (i := 3) (oi := ?oi128) (v := ?v128) ?hi128 (by kernel_rfl) ?hf128 ?hr128 (by decide) ?hQ128 (Or.inl ⟨?hw128, ?hy128⟩) (⟨hS.1, fun h => hS.2 (by first | rfl | exact h)⟩) ?rest128
        case hi128 => simp only [List.getElem?_toArray, List.getElem?_cons_succ, List.getElem?_cons_zero]; rfl
        case hf128 => kernel_rfl
        case hr128 => kernel_rfl
        case hw128 => rfl
        case hy128 => (intro w hSw; (try dsimp only at hSw); go_simp; all_goals (first | done | with_reducible rfl))
        case hQ128 => exact fun _ _ _ h => h
        simp only [Act.put, List.setIfInBounds_toArray, List.set_cons_zero, List.set_cons_succ]
        refine wpAnyL_take (i := 4) (oi := ?oi129) (v := ?v129) ?hi129 (by kernel_rfl) ?hf129 ?hr129 (by decide) ?hQ129 (Or.inl ⟨?hw129, ?hy129⟩) (⟨hS.1, fun h => hS.2 (by first | rfl | exact h)⟩) ?rest129
        case hi129 => simp only [List.getElem?_toArray, List.getElem?_cons_succ, List.getElem?_cons_zero]; rfl
        case hf129 => kernel_rfl
        case hr129 => kernel_rfl
        case hw129 => rfl
        case hy129 => (intro w hSw; (try dsimp only at hSw); go_simp; all_goals (first | done | with_reducible rfl))
        case hQ129 => exact fun _ _ _ h => h
        simp only [Act.put, List.setIfInBounds_toArray, List.set_cons_zero, List.set_cons_succ]
        refine wpAnyL_take1 (i := 5) (oi := ?oi130) (om := ?om130) (v := ?v130) ?hi130 (by kernel_rfl) ?hf130 ?hr130 (by decide) ?hm130 ?hd130 (by rfl) ?hQ130 (Or.inl ⟨?hw130, ?hy130⟩) (⟨hS.1, fun h => hS.2 (by first | rfl | exact h)⟩) ?rest130
        case hi130 => simp only [List.getElem?_toArray, List.getElem?_cons_succ, List.getElem?_cons_zero]; rfl
        case hm130 => simp only [List.getElem?_toArray, List.getElem?_cons_succ, List.getElem?_cons_zero]; rfl
        case hd130 => kernel_rfl
        case hf130 => kernel_rfl
        case hr130 => kernel_rfl
        case hw130 => rfl
        case hy130 => (intro w hSw; (try dsimp only at hSw); go_simp; all_goals (first | done | with_reducible rfl))
        case hQ130 => exact fun _ _ _ h => h
        simp only [Act.put, List.setIfInBounds_toArray, List.set_cons_zero, List.set_cons_succ]
        refine wpAnyL_take (i := 6) (oi := ?oi131) (v := ?v131) ?hi131 (by kernel_rfl) ?hf131 ?hr131 (by decide) ?hQ131 (Or.inl ⟨?hw131, ?hy131⟩) (⟨hS.1, fun h => hS.2 (by first | rfl | exact h)⟩) ?rest131
        case hi131 => simp only [List.getElem?_toArray, List.getElem?_cons_succ, List.getElem?_cons_zero]; rfl
        case hf131 => kernel_rfl
        case hr131 => kernel_rfl
        case hw131 => rfl
        case hy131 => (intro w hSw; (try dsimp only at hSw); go_simp; all_goals (first | done | with_reducible rfl))
        case hQ131 => exact fun _ _ _ h => h
        simp only [Act.put, List.setIfInBounds_toArray, List.set_cons_zero, List.set_cons_succ]
        refine wpAnyL_ready (rs := [7]) (by kernel_rfl) (by simp) ?_
        refine AllReadyL.cons (o := ?oi132) ?hi132 (fun K hK => ?step132) AllReadyL.nil
        case hi132 => simp only [List.getElem?_toArray, List.getElem?_cons_succ, List.getElem?_cons_zero]; rfl
        rw [if_pos (by rfl)]
        go_simp
        refine hK.out _ _ ⟨(World.cell?_alloc_past _ _ _ hboW).trans d0, fun _ => (World.cell?_alloc_past _ _ _ hgW).trans d1⟩ (fun hS => ?_)
        refine wpAnyL_ready (rs := [8]) (by kernel_rfl) (by simp) ?_
        refine AllReadyL.cons (o := ?oi133) ?hi133 (fun K hK => ?step133) AllReadyL.nil
        case hi133 => simp only [List.getElem?_toArray, List.getElem?_cons_succ, List.getElem?_cons_zero]; rfl
        rw [if_pos (by rfl)]
        refine wp_app rfl (by rfl) (by rfl) HRun.out ?_
        refine hK.out _ _ ⟨e0, fun _ => e1⟩ (fun hS => ?_)
        simp only [Act.put, List.setIfInBounds_toArray, List.set_cons_zero, List.set_cons_succ]
        refine wpAnyL_take (i := 9) (oi := ?oi134) (v := ?v134) ?hi134 (by kernel_rfl) ?hf134 ?hr134 (by decide) ?hQ134 (Or.inl ⟨?hw134, ?hy134⟩) (⟨hS.1, fun h => hS.2 (by first | rfl | exact h)⟩) ?rest134
        case hi134 => simp only [List.getElem?_toArray, List.getElem?_cons_succ, List.getElem?_cons_zero]; rfl
        case hf134 => kernel_rfl
        case hr134 => kernel_rfl
        case hw134 => rfl
        case hy134 => (intro w hSw; (try dsimp only at hSw); go_simp; all_goals (first | done | with_reducible rfl))
        case hQ134 => exact fun _ _ _ h => h
        simp only [Act.put, List.setIfInBounds_toArray, List.set_cons_zero, List.set_cons_succ]
        refine wpAnyL_ready (rs := [10]) (by kernel_rfl) (by simp) ?_
        refine AllReadyL.cons (o := ?oi135) ?hi135 (fun K hK => ?step135) AllReadyL.nil
        case hi135 => simp only [List.getElem?_toArray, List.getElem?_cons_succ, List.getElem?_cons_zero]; rfl
        rw [if_pos (by rfl)]
        go_simp
        refine hK.out _ _ ⟨(World.cell?_setCell_far _ _ _ _ hgbo).trans e0, fun h => absurd h (by decide)⟩ (fun hS => ?_)
        refine wpAnyL_done (by kernel_rfl) ?_ _
        clear hS d0 d1 e0 e1 e1f HRun HR5 HW
        have HR7 := hid (HR6.out.perm (perm3 _ _ _ _).symm)
        clear HR6
        generalize w5.setCell ⟨g, 0, none⟩ (.slice A7 (ln + 1) c7) = w6 at *
        obtain ⟨o0, _, _⟩ := Rows.bcell2 (pre := []) (q := 0) HR7.out rfl
        obtain ⟨o1, _, _⟩ := Rows.bcell2 (pre := []) (q := 1) HR7.out rfl
        obtain ⟨o2, _, _⟩ := Rows.bcell2 (pre := []) (q := 2) HR7.out rfl
        obtain ⟨r0, x0, _⟩ := Rows.bcell2 (pre := [_]) (q := 0) HR7.out rfl
        obtain ⟨r1, x1, _⟩ := Rows.bcell2 (pre := [_]) (q := 1) HR7.out rfl
        obtain ⟨r2, x2, _⟩ := Rows.bcell2 (pre := [_]) (q := 2) HR7.out rfl
        go_wp2_with fail
        have Y2 := Rows.boxset (pre := [_]) (j := 0) (u := .int .i64 mo) HR7.out
        have Y3 := Rows.boxset (pre := [_]) (j := 1) (u := .int .i64 ke) Y2
        have Y4 := Rows.boxset (pre := [_]) (j := 2) (u := .slice (some ⟨g, 0, none⟩) n c2) Y3
        have f0 := (Rows.bcell2 (pre := [_]) (q := 0) Y4 rfl).1
        have f1 := (Rows.bcell2 (pre := [_]) (q := 1) Y4 rfl).1
        have f2 := (Rows.bcell2 (pre := [_]) (q := 2) Y4 rfl).1
        refine bodyPost_ret (v := .agg #[.int .i64 mo, .int .i64 ke, .slice (some ⟨g, 0, none⟩) n c2]) (by simp [results, Try.results54, go_sem, f0, f1, f2]) rfl ?_
        rw [hXB.out]
        exact ⟨_, _, rfl, ⟨_, rfl, (NE.cons HE6.out (l := l0 ++ [x.data.toList]) (by unfold StrsR; rw [List.length_append, HLs.out.1]; rfl)).toR⟩, (Rows.right Y4).left, ((HB6.out.setCell (p := ⟨w.heap.size + 1, 0, none⟩) hbr2 (.int .i64 mo)).setCell (p := ⟨w.heap.size + 1, 1, none⟩) hbr2 (.int .i64 ke)).setCell (p := ⟨w.heap.size + 1, 2, none⟩) hbr2 (.slice (some ⟨g, 0, none⟩) n c2)⟩
      | true =>
        have hXB := hid (show writeF ⟨mo, ke, l0 :: Lt⟩ x.data.toList = ⟨mo, ke, ([] ++ [x.data.toList]) :: (l0 :: Lt).take ke.toNat⟩ by rw [HX.out, HBF.out, g1, g2]; rfl)
        clear HX HBF
        go_wp2_with fail
        go_quiet ((go_at_call 67; exact Calls.quiet_of_same (CQ.out _)))
        go_wp2_with fail
        refine (C2.out _ (HBn.out nq)).mono ?_
        rintro e w3 ⟨u3, rs3, rfl, ⟨uu, hu3, hs3⟩, hr3, hb3⟩
        have hu3' : u3 = .agg #[.int .i64 mo, .int .i64 ke, uu] := hu3
        subst hu3'
        have hs3' : StrssR rs3 uu (([] : TxtL) :: (l0 :: Lt).take ke.toNat) := hs3
        obtain ⟨A9, c9, rfl, _, _⟩ := (NestR.own_ hs3' hr3).form
        obtain ⟨es3, rfl, hne3⟩ := hs3'.ne
        have hle3 := hne3.1
        obtain ⟨u8, rs8, es8, rfl, hs8, hne8⟩ := hne3.cons_inv
        obtain ⟨A6, c6, hu8, _, _⟩ := (Sl.of_own (hs8.own (nest_sub hr3 (List.mem_cons_self ..)))).form
        have hu8' : u8 = .slice A6 ([] : TxtL).length c6 := hu8
        subst hu8'
        have hs8' : rs8 = [⟨9, 1, ([] : TxtL).length, .slice A6 ([] : TxtL).length c6, ([] : TxtL).map txt⟩] := hs8
        subst hs8'
        generalize hm3 : (([] : TxtL) :: (l0 :: Lt).take ke.toNat).length = m3 at *
        have hn8 : es8.length + 1 = m3 := by rw [← hle3]; rfl
        have hm35 : m3 ≤ 5 := by rw [← hm3]; simp; have := HLN.out; simp at this; omega
        obtain ⟨g, rfl, _⟩ := own_some (show World.ownsRow w3 _ 35 1 (.slice A9 m3 c9) m3 _ by have h9 := nest_top hr3; rw [List.length_cons, hn8] at h9; exact h9) (by omega)
        generalize hz0 : ([] : TxtL).length = z0 at *
        have hz1 : z0 ≤ 1 := by have : ([] : TxtL).length = 0 := rfl; omega
        have HE8 := hid hne8
        have HR3 := hid (((((HRn.out nq).newer hb3 hr3 (HBn.out nq).size).perm ((List.perm_append_comm_assoc _ _ _).trans (List.Perm.append_left _ (List.perm_append_comm_assoc _ _ _)))).sub ((List.Sublist.refl _).append ((List.Sublist.refl _).append ((List.Sublist.refl _).append (List.sublist_append_right _ _))))))
        have HB3 := hid ((HBn.out nq).trans (hb3.mono (HBn.out nq).size))
        replace hz0 := hid hz0
        replace hn8 := hid hn8
        replace hm3 := hid hm3
        replace hle3 := hid hle3
        clear hs3 hs3' hr3 hb3 hne3 hu3 hs8 hne8 hu8 HRn HBn HR HB p0 p1 p2 c0 CQ HIN HI C3 C4 C2 HE6 hn6 hle3 hm3
        obtain ⟨o0, x0, _⟩ := Rows.bcell2 (pre := []) (q := 0) HR3.out rfl
        obtain ⟨o1, x1, _⟩ := Rows.bcell2 (pre := []) (q := 1) HR3.out rfl
        obtain ⟨o2, x2, _⟩ := Rows.bcell2 (pre := []) (q := 2) HR3.out rfl
        go_wp2_with fail
        have Y0 := Rows.boxset (pre := []) (j := 0) (u := .int .i64 mo) HR3.out
        have Y1 := Rows.boxset (pre := []) (j := 1) (u := .int .i64 ke) Y0
        have HRw := hid (Rows.boxset (pre := []) (j := 2) (u := .slice (some ⟨g, 0, none⟩) m3 c9) Y1)
        have HBw := hid (((HB3.out.setCell (p := ⟨bo, 0, none⟩) hbo2 (.int .i64 mo)).setCell (p := ⟨bo, 1, none⟩) hbo2 (.int .i64 ke)).setCell (p := ⟨bo, 2, none⟩) hbo2 (.slice (some ⟨g, 0, none⟩) m3 c9))
        clear Y0 Y1 o0 o1 o2 x0 x1 x2 HR3 HB3
        generalize ((w3.setCell ⟨bo, 0, none⟩ (.int .i64 mo)).setCell ⟨bo, 1, none⟩ (.int .i64 ke)).setCell ⟨bo, 2, none⟩ (.slice (some ⟨g, 0, none⟩) m3 c9) = wd at *
        replace HRw := hid (show Rows wd w.heap.size ([bxRow 26 3 bo [.int .i64 mo, .int .i64 ke, .slice (some ⟨g, 0, none⟩) m3 c9]] ++ _) from HRw.out)
        replace hn8 := hn8.out
        replace hz0 := hz0.out
        have hl8 : 0 < m3 := by omega
        have HW := hid ((show Rows wd.drew w.heap.size _ from HRw.out.dr).perm (perm3 _ _ _ _))
        obtain ⟨A7, c7, w5, hrun, hb5, hs5, hR5, hR6⟩ := nest_put0 HW.out hn8 (show w.heap.size ≤ wd.drew.heap.size from HBw.out.size) (show z0 ≤ 1048576 by omega) x 9
        have HRun := hid hrun
        have HR5 := hid hR5
        have HR6 := hid hR6
        have htopW : wd.drew.ownsRow w.heap.size 35 1 (.slice (some ⟨g, 0, none⟩) m3 c9) m3 (.slice A6 z0 c6 :: heads es8) := by have h9 := nest_top HW.out.left; rw [List.length_cons, hn8] at h9; exact h9
        have hgW : g < wd.heap.size := (htopW.lt g rfl).2
        have hboW : bo < wd.heap.size := (Rows.bc HRw.out.left 0 rfl).2
        have hgw0 : w.heap.size ≤ g := (htopW.lt g rfl).1
        have hgbo : g ≠ bo := box_ne HRw.out (List.mem_append_right _ (List.mem_append_left _ (show (⟨35, 1, _, .slice (some ⟨g, 0, none⟩) m3 c9, _⟩ : Row) ∈ _ from List.mem_cons_self ..))) rfl
        have d0 := (Rows.bc HRw.out.left 2 rfl).1
        have d1 : wd.cell? ⟨g, 0, none⟩ = some (.slice A6 z0 c6) := (htopW.cellAt 0 (by omega)).trans rfl
        have e0 := (Rows.bc HR5.out.right.left 2 rfl).1
        have e1 : w5.cell? ⟨g, 0, none⟩ = some (.slice A6 z0 c6) := ((show w5.ownsRow w.heap.size 35 1 (.slice (some ⟨g, 0, none⟩) m3 c9) m3 _ from HR5.out.head).cellAt 0 (by omega)).trans rfl
        have e1f := (show w5.ownsRow w.heap.size 35 1 (.slice (some ⟨g, 0, none⟩) m3 c9) m3 _ from HR5.out.head).frozenAt 0
        have HB6 := hid (((show Below w.heap.size w wd.drew from HBw.out.drew).trans hb5).setCell (p := ⟨g, 0, none⟩) hgw0 (.slice A7 (z0 + 1) c7))
        clear hrun hb5 hs5 hR5 hR6 htopW
        refine wp_region_let 10 (fun w' : World => w'.cell? ⟨bo, 2, none⟩ = some (.slice (some ⟨g, 0, none⟩) m3 c9)) (fun w' : World => w'.cell? ⟨g, 0, none⟩ = some (.slice A6 z0 c6)) (by kernel_rfl) d0 d1 (fun hS => ?_)
        refine wpAnyL_take (i := 0) (oi := ?oi136) (v := ?v136) ?hi136 (by kernel_rfl) ?hf136 ?hr136 (by decide) ?hQ136 (Or.inl ⟨?hw136, ?hy136⟩) (⟨hS.1, fun h => hS.2 (by first | rfl | exact h)⟩) ?rest136
        case hi136 => simp only [List.getElem?_toArray, List.getElem?_cons_succ, List.getElem?_cons_zero]; rfl
        case hf136 => kernel_rfl
        case hr136 => kernel_rfl
        case hw136 => rfl
        case hy136 => (intro w hSw; (try dsimp only at hSw); go_simp; all_goals (first | done | with_reducible rfl))
        case hQ136 => exact fun _ _ _ h => h
        simp only [Act.put, List.setIfInBounds_toArray, List.set_cons_zero, List.set_cons_succ]
        refine wpAnyL_take (i := 1) (oi := ?oi137) (v := ?v137) ?hi137 (by kernel_rfl) ?hf137 ?hr137 (by decide) ?hQ137 (Or.inl ⟨?hw137, ?hy137⟩) (⟨hS.1, fun h => hS.2 (by first | rfl | exact h)⟩) ?rest137
        case hi137 => simp only [List.getElem?_toArray, List.getElem?_cons_succ, List.getElem?_cons_zero]; rfl
        case hf137 => kernel_rfl
        case hr137 => kernel_rfl
        case hw137 => rfl
        case hy137 => (intro w hSw; (try dsimp only at hSw); go_simp; all_goals (first | done | with_reducible rfl))
        case hQ137 => exact fun _ _ _ h => h
        simp only [Act.put, List.setIfInBounds_toArray, List.set_cons_zero, List.set_cons_succ]
        refine wpAnyL_take (i := 2) (oi := ?oi138) (v := ?v138) ?hi138 (by kernel_rfl) ?hf138 ?hr138 (by decide) ?hQ138 (Or.inl ⟨?hw138, ?hy138⟩) (⟨hS.1, fun h => hS.2 (by first | rfl | exact h)⟩) ?rest138
        case hi138 => simp only [List.getElem?_toArray, List.getElem?_cons_succ, List.getElem?_cons_zero]; rfl
        case hf138 => kernel_rfl
        case hr138 => kernel_rfl
        case hw138 => rfl
        case hy138 => (intro w hSw; (try dsimp only at hSw); go_simp; all_goals (first | done | with_reducible rfl))
        case hQ138 => exact fun _ _ _ h => h
        simp only [Act.put, List.setIfInBounds_toArray, List.set_cons_zero, List.set_cons_succ]
        refine wpAnyL_take (i := 3) (oi := ?oi139) (v := ?v139) ?hi139 (by kernel_rfl) ?hf139 ?hr139 (by decide) ?hQ139 (Or.inl ⟨?hw139, ?hy139⟩) (⟨hS.1, fun h => hS.2 (by first | rfl | exact h)⟩) ?rest139
        case hi139 => simp only [List.getElem?_toArray, List.getElem?_cons_succ, List.getElem?_cons_zero]; rfl
        case hf139 => kernel_rfl
        case hr139 => kernel_rfl
        case hw139 => rfl
        case hy139 => (intro w hSw; (try dsimp only at hSw); go_simp; all_goals (first | done | with_reducible rfl))
        case hQ139 => exact fun _ _ _ h => h
        simp only [Act.put, List.setIfInBounds_toArray, List.set_cons_zero, List.set_cons_succ]
        refine wpAnyL_take (i := 4) (oi := ?oi140) (v := ?v140) ?hi140 (by kernel_rfl) ?hf140 ?hr140 (by decide) ?hQ140 (Or.inl ⟨?hw140, ?hy140⟩) (⟨hS.1, fun h => hS.2 (by first | rfl | exact h)⟩) ?rest140
        case hi140 => simp only [List.getElem?_toArray, List.getElem?_cons_succ, List.getElem?_cons_zero]; rfl
        case hf140 => kernel_rfl
        case hr140 => kernel_rfl
        case hw140 => rfl
        case hy140 => (intro w hSw; (try dsimp only at hSw); go_simp; all_goals (first | done | with_reducible rfl))
        case hQ140 => exact fun _ _ _ h => h
        simp only [Act.put, List.setIfInBounds_toArray, List.set_cons_zero, List.set_cons_succ]
        refine wpAnyL_take1 (i := 5) (oi := ?oi141) (om := ?om141) (v := ?v141) ?hi141 (by kernel_rfl) ?hf141 ?hr141 (by decide) ?hm141 ?hd141 (by rfl) ?hQ141 (Or.inl ⟨?hw141, ?hy141⟩) (⟨hS.1, fun h => hS.2 (by first | rfl | exact h)⟩) ?rest141
        case hi141 => simp only [List.getElem?_toArray, List.getElem?_cons_succ, List.getElem?_cons_zero]; rfl
        case hm141 => simp only [List.getElem?_toArray, List.getElem?_cons_succ, List.getElem?_cons_zero]; rfl
        case hd141 => kernel_rfl
        case hf141 => kernel_rfl
        case hr141 => kernel_rfl
        case hw141 => rfl
        case hy141 => (intro w hSw; (try dsimp only at hSw); go_simp; all_goals (first | done | with_reducible rfl))
        case hQ141 => exact fun _ _ _ h => h
        simp only [Act.put, List.setIfInBounds_toArray, List.set_cons_zero, List.set_cons_succ]
        refine wpAnyL_take (i := 6) (oi := ?oi142) (v := ?v142) ?hi142 (by kernel_rfl) ?hf142 ?hr142 (by decide) ?hQ142 (Or.inl ⟨?hw142, ?hy142⟩) (⟨hS.1, fun h => hS.2 (by first | rfl | exact h)⟩) ?rest142
        case hi142 => simp only [List.getElem?_toArray, List.getElem?_cons_succ, List.getElem?_cons_zero]; rfl
        case hf142 => kernel_rfl
        case hr142 => kernel_rfl
        case hw142 => rfl
        case hy142 => (intro w hSw; (try dsimp only at hSw); go_simp; all_goals (first | done | with_reducible rfl))
        case hQ142 => exact fun _ _ _ h => h
        simp only [Act.put, List.setIfInBounds_toArray, List.set_cons_zero, List.set_cons_succ]
        refine wpAnyL_ready (rs := [7]) (by kernel_rfl) (by simp) ?_
        refine AllReadyL.cons (o := ?oi143) ?hi143 (fun K hK => ?step143) AllReadyL.nil
        case hi143 => simp only [List.getElem?_toArray, List.getElem?_cons_succ, List.getElem?_cons_zero]; rfl
        rw [if_pos (by rfl)]
        go_simp
        refine hK.out _ _ ⟨(World.cell?_alloc_past _ _ _ hboW).trans d0, fun _ => (World.cell?_alloc_past _ _ _ hgW).trans d1⟩ (fun hS => ?_)
        refine wpAnyL_ready (rs := [8]) (by kernel_rfl) (by simp) ?_
        refine AllReadyL.cons (o := ?oi144) ?hi144 (fun K hK => ?step144) AllReadyL.nil
        case hi144 => simp only [List.getElem?_toArray, List.getElem?_cons_succ, List.getElem?_cons_zero]; rfl
        rw [if_pos (by rfl)]
        refine wp_app rfl (by rfl) (by rfl) HRun.out ?_
        refine hK.out _ _ ⟨e0, fun _ => e1⟩ (fun hS => ?_)
        simp only [Act.put, List.setIfInBounds_toArray, List.set_cons_zero, List.set_cons_succ]
        refine wpAnyL_take (i := 9) (oi := ?oi145) (v := ?v145) ?hi145 (by kernel_rfl) ?hf145 ?hr145 (by decide) ?hQ145 (Or.inl ⟨?hw145, ?hy145⟩) (⟨hS.1, fun h => hS.2 (by first | rfl | exact h)⟩) ?rest145
        case hi145 => simp only [List.getElem?_toArray, List.getElem?_cons_succ, List.getElem?_cons_zero]; rfl
        case hf145 => kernel_rfl
        case hr145 => kernel_rfl
        case hw145 => rfl
        case hy145 => (intro w hSw; (try dsimp only at hSw); go_simp; all_goals (first | done | with_reducible rfl))
        case hQ145 => exact fun _ _ _ h => h
        simp only [Act.put, List.setIfInBounds_toArray, List.set_cons_zero, List.set_cons_succ]
        refine wpAnyL_ready (rs := [10]) (by kernel_rfl) (by simp) ?_
        refine AllReadyL.cons (o := ?oi146) ?hi146 (fun K hK => ?step146) AllReadyL.nil
        case hi146 => simp only [List.getElem?_toArray, List.getElem?_cons_succ, List.getElem?_cons_zero]; rfl
        rw [if_pos (by rfl)]
        go_simp
        refine hK.out _ _ ⟨(World.cell?_setCell_far _ _ _ _ hgbo).trans e0, fun h => absurd h (by decide)⟩ (fun hS => ?_)
        refine wpAnyL_done (by kernel_rfl) ?_ _
        clear hS d0 d1 e0 e1 e1f HRun HR5 HW
        have HR7 := hid (HR6.out.perm (perm3 _ _ _ _).symm)
        clear HR6
        generalize w5.setCell ⟨g, 0, none⟩ (.slice A7 (z0 + 1) c7) = w6 at *
        obtain ⟨o0, _, _⟩ := Rows.bcell2 (pre := []) (q := 0) HR7.out rfl
        obtain ⟨o1, _, _⟩ := Rows.bcell2 (pre := []) (q := 1) HR7.out rfl
        obtain ⟨o2, _, _⟩ := Rows.bcell2 (pre := []) (q := 2) HR7.out rfl
        obtain ⟨r0, x0, _⟩ := Rows.bcell2 (pre := [_]) (q := 0) HR7.out rfl
        obtain ⟨r1, x1, _⟩ := Rows.bcell2 (pre := [_]) (q := 1) HR7.out rfl
        obtain ⟨r2, x2, _⟩ := Rows.bcell2 (pre := [_]) (q := 2) HR7.out rfl
        go_wp2_with fail
        have Y2 := Rows.boxset (pre := [_]) (j := 0) (u := .int .i64 mo) HR7.out
        have Y3 := Rows.boxset (pre := [_]) (j := 1) (u := .int .i64 ke) Y2
        have Y4 := Rows.boxset (pre := [_]) (j := 2) (u := .slice (some ⟨g, 0, none⟩) m3 c9) Y3
        have f0 := (Rows.bcell2 (pre := [_]) (q := 0) Y4 rfl).1
        have f1 := (Rows.bcell2 (pre := [_]) (q := 1) Y4 rfl).1
        have f2 := (Rows.bcell2 (pre := [_]) (q := 2) Y4 rfl).1
        refine bodyPost_ret (v := .agg #[.int .i64 mo, .int .i64 ke, .slice (some ⟨g, 0, none⟩) m3 c9]) (by simp [results, Try.results54, go_sem, f0, f1, f2]) rfl ?_
        rw [hXB.out]
        exact ⟨_, _, rfl, ⟨_, rfl, (NE.cons HE8.out (l := ([] : TxtL) ++ [x.data.toList]) (by unfold StrsR; rw [List.length_append, hz0]; rfl)).toR⟩, (Rows.right Y4).left, ((HB6.out.setCell (p := ⟨w.heap.size + 1, 0, none⟩) hbr2 (.int .i64 mo)).setCell (p := ⟨w.heap.size + 1, 1, none⟩) hbr2 (.int .i64 ke)).setCell (p := ⟨w.heap.size + 1, 2, none⟩) hbr2 (.slice (some ⟨g, 0, none⟩) m3 c9)⟩

end Go.Proofs.Ytoiagfdhanhnkaa
