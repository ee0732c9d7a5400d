/-
  WALK: the law FnEffectiveLevel. By gen_t.py.
-/
import Derived.Test.YteammkclbgniiaaE7
namespace Go.Proofs.Yteammkclbgniiaa
open Go.RowKit Nm
set_option linter.unusedSimpArgs false
set_option linter.unusedVariables false
theorem level_cases {L : List Lgr} {H : List Hnd} {q : Int} {x : Name} (h : treeOk L H q = true) (hx : nameOk x = true) :
    (levelT L H q (nearestT L H q x) = levelT L H q x ∧ (nearestT L H q x).length ≤ maxLen) ∧
    ((idxL (namesOf L) x = -1 ∧ ¬ x = [] ∧ parentB L H q x = false ∧ nameOk (nearestT L H q x) = true) ∨
     ∃ (k : Nat) (l : Lgr), L[k]? = some l ∧ l.nm = x ∧ idxL (namesOf L) x = (k : Int) ∧
       ((0 < l.lv ∧ levelT L H q x = l.lv) ∨ (¬ 0 < l.lv ∧ x = [] ∧ levelT L H q x = 0 ∧ parentB L H q x = false) ∨
        (¬ 0 < l.lv ∧ parentB L H q x = true ∧ levelT L H q (parentT L H q x) = levelT L H q x ∧ (parentT L H q x).length ≤ maxLen))) := by
  obtain ⟨n1, n2, _, _, _⟩ := near_facts h hx
  refine ⟨⟨level_near h hx, ?_⟩, ?_⟩
  · have := name_size _ n1; unfold maxLen; omega
  by_cases hm : x ∈ namesOf L
  · right
    obtain ⟨k, hk, he⟩ := List.getElem_of_mem hm
    have hk' : k < L.length := by simpa [namesOf] using hk
    obtain ⟨l, hl⟩ : ∃ l, L[k]? = some l := ⟨L[k], List.getElem?_eq_getElem hk'⟩
    have hnm : l.nm = x := by
      have : (namesOf L)[k]? = some l.nm := by unfold namesOf; rw [List.getElem?_map, hl]; rfl
      rw [List.getElem?_eq_getElem hk, he] at this
      exact (Option.some.inj this).symm
    refine ⟨k, l, hl, hnm, by rw [← hnm]; exact tree_idx h hl, ?_⟩
    have hlv := (tree_names h).2.2.2.2.2 l (List.mem_of_getElem? hl)
    by_cases hp : 0 < l.lv
    · left; exact ⟨hp, by rw [← hnm]; exact level_own h hl hp⟩
    · right
      have hz : l.lv = 0 := by omega
      by_cases hx0 : x = []
      · left
        refine ⟨hp, hx0, ?_, ?_⟩
        · rw [← hnm]; exact level_root h hl hz (by rw [hnm]; exact hx0)
        · unfold parentB; simp [hx0]
      · right
        obtain ⟨a, b⟩ := level_up h hl hz (by rw [hnm]; exact hx0)
        rw [hnm] at a b
        refine ⟨hp, a, b, ?_⟩
        have hu : upN (nsOf L) (nearN (nsOf L) x) < (nsOf L).length := near_lt (tree_nm h).1 _
        have e : parentT L H q x = (nsOf L).getD (upN (nsOf L) (nearN (nsOf L) x)) [] := by unfold parentT; rw [a, if_pos rfl]
        have := name_size _ ((tree_nm h).2.2 _ (getD_mem hu))
        rw [e]; unfold maxLen; omega
  · left
    refine ⟨idx_miss _ _ hm, fun e => ?_, ?_, n1⟩
    · subst e; exact hm (List.mem_of_getElem? (tree_names h).1)
    · unfold parentB
      have : decide (x ∈ nsOf L) = false := decide_eq_false hm
      rw [this]; simp
set_option maxHeartbeats 8000000 in
set_option maxRecDepth 100000 in
theorem walk_FnEffectiveLevel (a0 : Option Addr) (len0 cap0 : Nat) (z0 : List Int) (w : World) (w0 : IsRow .u8 w a0 len0 cap0 z0) :
    Calls Try.prog 9 #[.slice a0 len0 cap0] w (BoolPost w true) := by
  have hb0 := w0.leT
  by_cases h1 : (1048576 : Int) < (len0 : Int)
  · go_enter Try.func9, Try.ntmps9
    go_wp2_with fail
    go_ret
    exact ⟨rfl, Below.refl _ _⟩
  have DR := hid (drawEffectiveLevel_c a0 len0 cap0 z0 w w0)
  clear w0
  go_enter Try.func9, Try.ntmps9
  go_wp2_with fail
  refine DR.out.mono ?_
  rintro e w1 ⟨v, rs, L, H, q, nm, rfl, hs, hsm, hnm, hr, hb⟩
  obtain ⟨A1, n1, k1, A2, n2, k2, rfl, hn1, hn2⟩ := hs.form_ hr
  have hd := sm_fit hsm (by omega)
  have TI0 := hs.at_ hr hd
  have hbx : Below w1.heap.size w1 (w1.alloc (.cells #[.slice A1 n1 k1, .slice A2 n2 k2, .int .i64 q] 26)) := (Below.refl _ _).alloc (Nat.le_refl _) _
  have TI := hid (TI0.below hbx (Nat.le_refl _))
  have KB := hid (Blk.new w1 #[.slice A1 n1 k1, .slice A2 n2 k2, .int .i64 q] 26)
  have HB := hid (hb.trans (hbx.mono hb.size))
  have hl1 : w1.heap.size < (w1.alloc (.cells #[.slice A1 n1 k1, .slice A2 n2 k2, .int .i64 q] 26)).heap.size := by simp
  have HL := hid (And.intro hn1 (And.intro hsm.1 hsm.2.1.1))
  replace hd := hid hd
  clear hs hr hb hn1 hn2 hsm TI0 hbx DR
  go_wp2_with fail
  generalize hbb : w1.heap.size = bb at *
  generalize w1.alloc (.cells #[.slice A1 n1 k1, .slice A2 n2 k2, .int .i64 q] 26) = w2 at *
  clear hbb
  have d0 := (KB.out.2 0 _ rfl).1
  have d1 := (KB.out.2 1 _ rfl).1
  have d2 := (KB.out.2 2 _ rfl).1
  have HW := hid (Below.refl w2.heap.size w2)
  have TT := hid (fun (W : World) (hW : Below w2.heap.size w2 W) => (And.intro (TI.out.below hW (Nat.le_of_lt hl1)) (Nat.le_trans (Nat.le_of_lt hl1) hW.size)))
  have CI := hid (fun (W : World) (hW : Below w2.heap.size w2 W) => implEffectiveLevel_c nm (TT.out W hW).1 (TT.out W hW).2 (by unfold maxLen; omega))
  have CS := hid (fun (W : World) (hW : Below w2.heap.size w2 W) => specEffectiveLevel_c nm (TT.out W hW).1 (TT.out W hW).2 (by unfold maxTxt; omega))
  have CT := hid (fun (W : World) (hW : Below w2.heap.size w2 W) => implValidTreeX_c (TT.out W hW).1 (TT.out W hW).2)
  have CN := hid (fun (W : World) (hW : Below w2.heap.size w2 W) => implValidName_c nm W (by unfold maxLen; omega))
  have CL := hid (fun (W : World) (hW : Below w2.heap.size w2 W) => implLoggerAtX_c nm (TT.out W hW).1 (TT.out W hW).2)
  have CP := hid (fun (W : World) (hW : Below w2.heap.size w2 W) => implParentOf_c nm (TT.out W hW).1 (TT.out W hW).2 (by unfold maxLen; omega))
  have CX := hid (fun (W : World) (hW : Below w2.heap.size w2 W) => implNearestTo_c nm (TT.out W hW).1 (TT.out W hW).2 (by unfold maxLen; omega))
  have CE := hid (fun (s : ByteArray) (hs : s.size ≤ maxLen) (W : World) (hW : Below w2.heap.size w2 W) => implEffectiveLevel_c s (TT.out W hW).1 (TT.out W hW).2 hs)
  have hn8 : n1 ≤ 8 := by rw [HL.out.1]; exact HL.out.2.2
  have hN1 := HL.out.1
  replace hN1 := hid hN1
  have FX := hid (fun (h : treeOk L H q = true) (hn : nameOk nm.data.toList = true) => level_cases h hn)
  generalize levelT L H q nm.data.toList = lo at *
  generalize hok : treeOk L H q = ok at *
  generalize hnok : nameOk nm.data.toList = nok at *
  replace hok := hid hok
  replace hnok := hid hnok
  go_wp2_with fail
  refine (CI.out _ HW.out).mono ?_
  rintro e w3 ⟨rfl, hb⟩
  replace HW := hid (HW.out.trans (hb.mono HW.out.size))
  clear hb d0 d1 d2
  obtain ⟨⟨d0, _⟩, ⟨d1, _⟩, ⟨d2, _⟩⟩ := (And.intro ((KB.out.to HW.out).2 0 _ rfl) (And.intro ((KB.out.to HW.out).2 1 _ rfl) ((KB.out.to HW.out).2 2 _ rfl)))
  have b0 : (lo != lo) = false := by simp
  have b1 : (lo == lo) = true := by simp
  go_wp2_with fail
  refine (CS.out _ HW.out).mono ?_
  rintro e w4 ⟨rfl, hb⟩
  replace HW := hid (HW.out.trans (hb.mono HW.out.size))
  clear hb d0 d1 d2
  obtain ⟨⟨d0, _⟩, ⟨d1, _⟩, ⟨d2, _⟩⟩ := (And.intro ((KB.out.to HW.out).2 0 _ rfl) (And.intro ((KB.out.to HW.out).2 1 _ rfl) ((KB.out.to HW.out).2 2 _ rfl)))
  go_wp2_with fail
  refine (CT.out _ HW.out).mono ?_
  rintro e w5 ⟨rfl, hb⟩
  replace HW := hid (HW.out.trans (hb.mono HW.out.size))
  clear hb d0 d1 d2
  obtain ⟨⟨d0, _⟩, ⟨d1, _⟩, ⟨d2, _⟩⟩ := (And.intro ((KB.out.to HW.out).2 0 _ rfl) (And.intro ((KB.out.to HW.out).2 1 _ rfl) ((KB.out.to HW.out).2 2 _ rfl)))
  cases ok with
  | false =>
    go_wp2_with fail
    refine (CS.out _ HW.out).mono ?_
    rintro e w6 ⟨rfl, hb⟩
    replace HW := hid (HW.out.trans (hb.mono HW.out.size))
    clear hb d0 d1 d2
    obtain ⟨⟨d0, _⟩, ⟨d1, _⟩, ⟨d2, _⟩⟩ := (And.intro ((KB.out.to HW.out).2 0 _ rfl) (And.intro ((KB.out.to HW.out).2 1 _ rfl) ((KB.out.to HW.out).2 2 _ rfl)))
    go_wp2_with fail
    go_ret
    exact ⟨rfl, HB.out.trans (HW.out.mono HB.out.size)⟩
  | true =>
    go_wp2_with fail
    refine (CN.out _ HW.out).mono ?_
    rintro e w6 ⟨rfl, hb⟩
    replace HW := hid (HW.out.trans (hb.mono HW.out.size))
    clear hb d0 d1 d2
    obtain ⟨⟨d0, _⟩, ⟨d1, _⟩, ⟨d2, _⟩⟩ := (And.intro ((KB.out.to HW.out).2 0 _ rfl) (And.intro ((KB.out.to HW.out).2 1 _ rfl) ((KB.out.to HW.out).2 2 _ rfl)))
    cases nok with
    | false =>
      go_wp2_with fail
      refine (CS.out _ HW.out).mono ?_
      rintro e w7 ⟨rfl, hb⟩
      replace HW := hid (HW.out.trans (hb.mono HW.out.size))
      clear hb d0 d1 d2
      obtain ⟨⟨d0, _⟩, ⟨d1, _⟩, ⟨d2, _⟩⟩ := (And.intro ((KB.out.to HW.out).2 0 _ rfl) (And.intro ((KB.out.to HW.out).2 1 _ rfl) ((KB.out.to HW.out).2 2 _ rfl)))
      go_wp2_with fail
      go_ret
      exact ⟨rfl, HB.out.trans (HW.out.mono HB.out.size)⟩
    | true =>
      obtain ⟨F1, F2⟩ := FX.out (by trivial) (by trivial)
      replace CL := hid (show ∀ (W : World), Below w2.heap.size w2 W → Calls Try.prog 14 #[.agg #[.slice A1 n1 k1, .slice A2 n2 k2, .int .i64 q], .string nm] W (fun e w' => e = .returned (.int .i64 (idxL (namesOf L) nm.data.toList)) ∧ Below W.heap.size W w') from CL.out)
      rcases F2 with ⟨hix, hne, hpb, hnx⟩ | ⟨k, l, hl, hnm, hix, hlv⟩
      · rw [hix] at CL
        rw [hpb] at CP
        obtain ⟨nx, hnx1, hnx2⟩ : ∃ nx : ByteArray, txt (nearestT L H q nm.data.toList) = .string nx ∧ nx.data.toList = nearestT L H q nm.data.toList := ⟨⟨(nearestT L H q nm.data.toList).toArray⟩, rfl, by simp⟩
        have hnz : nx.size ≤ maxLen := by rw [Lib.size_eq, hnx2]; exact F1.2
        replace CE := hid (show ∀ (W : World), Below w2.heap.size w2 W → Calls Try.prog 34 #[.agg #[.slice A1 n1 k1, .slice A2 n2 k2, .int .i64 q], .string nx] W (fun e w' => e = .returned (.int .i64 lo) ∧ Below W.heap.size W w') from fun W hW => by have h9 := CE.out nx hnz W hW; rw [hnx2, F1.1] at h9; exact h9)
        rw [hnx1] at CX
        have e1 := eq_false_of (a := nm) (b := ⟨#[]⟩) hne
        have e3 := empty_false hne
        clear F1 hnx hnx1 hnx2
        obtain ⟨zp, hzp⟩ : ∃ z, txt (parentT L H q nm.data.toList) = z := ⟨_, rfl⟩
        rw [hzp] at CP
        clear hzp
        go_wp2_with fail
        refine (CL.out _ HW.out).mono ?_
        rintro e w7 ⟨rfl, hb⟩
        replace HW := hid (HW.out.trans (hb.mono HW.out.size))
        clear hb d0 d1 d2
        obtain ⟨⟨d0, _⟩, ⟨d1, _⟩, ⟨d2, _⟩⟩ := (And.intro ((KB.out.to HW.out).2 0 _ rfl) (And.intro ((KB.out.to HW.out).2 1 _ rfl) ((KB.out.to HW.out).2 2 _ rfl)))
        go_wp2_with fail
        refine (CP.out _ HW.out).mono ?_
        rintro e w8 ⟨rfl, hb⟩
        replace HW := hid (HW.out.trans (hb.mono HW.out.size))
        clear hb d0 d1 d2
        obtain ⟨⟨d0, _⟩, ⟨d1, _⟩, ⟨d2, _⟩⟩ := (And.intro ((KB.out.to HW.out).2 0 _ rfl) (And.intro ((KB.out.to HW.out).2 1 _ rfl) ((KB.out.to HW.out).2 2 _ rfl)))
        have HWd := hid (HW.out.drew)
        go_wp2_with fail
        refine wp_region_held_drew (S := (fun w' : World => w'.cell? ⟨bb, 0, none⟩ = some (.slice A1 n1 k1) ∧ w'.cell? ⟨bb, 1, none⟩ = some (.slice A2 n2 k2) ∧ w'.cell? ⟨bb, 2, none⟩ = some (.int .i64 q))) (by kernel_rfl) ⟨d0, d1, d2⟩ (fun hS => ?_)
        refine wpAnyH_take (i := 0) (oi := ?oi101) (v := ?v101) ?hi101 (by kernel_rfl) ?hf101 ?hr101 ?hQ101 (Or.inl ⟨?hw101, ?hy101⟩) (by assumption) ?rest101
        case hi101 => simp only [List.getElem?_toArray, List.getElem?_cons_succ, List.getElem?_cons_zero]; rfl
        case hf101 => kernel_rfl
        case hr101 => kernel_rfl
        case hw101 => rfl
        case hy101 => (intro w hSw; (try dsimp only at hSw); go_simp; all_goals (first | done | with_reducible rfl))
        case hQ101 => exact fun _ _ _ h => h
        simp only [Act.put, List.setIfInBounds_toArray, List.set_cons_zero, List.set_cons_succ]
        refine wpAnyH_take (i := 1) (oi := ?oi102) (v := ?v102) ?hi102 (by kernel_rfl) ?hf102 ?hr102 ?hQ102 (Or.inl ⟨?hw102, ?hy102⟩) (by assumption) ?rest102
        case hi102 => simp only [List.getElem?_toArray, List.getElem?_cons_succ, List.getElem?_cons_zero]; rfl
        case hf102 => kernel_rfl
        case hr102 => kernel_rfl
        case hw102 => rfl
        case hy102 => (intro w hSw; (try dsimp only at hSw); go_simp; all_goals (first | done | with_reducible rfl))
        case hQ102 => exact fun _ _ _ h => h
        simp only [Act.put, List.setIfInBounds_toArray, List.set_cons_zero, List.set_cons_succ]
        refine wpAnyH_take (i := 2) (oi := ?oi103) (v := ?v103) ?hi103 (by kernel_rfl) ?hf103 ?hr103 ?hQ103 (Or.inl ⟨?hw103, ?hy103⟩) (by assumption) ?rest103
        case hi103 => simp only [List.getElem?_toArray, List.getElem?_cons_succ, List.getElem?_cons_zero]; rfl
        case hf103 => kernel_rfl
        case hr103 => kernel_rfl
        case hw103 => rfl
        case hy103 => (intro w hSw; (try dsimp only at hSw); go_simp; all_goals (first | done | with_reducible rfl))
        case hQ103 => exact fun _ _ _ h => h
        simp only [Act.put, List.setIfInBounds_toArray, List.set_cons_zero, List.set_cons_succ]
        refine wpAnyH_take (i := 3) (oi := ?oi104) (v := undef) ?hi104 (by kernel_rfl) ?hf104 ?hr104 ?hQ104 (Or.inr ⟨?hw104, rfl⟩) (by assumption) ?rest104
        case hi104 => simp only [List.getElem?_toArray, List.getElem?_cons_succ, List.getElem?_cons_zero]; rfl
        case hf104 => kernel_rfl
        case hr104 => kernel_rfl
        case hw104 => rfl
        case hQ104 => exact fun _ _ _ h => h
        simp only [Act.put, List.setIfInBounds_toArray, List.set_cons_zero, List.set_cons_succ]
        refine wpAnyH_take (i := 4) (oi := ?oi105) (v := undef) ?hi105 (by kernel_rfl) ?hf105 ?hr105 ?hQ105 (Or.inr ⟨?hw105, rfl⟩) (by assumption) ?rest105
        case hi105 => simp only [List.getElem?_toArray, List.getElem?_cons_succ, List.getElem?_cons_zero]; rfl
        case hf105 => kernel_rfl
        case hr105 => kernel_rfl
        case hw105 => rfl
        case hQ105 => exact fun _ _ _ h => h
        simp only [Act.put, List.setIfInBounds_toArray, List.set_cons_zero, List.set_cons_succ]
        refine wpAnyH_take (i := 5) (oi := ?oi106) (v := ?v106) ?hi106 (by kernel_rfl) ?hf106 ?hr106 ?hQ106 (Or.inl ⟨?hw106, ?hy106⟩) (by assumption) ?rest106
        case hi106 => simp only [List.getElem?_toArray, List.getElem?_cons_succ, List.getElem?_cons_zero]; rfl
        case hf106 => kernel_rfl
        case hr106 => kernel_rfl
        case hw106 => rfl
        case hy106 => (intro w hSw; (try dsimp only at hSw); go_simp; all_goals (first | done | with_reducible rfl))
        case hQ106 => exact fun _ _ _ h => h
        simp only [Act.put, List.setIfInBounds_toArray, List.set_cons_zero, List.set_cons_succ]
        refine wpAnyH_take (i := 6) (oi := ?oi107) (v := ?v107) ?hi107 (by kernel_rfl) ?hf107 ?hr107 ?hQ107 (Or.inl ⟨?hw107, ?hy107⟩) (by assumption) ?rest107
        case hi107 => simp only [List.getElem?_toArray, List.getElem?_cons_succ, List.getElem?_cons_zero]; rfl
        case hf107 => kernel_rfl
        case hr107 => kernel_rfl
        case hw107 => rfl
        case hy107 => (intro w hSw; (try dsimp only at hSw); go_simp; all_goals (first | done | with_reducible rfl))
        case hQ107 => exact fun _ _ _ h => h
        simp only [Act.put, List.setIfInBounds_toArray, List.set_cons_zero, List.set_cons_succ]
        refine wpAnyH_take (i := 7) (oi := ?oi108) (v := ?v108) ?hi108 (by kernel_rfl) ?hf108 ?hr108 ?hQ108 (Or.inl ⟨?hw108, ?hy108⟩) (by assumption) ?rest108
        case hi108 => simp only [List.getElem?_toArray, List.getElem?_cons_succ, List.getElem?_cons_zero]; rfl
        case hf108 => kernel_rfl
        case hr108 => kernel_rfl
        case hw108 => rfl
        case hy108 => (intro w hSw; (try dsimp only at hSw); go_simp; all_goals (first | done | with_reducible rfl))
        case hQ108 => exact fun _ _ _ h => h
        simp only [Act.put, List.setIfInBounds_toArray, List.set_cons_zero, List.set_cons_succ]
        refine wpAnyH_take (i := 8) (oi := ?oi109) (v := ?v109) ?hi109 (by kernel_rfl) ?hf109 ?hr109 ?hQ109 (Or.inl ⟨?hw109, ?hy109⟩) (by assumption) ?rest109
        case hi109 => simp only [List.getElem?_toArray, List.getElem?_cons_succ, List.getElem?_cons_zero]; rfl
        case hf109 => kernel_rfl
        case hr109 => kernel_rfl
        case hw109 => rfl
        case hy109 => (intro w hSw; (try dsimp only at hSw); go_simp; all_goals (first | done | with_reducible rfl))
        case hQ109 => exact fun _ _ _ h => h
        simp only [Act.put, List.setIfInBounds_toArray, List.set_cons_zero, List.set_cons_succ]
        refine wpAnyH_take (i := 9) (oi := ?oi110) (v := ?v110) ?hi110 (by kernel_rfl) ?hf110 ?hr110 ?hQ110 (Or.inl ⟨?hw110, ?hy110⟩) (by assumption) ?rest110
        case hi110 => simp only [List.getElem?_toArray, List.getElem?_cons_succ, List.getElem?_cons_zero]; rfl
        case hf110 => kernel_rfl
        case hr110 => kernel_rfl
        case hw110 => rfl
        case hy110 => (intro w hSw; (try dsimp only at hSw); go_simp; all_goals (first | done | with_reducible rfl))
        case hQ110 => exact fun _ _ _ h => h
        simp only [Act.put, List.setIfInBounds_toArray, List.set_cons_zero, List.set_cons_succ]
        refine wpAnyH_take (i := 10) (oi := ?oi111) (v := ?v111) ?hi111 (by kernel_rfl) ?hf111 ?hr111 ?hQ111 (Or.inl ⟨?hw111, ?hy111⟩) (by assumption) ?rest111
        case hi111 => simp only [List.getElem?_toArray, List.getElem?_cons_succ, List.getElem?_cons_zero]; rfl
        case hf111 => kernel_rfl
        case hr111 => kernel_rfl
        case hw111 => rfl
        case hy111 => (intro w hSw; (try dsimp only at hSw); go_simp; all_goals (first | done | with_reducible rfl))
        case hQ111 => exact fun _ _ _ h => h
        simp only [Act.put, List.setIfInBounds_toArray, List.set_cons_zero, List.set_cons_succ]
        refine wpAnyH_ready (rs := [11]) (by kernel_rfl) (by simp) ?_
        refine AllReadyH.cons (o := ?oi112) ?hi112 (fun K hK => ?step112) AllReadyH.nil
        case hi112 => simp only [List.getElem?_toArray, List.getElem?_cons_succ, List.getElem?_cons_zero]; rfl
        rw [if_pos (by rfl)]
        go_simp
        go_at_call 18
        refine (CX.out _ HWd.out).mono ?_
        rintro e w7 ⟨rfl, hb⟩
        have HW7 := hid (HWd.out.trans (hb.mono HWd.out.size))
        have s7 : w7.cell? ⟨bb, 0, none⟩ = some (.slice A1 n1 k1) ∧ w7.cell? ⟨bb, 1, none⟩ = some (.slice A2 n2 k2) ∧ w7.cell? ⟨bb, 2, none⟩ = some (.int .i64 q) := ⟨((KB.out.to HW7.out).2 0 _ rfl).1, ((KB.out.to HW7.out).2 1 _ rfl).1, ((KB.out.to HW7.out).2 2 _ rfl).1⟩
        clear hb
        refine hK.out _ _ s7 (fun hS => ?_)
        refine wpAnyH_ready (rs := [12]) (by kernel_rfl) (by simp) ?_
        refine AllReadyH.cons (o := ?oi113) ?hi113 (fun K hK => ?step113) AllReadyH.nil
        case hi113 => simp only [List.getElem?_toArray, List.getElem?_cons_succ, List.getElem?_cons_zero]; rfl
        rw [if_pos (by rfl)]
        go_simp
        go_at_call 34
        refine (CE.out _ HW7.out).mono ?_
        rintro e w8 ⟨rfl, hb⟩
        have HW8 := hid (HW7.out.trans (hb.mono HW7.out.size))
        have s8 : w8.cell? ⟨bb, 0, none⟩ = some (.slice A1 n1 k1) ∧ w8.cell? ⟨bb, 1, none⟩ = some (.slice A2 n2 k2) ∧ w8.cell? ⟨bb, 2, none⟩ = some (.int .i64 q) := ⟨((KB.out.to HW8.out).2 0 _ rfl).1, ((KB.out.to HW8.out).2 1 _ rfl).1, ((KB.out.to HW8.out).2 2 _ rfl).1⟩
        clear hb
        refine hK.out _ _ s8 (fun hS => ?_)
        refine wpAnyH_take (i := 13) (oi := ?oi114) (v := ?v114) ?hi114 (by kernel_rfl) ?hf114 ?hr114 ?hQ114 (Or.inl ⟨?hw114, ?hy114⟩) (by assumption) ?rest114
        case hi114 => simp only [List.getElem?_toArray, List.getElem?_cons_succ, List.getElem?_cons_zero]; rfl
        case hf114 => kernel_rfl
        case hr114 => kernel_rfl
        case hw114 => rfl
        case hy114 => (intro w hSw; (try dsimp only at hSw); go_simp; all_goals (first | done | with_reducible rfl))
        case hQ114 => exact fun _ _ _ h => h
        simp only [Act.put, List.setIfInBounds_toArray, List.set_cons_zero, List.set_cons_succ]
        refine wpAnyH_take (i := 14) (oi := ?oi115) (v := ?v115) ?hi115 (by kernel_rfl) ?hf115 ?hr115 ?hQ115 (Or.inl ⟨?hw115, ?hy115⟩) (by assumption) ?rest115
        case hi115 => simp only [List.getElem?_toArray, List.getElem?_cons_succ, List.getElem?_cons_zero]; rfl
        case hf115 => kernel_rfl
        case hr115 => kernel_rfl
        case hw115 => rfl
        case hy115 => (intro w hSw; (try dsimp only at hSw); go_simp; all_goals (first | done | with_reducible rfl))
        case hQ115 => exact fun _ _ _ h => h
        simp only [Act.put, List.setIfInBounds_toArray, List.set_cons_zero, List.set_cons_succ]
        refine wpAnyH_take (i := 15) (oi := ?oi116) (v := ?v116) ?hi116 (by kernel_rfl) ?hf116 ?hr116 ?hQ116 (Or.inl ⟨?hw116, ?hy116⟩) (by assumption) ?rest116
        case hi116 => simp only [List.getElem?_toArray, List.getElem?_cons_succ, List.getElem?_cons_zero]; rfl
        case hf116 => kernel_rfl
        case hr116 => kernel_rfl
        case hw116 => rfl
        case hy116 => (intro w hSw; (try dsimp only at hSw); go_simp; all_goals (first | done | with_reducible rfl))
        case hQ116 => exact fun _ _ _ h => h
        simp only [Act.put, List.setIfInBounds_toArray, List.set_cons_zero, List.set_cons_succ]
        refine wpAnyH_done (by kernel_rfl) ?_ _
        go_wp2_with fail
        go_ret
        exact ⟨rfl, HB.out.trans (HW8.out.mono HB.out.size)⟩
      · rw [hix] at CL
        have hk1 : k < n1 := by rw [hN1.out]; exact (List.getElem?_eq_some_iff.1 hl).1
        have s0 : (0 : Int) ≤ (k : Int) := by omega
        have s1 : (k : Int) < (n1 : Int) := by omega
        have s2 : ((k : Int)).toNat = k := by simp
        go_wp2_with fail
        refine (CL.out _ HW.out).mono ?_
        rintro e w7 ⟨rfl, hb⟩
        replace HW := hid (HW.out.trans (hb.mono HW.out.size))
        clear hb d0 d1 d2
        obtain ⟨⟨d0, _⟩, ⟨d1, _⟩, ⟨d2, _⟩⟩ := (And.intro ((KB.out.to HW.out).2 0 _ rfl) (And.intro ((KB.out.to HW.out).2 1 _ rfl) ((KB.out.to HW.out).2 2 _ rfl)))
        rcases hlv with ⟨hp, hlo⟩ | ⟨hp, hx0, hlo, hpb⟩ | ⟨hp, hpb, hlo, hpl⟩
        · subst hlo
          obtain ⟨b, o, y, s, rfl, hbB, hy, hsy, hsz, c0, c1⟩ := (TT.out _ HW.out).1.name hk1
          obtain rfl : y = l := by rw [hl] at hy; exact (Option.some.inj hy).symm
          clear hy hsy c0 hl hnm
          go_wp2_with fail
          go_ret
          exact ⟨rfl, HB.out.trans (HW.out.mono HB.out.size)⟩
        · subst hlo
          obtain rfl : nm = ⟨#[]⟩ := by have h9 := congrArg txt hx0; rw [txt_data] at h9; exact Value.string.inj h9
          rw [hpb] at CP
          obtain ⟨zp, hzp⟩ : ∃ z, txt (parentT L H q (⟨#[]⟩ : ByteArray).data.toList) = z := ⟨_, rfl⟩
          rw [hzp] at CP
          clear hzp
          obtain ⟨b, o, y, s, rfl, hbB, hy, hsy, hsz, c0, c1⟩ := (TT.out _ HW.out).1.name hk1
          obtain rfl : y = l := by rw [hl] at hy; exact (Option.some.inj hy).symm
          clear hy hsy c0 hl hnm
          go_wp2_with fail
          refine (CP.out _ HW.out).mono ?_
          rintro e w8 ⟨rfl, hb⟩
          replace HW := hid (HW.out.trans (hb.mono HW.out.size))
          clear hb d0 d1 d2
          obtain ⟨⟨d0, _⟩, ⟨d1, _⟩, ⟨d2, _⟩⟩ := (And.intro ((KB.out.to HW.out).2 0 _ rfl) (And.intro ((KB.out.to HW.out).2 1 _ rfl) ((KB.out.to HW.out).2 2 _ rfl)))
          have HWd := hid (HW.out.drew)
          go_wp2_with fail
          refine wp_region_held_drew (S := (fun w' : World => w'.cell? ⟨bb, 0, none⟩ = some (.slice (some ⟨b, o, none⟩) n1 k1) ∧ w'.cell? ⟨bb, 1, none⟩ = some (.slice A2 n2 k2) ∧ w'.cell? ⟨bb, 2, none⟩ = some (.int .i64 q))) (by kernel_rfl) ⟨d0, d1, d2⟩ (fun hS => ?_)
          refine wpAnyH_take (i := 0) (oi := ?oi117) (v := ?v117) ?hi117 (by kernel_rfl) ?hf117 ?hr117 ?hQ117 (Or.inl ⟨?hw117, ?hy117⟩) (by assumption) ?rest117
          case hi117 => simp only [List.getElem?_toArray, List.getElem?_cons_succ, List.getElem?_cons_zero]; rfl
          case hf117 => kernel_rfl
          case hr117 => kernel_rfl
          case hw117 => rfl
          case hy117 => (intro w hSw; (try dsimp only at hSw); go_simp; all_goals (first | done | with_reducible rfl))
          case hQ117 => exact fun _ _ _ h => h
          simp only [Act.put, List.setIfInBounds_toArray, List.set_cons_zero, List.set_cons_succ]
          refine wpAnyH_take (i := 1) (oi := ?oi118) (v := ?v118) ?hi118 (by kernel_rfl) ?hf118 ?hr118 ?hQ118 (Or.inl ⟨?hw118, ?hy118⟩) (by assumption) ?rest118
          case hi118 => simp only [List.getElem?_toArray, List.getElem?_cons_succ, List.getElem?_cons_zero]; rfl
          case hf118 => kernel_rfl
          case hr118 => kernel_rfl
          case hw118 => rfl
          case hy118 => (intro w hSw; (try dsimp only at hSw); go_simp; all_goals (first | done | with_reducible rfl))
          case hQ118 => exact fun _ _ _ h => h
          simp only [Act.put, List.setIfInBounds_toArray, List.set_cons_zero, List.set_cons_succ]
          refine wpAnyH_take (i := 2) (oi := ?oi119) (v := ?v119) ?hi119 (by kernel_rfl) ?hf119 ?hr119 ?hQ119 (Or.inl ⟨?hw119, ?hy119⟩) (by assumption) ?rest119
          case hi119 => simp only [List.getElem?_toArray, List.getElem?_cons_succ, List.getElem?_cons_zero]; rfl
          case hf119 => kernel_rfl
          case hr119 => kernel_rfl
          case hw119 => rfl
          case hy119 => (intro w hSw; (try dsimp only at hSw); go_simp; all_goals (first | done | with_reducible rfl))
          case hQ119 => exact fun _ _ _ h => h
          simp only [Act.put, List.setIfInBounds_toArray, List.set_cons_zero, List.set_cons_succ]
          refine wpAnyH_take (i := 3) (oi := ?oi120) (v := ?v120) ?hi120 (by kernel_rfl) ?hf120 ?hr120 ?hQ120 (Or.inl ⟨?hw120, ?hy120⟩) (by assumption) ?rest120
          case hi120 => simp only [List.getElem?_toArray, List.getElem?_cons_succ, List.getElem?_cons_zero]; rfl
          case hf120 => kernel_rfl
          case hr120 => kernel_rfl
          case hw120 => rfl
          case hy120 => (intro w hSw; (try dsimp only at hSw); go_simp; all_goals (first | done | with_reducible rfl))
          case hQ120 => exact fun _ _ _ h => h
          simp only [Act.put, List.setIfInBounds_toArray, List.set_cons_zero, List.set_cons_succ]
          refine wpAnyH_take (i := 4) (oi := ?oi121) (v := ?v121) ?hi121 (by kernel_rfl) ?hf121 ?hr121 ?hQ121 (Or.inl ⟨?hw121, ?hy121⟩) (by assumption) ?rest121
          case hi121 => simp only [List.getElem?_toArray, List.getElem?_cons_succ, List.getElem?_cons_zero]; rfl
          case hf121 => kernel_rfl
          case hr121 => kernel_rfl
          case hw121 => rfl
          case hy121 => (intro w hSw; (try dsimp only at hSw); go_simp; all_goals (first | done | with_reducible rfl))
          case hQ121 => exact fun _ _ _ h => h
          simp only [Act.put, List.setIfInBounds_toArray, List.set_cons_zero, List.set_cons_succ]
          refine wpAnyH_take (i := 5) (oi := ?oi122) (v := ?v122) ?hi122 (by kernel_rfl) ?hf122 ?hr122 ?hQ122 (Or.inl ⟨?hw122, ?hy122⟩) (by assumption) ?rest122
          case hi122 => simp only [List.getElem?_toArray, List.getElem?_cons_succ, List.getElem?_cons_zero]; rfl
          case hf122 => kernel_rfl
          case hr122 => kernel_rfl
          case hw122 => rfl
          case hy122 => (intro w hSw; (try dsimp only at hSw); go_simp; all_goals (first | done | with_reducible rfl))
          case hQ122 => exact fun _ _ _ h => h
          simp only [Act.put, List.setIfInBounds_toArray, List.set_cons_zero, List.set_cons_succ]
          refine wpAnyH_take (i := 6) (oi := ?oi123) (v := ?v123) ?hi123 (by kernel_rfl) ?hf123 ?hr123 ?hQ123 (Or.inl ⟨?hw123, ?hy123⟩) (by assumption) ?rest123
          case hi123 => simp only [List.getElem?_toArray, List.getElem?_cons_succ, List.getElem?_cons_zero]; rfl
          case hf123 => kernel_rfl
          case hr123 => kernel_rfl
          case hw123 => rfl
          case hy123 => (intro w hSw; (try dsimp only at hSw); go_simp; all_goals (first | done | with_reducible rfl))
          case hQ123 => exact fun _ _ _ h => h
          simp only [Act.put, List.setIfInBounds_toArray, List.set_cons_zero, List.set_cons_succ]
          refine wpAnyH_take (i := 7) (oi := ?oi124) (v := undef) ?hi124 (by kernel_rfl) ?hf124 ?hr124 ?hQ124 (Or.inr ⟨?hw124, rfl⟩) (by assumption) ?rest124
          case hi124 => simp only [List.getElem?_toArray, List.getElem?_cons_succ, List.getElem?_cons_zero]; rfl
          case hf124 => kernel_rfl
          case hr124 => kernel_rfl
          case hw124 => rfl
          case hQ124 => exact fun _ _ _ h => h
          simp only [Act.put, List.setIfInBounds_toArray, List.set_cons_zero, List.set_cons_succ]
          refine wpAnyH_take (i := 8) (oi := ?oi125) (v := undef) ?hi125 (by kernel_rfl) ?hf125 ?hr125 ?hQ125 (Or.inr ⟨?hw125, rfl⟩) (by assumption) ?rest125
          case hi125 => simp only [List.getElem?_toArray, List.getElem?_cons_succ, List.getElem?_cons_zero]; rfl
          case hf125 => kernel_rfl
          case hr125 => kernel_rfl
          case hw125 => rfl
          case hQ125 => exact fun _ _ _ h => h
          simp only [Act.put, List.setIfInBounds_toArray, List.set_cons_zero, List.set_cons_succ]
          refine wpAnyH_take (i := 9) (oi := ?oi126) (v := undef) ?hi126 (by kernel_rfl) ?hf126 ?hr126 ?hQ126 (Or.inr ⟨?hw126, rfl⟩) (by assumption) ?rest126
          case hi126 => simp only [List.getElem?_toArray, List.getElem?_cons_succ, List.getElem?_cons_zero]; rfl
          case hf126 => kernel_rfl
          case hr126 => kernel_rfl
          case hw126 => rfl
          case hQ126 => exact fun _ _ _ h => h
          simp only [Act.put, List.setIfInBounds_toArray, List.set_cons_zero, List.set_cons_succ]
          refine wpAnyH_take (i := 10) (oi := ?oi127) (v := undef) ?hi127 (by kernel_rfl) ?hf127 ?hr127 ?hQ127 (Or.inr ⟨?hw127, rfl⟩) (by assumption) ?rest127
          case hi127 => simp only [List.getElem?_toArray, List.getElem?_cons_succ, List.getElem?_cons_zero]; rfl
          case hf127 => kernel_rfl
          case hr127 => kernel_rfl
          case hw127 => rfl
          case hQ127 => exact fun _ _ _ h => h
          simp only [Act.put, List.setIfInBounds_toArray, List.set_cons_zero, List.set_cons_succ]
          refine wpAnyH_take (i := 11) (oi := ?oi128) (v := undef) ?hi128 (by kernel_rfl) ?hf128 ?hr128 ?hQ128 (Or.inr ⟨?hw128, rfl⟩) (by assumption) ?rest128
          case hi128 => simp only [List.getElem?_toArray, List.getElem?_cons_succ, List.getElem?_cons_zero]; rfl
          case hf128 => kernel_rfl
          case hr128 => kernel_rfl
          case hw128 => rfl
          case hQ128 => exact fun _ _ _ h => h
          simp only [Act.put, List.setIfInBounds_toArray, List.set_cons_zero, List.set_cons_succ]
          refine wpAnyH_take (i := 12) (oi := ?oi129) (v := undef) ?hi129 (by kernel_rfl) ?hf129 ?hr129 ?hQ129 (Or.inr ⟨?hw129, rfl⟩) (by assumption) ?rest129
          case hi129 => simp only [List.getElem?_toArray, List.getElem?_cons_succ, List.getElem?_cons_zero]; rfl
          case hf129 => kernel_rfl
          case hr129 => kernel_rfl
          case hw129 => rfl
          case hQ129 => exact fun _ _ _ h => h
          simp only [Act.put, List.setIfInBounds_toArray, List.set_cons_zero, List.set_cons_succ]
          refine wpAnyH_take (i := 13) (oi := ?oi130) (v := undef) ?hi130 (by kernel_rfl) ?hf130 ?hr130 ?hQ130 (Or.inr ⟨?hw130, rfl⟩) (by assumption) ?rest130
          case hi130 => simp only [List.getElem?_toArray, List.getElem?_cons_succ, List.getElem?_cons_zero]; rfl
          case hf130 => kernel_rfl
          case hr130 => kernel_rfl
          case hw130 => rfl
          case hQ130 => exact fun _ _ _ h => h
          simp only [Act.put, List.setIfInBounds_toArray, List.set_cons_zero, List.set_cons_succ]
          refine wpAnyH_take (i := 14) (oi := ?oi131) (v := ?v131) ?hi131 (by kernel_rfl) ?hf131 ?hr131 ?hQ131 (Or.inl ⟨?hw131, ?hy131⟩) (by assumption) ?rest131
          case hi131 => simp only [List.getElem?_toArray, List.getElem?_cons_succ, List.getElem?_cons_zero]; rfl
          case hf131 => kernel_rfl
          case hr131 => kernel_rfl
          case hw131 => rfl
          case hy131 => (intro w hSw; (try dsimp only at hSw); go_simp; all_goals (first | done | with_reducible rfl))
          case hQ131 => exact fun _ _ _ h => h
          simp only [Act.put, List.setIfInBounds_toArray, List.set_cons_zero, List.set_cons_succ]
          refine wpAnyH_take (i := 15) (oi := ?oi132) (v := ?v132) ?hi132 (by kernel_rfl) ?hf132 ?hr132 ?hQ132 (Or.inl ⟨?hw132, ?hy132⟩) (by assumption) ?rest132
          case hi132 => simp only [List.getElem?_toArray, List.getElem?_cons_succ, List.getElem?_cons_zero]; rfl
          case hf132 => kernel_rfl
          case hr132 => kernel_rfl
          case hw132 => rfl
          case hy132 => (intro w hSw; (try dsimp only at hSw); go_simp; all_goals (first | done | with_reducible rfl))
          case hQ132 => exact fun _ _ _ h => h
          simp only [Act.put, List.setIfInBounds_toArray, List.set_cons_zero, List.set_cons_succ]
          refine wpAnyH_done (by kernel_rfl) ?_ _
          go_wp2_with fail
          go_ret
          exact ⟨rfl, HB.out.trans (HWd.out.mono HB.out.size)⟩
        · obtain ⟨up, hup1, hup2⟩ : ∃ up : ByteArray, txt (parentT L H q nm.data.toList) = .string up ∧ up.data.toList = parentT L H q nm.data.toList := ⟨⟨(parentT L H q nm.data.toList).toArray⟩, rfl, by simp⟩
          have huz : up.size ≤ maxLen := by rw [Lib.size_eq, hup2]; exact hpl
          replace CE := hid (show ∀ (W : World), Below w2.heap.size w2 W → Calls Try.prog 34 #[.agg #[.slice A1 n1 k1, .slice A2 n2 k2, .int .i64 q], .string up] W (fun e w' => e = .returned (.int .i64 lo) ∧ Below W.heap.size W w') from fun W hW => by have h9 := CE.out up huz W hW; rw [hup2, hlo] at h9; exact h9)
          rw [hup1, hpb] at CP
          clear hlo hpl hup1 hup2
          obtain ⟨b, o, y, s, rfl, hbB, hy, hsy, hsz, c0, c1⟩ := (TT.out _ HW.out).1.name hk1
          obtain rfl : y = l := by rw [hl] at hy; exact (Option.some.inj hy).symm
          clear hy hsy c0 hl hnm
          go_wp2_with fail
          refine (CP.out _ HW.out).mono ?_
          rintro e w8 ⟨rfl, hb⟩
          replace HW := hid (HW.out.trans (hb.mono HW.out.size))
          clear hb d0 d1 d2
          obtain ⟨⟨d0, _⟩, ⟨d1, _⟩, ⟨d2, _⟩⟩ := (And.intro ((KB.out.to HW.out).2 0 _ rfl) (And.intro ((KB.out.to HW.out).2 1 _ rfl) ((KB.out.to HW.out).2 2 _ rfl)))
          go_wp2_with fail
          refine (CE.out _ HW.out).mono ?_
          rintro e w9 ⟨rfl, hb⟩
          replace HW := hid (HW.out.trans (hb.mono HW.out.size))
          clear hb d0 d1 d2
          obtain ⟨⟨d0, _⟩, ⟨d1, _⟩, ⟨d2, _⟩⟩ := (And.intro ((KB.out.to HW.out).2 0 _ rfl) (And.intro ((KB.out.to HW.out).2 1 _ rfl) ((KB.out.to HW.out).2 2 _ rfl)))
          go_wp2_with fail
          go_ret
          exact ⟨rfl, HB.out.trans (HW.out.mono HB.out.size)⟩
end Go.Proofs.Yteammkclbgniiaa
