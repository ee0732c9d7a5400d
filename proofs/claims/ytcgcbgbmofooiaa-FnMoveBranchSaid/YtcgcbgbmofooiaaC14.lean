/-
  TREES changed: the program's MoveBranch.
-/
import Derived.Test.YtcgcbgbmofooiaaC13
namespace Go.Proofs.Ytcgcbgbmofooiaa
open Go.RowKit Nm
set_option linter.unusedSimpArgs false
set_option linter.unusedVariables false

theorem set_same {α : Type} {X : List α} {k : Nat} {l : α} (h : X[k]? = some l) : X.set k l = X := by
  refine List.ext_getElem? fun i => ?_
  by_cases hi : i = k
  · subst hi; rw [List.getElem?_set_self (List.getElem?_eq_some_iff.1 h).1, h]
  · rw [List.getElem?_set_ne (by omega)]

set_option maxHeartbeats 8000000 in
set_option maxRecDepth 100000 in
theorem moveClo_c {w : World} {L : List Lgr} {H : List Hnd} {q : Int} {bf bt : Nat} (f t : ByteArray) (hfz : f.size ≤ 20) (htz : t.size ≤ 20) (hbf : w.cell? ⟨bf, 0, none⟩ = some (.string f)) (hbt : w.cell? ⟨bt, 0, none⟩ = some (.string t)) (hok : treeOk L H q = true)
    (W : World) (lo bc : Nat) (v1 v2 : Value) (rs : List Row) (hp : CloPre w lo bc W v1 v2 rs L H q) :
    Calls Try.prog 67 #[.pointer (some ⟨bc, 0, none⟩), .pointer (some ⟨bf, 0, none⟩), .pointer (some ⟨bt, 0, none⟩)] W (CloPost lo bc W (if movedB L f.data.toList then some (moveT L f.data.toList t.data.toList, H, q) else none)) := by
  obtain ⟨hb, hlo, hbc, hkb, hs, hr, hap, hd⟩ := hp
  obtain ⟨_, _, hnm, h8, h1l, _⟩ := tree_names hok
  have HN20 := hid (show ∀ l ∈ L, l.nm.length ≤ 20 from fun l hl => name_size _ (hnm _ (List.mem_map.2 ⟨l, hl, rfl⟩)))
  have HD := hid (move_fit (f := f.data.toList) (t := t.data.toList) hd HN20.out (by rw [← Lib.size_eq]; exact htz))
  have hbfw : bf < w.heap.size := World.block_lt_of_cell? w _ hbf
  have hbtw : bt < w.heap.size := World.block_lt_of_cell? w _ hbt
  obtain ⟨u1, u2, ls, hs', e, h1, h2, h3⟩ := hs
  have e' : v1 = u1 ∧ v2 = u2 := by simpa using e
  obtain ⟨rfl, rfl⟩ := e'
  subst h3
  have hll : ls.length = L.length := by rw [← h1]; simp [lsOf]
  obtain ⟨hl, hh⟩ := hr.lsIn
  obtain ⟨A, c, rfl, hnc, hcm⟩ := hl.1.form
  obtain ⟨A4, c4, rfl, _, _⟩ := hh.1.form
  clear hl hh
  rw [treeRows_eq] at hr hap
  have hr0 : Rows W lo ([] ++ two 45 6 ls.length (.slice A ls.length c) lcells lrows ls ++ two 82 3 hs'.length (.slice A4 hs'.length c4) hcells hrows hs') := by simpa using hr
  obtain ⟨g, rfl, hglt⟩ := own_some hr0.top (by omega)
  have hgl : lo ≤ g := (hr0.top.lt g rfl).1
  have hgb : g ≠ bc := fun e => hap ⟨45, 6, ls.length, .slice (some ⟨g, 0, none⟩) ls.length c, ls.flatMap lcells⟩ (by simp [two]) (by rw [← e]; rfl)
  have hgf : g ≠ bf := by omega
  have hgt : g ≠ bt := by omega
  generalize hN : ls.length = n at *
  have hn8 : n ≤ 8 := by omega
  unfold maxLen at hcm
  have HR := hid hr0
  have HKB := hid hkb
  have HB := hid hb
  have HBF := hid hbf
  have HBT := hid hbt
  have HH := hid h2
  have HL := hid h1
  have HNe := hid (And.intro hgb (And.intro hgf hgt))
  have HLn := hid hll
  have HLe := hid hN
  clear hap hr hr0 hkb hd h1 h2 e hbf hbt hok hb hgb hgf hgt hll hN h8 h1l hnm
  generalize hO : (if movedB L f.data.toList then some (moveT L f.data.toList t.data.toList, H, q) else none) = O
  have HO := hid hO
  clear hO
  go_enter Try.func67, Try.ntmps67
  have d0 := (HKB.out.2 0 _ rfl).1
  go_wp2_with fail
  clear d0
  go_loopw [5, 6, 7, 13] (fun mv av bv iv wr => ∃ (k : Nat) (cur : List LgrV) (u6 u7 : Value), iv = .int .i64 k ∧ av = u6 ∧ bv = u7 ∧ mv = .bool (movedB (L.take k) f.data.toList) ∧ k ≤ n ∧ Hid (lsOf cur = moveT (L.take k) f.data.toList t.data.toList ++ L.drop k) ∧
    Hid (Rows wr lo ([] ++ two 45 6 n (.slice (some ⟨g, 0, none⟩) n c) lcells lrows cur ++ two 82 3 hs'.length (.slice A4 hs'.length c4) hcells hrows hs')) ∧ Hid (Blk wr bc [.slice (some ⟨g, 0, none⟩) n c, .slice A4 hs'.length c4, .int .i64 q]) ∧ Hid (Below lo W wr)) (fun _ _ _ iv _ => n - (intOf iv).toNat)
  case atStart => exact ⟨0, ls, _, _, rfl, rfl, rfl, rfl, by omega, by simpa [moveT, Hid] using HL.out, HR.out, HKB.out, Below.refl _ _⟩
  case round =>
    obtain ⟨k, cur, u6, u7, rfl, rfl, rfl, rfl, hk, HC, HRx, HKx, HBx⟩ := hrel
    have hWs : W.heap.size ≤ wr.heap.size := HBx.out.size
    by_cases hlt : k < n
    · have hkL : k < L.length := by have := HLn.out; omega
      obtain ⟨l, hl⟩ : ∃ l, L[k]? = some l := ⟨_, List.getElem?_eq_getElem hkL⟩
      have hcl : (lsOf cur)[k]? = some l := by rw [HC.out, move_at _ _ hkL]; exact hl
      obtain ⟨x, hx, hxl⟩ : ∃ x, cur[k]? = some x ∧ x.l = l := by
        unfold lsOf at hcl
        rw [List.getElem?_map] at hcl
        cases hx : cur[k]? with
        | none => rw [hx] at hcl; cases hcl
        | some x => rw [hx] at hcl; exact ⟨x, rfl, Option.some.inj hcl⟩
      obtain ⟨p, hp⟩ : ∃ p : ByteArray, txt x.l.nm = .string p := ⟨_, rfl⟩
      have hpd : p.data.toList = x.l.nm := by unfold txt at hp; injection hp with hp; rw [← hp]
      have hp20 : p.size ≤ 20 := by rw [Lib.size_eq, hpd, hxl]; exact HN20.out l (List.mem_of_getElem? hl)
      have o := HRx.out.cell_at (j := 0) lcells_len hx (by show some (txt x.l.nm) = _; rw [hp])
      have o1 := o.1
      have o1f := o.2
      have d0 := (HKx.out.2 0 _ rfl).1
      have cf : wr.cell? ⟨bf, 0, none⟩ = some (.string f) := (HBx.out.cell (p := ⟨bf, 0, none⟩) (by show bf < lo; omega)).trans ((HB.out.cell (p := ⟨bf, 0, none⟩) hbfw).trans HBF.out)
      have ct : wr.cell? ⟨bt, 0, none⟩ = some (.string t) := (HBx.out.cell (p := ⟨bt, 0, none⟩) (by show bt < lo; omega)).trans ((HB.out.cell (p := ⟨bt, 0, none⟩) hbtw).trans HBT.out)
      have CI := hid (inBranch_c p f wr.drew (by unfold maxLen; omega) (by omega))
      have s0 : (0 : Int) ≤ (k : Int) := by omega
      have s1 : (k : Int) < (n : Int) := by omega
      have s2 : ((k : Int)).toNat = k := by simp
      have HX := hid (And.intro hx (And.intro hxl (And.intro hp hpd)))
      have HLk := hid hl
      have hbel : belowL p.data.toList f.data.toList = true → f.size ≤ p.size := fun h => by have := below_len h; rwa [← Lib.size_eq, ← Lib.size_eq] at this
      have HBel := hid hbel
      clear hx hxl hp hpd hl hcl o hbel
      go_wp2_with fail
      refine wp_region_held_drew (S := (fun w' : World => w'.cell? ⟨bf, 0, none⟩ = some (.string f) ∧ w'.cell? ⟨g, k * 6, none⟩ = some (.string p))) (by kernel_rfl) ⟨cf, o1⟩ (fun hS => ?_)
      refine wpAnyH_take (i := 0) (oi := ?oi101) (v := ?v101) ?hi101 (by kernel_rfl) ?hf101 ?hr101 ?hQ101 (Or.inl ⟨?hw101, ?hy101⟩) (by assumption) ?rest101
      case hi101 => simp only [List.getElem?_toArray, List.getElem?_cons_succ, List.getElem?_cons_zero]; rfl
      case hf101 => kernel_rfl
      case hr101 => kernel_rfl
      case hw101 => rfl
      case hy101 => (intro w hSw; (try dsimp only at hSw); go_simp; all_goals (first | done | with_reducible rfl))
      case hQ101 => exact fun _ _ _ h => h
      simp only [Act.put, List.setIfInBounds_toArray, List.set_cons_zero, List.set_cons_succ]
      refine wpAnyH_take (i := 1) (oi := ?oi102) (v := ?v102) ?hi102 (by kernel_rfl) ?hf102 ?hr102 ?hQ102 (Or.inl ⟨?hw102, ?hy102⟩) (by assumption) ?rest102
      case hi102 => simp only [List.getElem?_toArray, List.getElem?_cons_succ, List.getElem?_cons_zero]; rfl
      case hf102 => kernel_rfl
      case hr102 => kernel_rfl
      case hw102 => rfl
      case hy102 => (intro w hSw; (try dsimp only at hSw); go_simp; all_goals (first | done | with_reducible rfl))
      case hQ102 => exact fun _ _ _ h => h
      simp only [Act.put, List.setIfInBounds_toArray, List.set_cons_zero, List.set_cons_succ]
      refine wpAnyH_take (i := 2) (oi := ?oi103) (v := ?v103) ?hi103 (by kernel_rfl) ?hf103 ?hr103 ?hQ103 (Or.inl ⟨?hw103, ?hy103⟩) (by assumption) ?rest103
      case hi103 => simp only [List.getElem?_toArray, List.getElem?_cons_succ, List.getElem?_cons_zero]; rfl
      case hf103 => kernel_rfl
      case hr103 => kernel_rfl
      case hw103 => rfl
      case hy103 => (intro w hSw; (try dsimp only at hSw); go_simp; all_goals (first | done | with_reducible rfl))
      case hQ103 => exact fun _ _ _ h => h
      simp only [Act.put, List.setIfInBounds_toArray, List.set_cons_zero, List.set_cons_succ]
      refine wpAnyH_take (i := 3) (oi := ?oi104) (v := ?v104) ?hi104 (by kernel_rfl) ?hf104 ?hr104 ?hQ104 (Or.inl ⟨?hw104, ?hy104⟩) (by assumption) ?rest104
      case hi104 => simp only [List.getElem?_toArray, List.getElem?_cons_succ, List.getElem?_cons_zero]; rfl
      case hf104 => kernel_rfl
      case hr104 => kernel_rfl
      case hw104 => rfl
      case hy104 => (intro w hSw; (try dsimp only at hSw); go_simp; all_goals (first | done | with_reducible rfl))
      case hQ104 => exact fun _ _ _ h => h
      simp only [Act.put, List.setIfInBounds_toArray, List.set_cons_zero, List.set_cons_succ]
      refine wpAnyH_take (i := 4) (oi := ?oi105) (v := ?v105) ?hi105 (by kernel_rfl) ?hf105 ?hr105 ?hQ105 (Or.inl ⟨?hw105, ?hy105⟩) (by assumption) ?rest105
      case hi105 => simp only [List.getElem?_toArray, List.getElem?_cons_succ, List.getElem?_cons_zero]; rfl
      case hf105 => kernel_rfl
      case hr105 => kernel_rfl
      case hw105 => rfl
      case hy105 => (intro w hSw; (try dsimp only at hSw); go_simp; all_goals (first | done | with_reducible rfl))
      case hQ105 => exact fun _ _ _ h => h
      simp only [Act.put, List.setIfInBounds_toArray, List.set_cons_zero, List.set_cons_succ]
      refine wpAnyH_ready (rs := [5]) (by kernel_rfl) (by simp) ?_
      refine AllReadyH.cons (o := ?oi106) ?hi106 (fun K hK => ?step106) AllReadyH.nil
      case hi106 => simp only [List.getElem?_toArray, List.getElem?_cons_succ, List.getElem?_cons_zero]; rfl
      rw [if_pos (by rfl)]
      go_simp
      go_at_call 41
      refine (CI.out).mono ?_
      rintro e w9 ⟨rfl, rfl⟩
      refine hK.out _ _ hS (fun _ => ?_)
      refine wpAnyH_done (by kernel_rfl) ?_ _
      cases hbl : belowL p.data.toList f.data.toList with
      | false =>
        go_wp2_with fail
        go_roundw
        case rel =>
          refine ⟨k + 1, cur, _, _, by go_num, rfl, rfl, ?_, by omega, ?_, HRx.out.below ((Below.refl _ _).drew), HKx.out.dr 1, HBx.out.drew⟩
          · rw [moved_step _ HLk.out, ← HX.out.2.1, ← HX.out.2.2.2, hbl, Bool.or_false]
          · show lsOf cur = _
            have e : moveL f.data.toList t.data.toList l = l := by unfold moveL; rw [← HX.out.2.1, ← HX.out.2.2.2, hbl]; rfl
            rw [move_step _ _ HLk.out, e, set_same ((move_at _ _ hkL).trans HLk.out)]
            exact HC.out
        case measure => simp [intOf]; omega
      | true =>
        have hfp : f.size ≤ p.size := HBel.out hbl
        have hfp1 : (f.size : Int) ≤ (p.size : Int) := by omega
        have hfp0 : (0 : Int) ≤ (f.size : Int) := by omega
        have hcat : ¬ (9223372036854775807 < t.size + (p.size - f.size)) := by omega
        have hfp2 : ((f.size : Int)).toNat = f.size := by simp
        have HRd := hid (show Rows wr.drew lo _ from HRx.out.below ((Below.refl _ _).drew))
        have HRs := hid ((HRd.out.below ((Below.refl _ _).drew)).cellset (j := 0) (e := 2) (x := x) (y := { x with l := moveL f.data.toList t.data.toList x.l }) (u := .string (t ++ p.extract f.size p.size)) lcells_len lrows_len HX.out.1 (by omega)
          (by
            have e : (moveL f.data.toList t.data.toList x.l) = { x.l with nm := t.data.toList ++ x.l.nm.drop f.data.toList.length } := by unfold moveL; rw [← HX.out.2.2.2, hbl]; rfl
            rw [e]
            show [txt _, _, _, _, _, _] = _
            rw [← HX.out.2.2.2, move_txt]; rfl)
          (by
            have e : (moveL f.data.toList t.data.toList x.l) = { x.l with nm := t.data.toList ++ x.l.nm.drop f.data.toList.length } := by unfold moveL; rw [← HX.out.2.2.2, hbl]; rfl
            rw [e]; rfl))
        have o2 : wr.drew.drew.cell? ⟨g, k * 6, none⟩ = some (.string p) := o1
        have o2f : wr.drew.drew.frozen? ⟨g, k * 6, none⟩ = false := o1f
        go_wp2_with fail
        refine wp_region_held_drew (S := (fun w' : World => w'.cell? ⟨bf, 0, none⟩ = some (.string f) ∧ w'.cell? ⟨bt, 0, none⟩ = some (.string t))) (by kernel_rfl) ⟨cf, ct⟩ (fun hS => ?_)
        refine wpAnyH_take (i := 0) (oi := ?oi107) (v := ?v107) ?hi107 (by kernel_rfl) ?hf107 ?hr107 ?hQ107 (Or.inl ⟨?hw107, ?hy107⟩) (by assumption) ?rest107
        case hi107 => simp only [List.getElem?_toArray, List.getElem?_cons_succ, List.getElem?_cons_zero]; rfl
        case hf107 => kernel_rfl
        case hr107 => kernel_rfl
        case hw107 => rfl
        case hy107 => (intro w hSw; (try dsimp only at hSw); go_simp; all_goals (first | done | with_reducible rfl))
        case hQ107 => exact fun _ _ _ h => h
        simp only [Act.put, List.setIfInBounds_toArray, List.set_cons_zero, List.set_cons_succ]
        refine wpAnyH_take (i := 1) (oi := ?oi108) (v := ?v108) ?hi108 (by kernel_rfl) ?hf108 ?hr108 ?hQ108 (Or.inl ⟨?hw108, ?hy108⟩) (by assumption) ?rest108
        case hi108 => simp only [List.getElem?_toArray, List.getElem?_cons_succ, List.getElem?_cons_zero]; rfl
        case hf108 => kernel_rfl
        case hr108 => kernel_rfl
        case hw108 => rfl
        case hy108 => (intro w hSw; (try dsimp only at hSw); go_simp; all_goals (first | done | with_reducible rfl))
        case hQ108 => exact fun _ _ _ h => h
        simp only [Act.put, List.setIfInBounds_toArray, List.set_cons_zero, List.set_cons_succ]
        refine wpAnyH_take (i := 2) (oi := ?oi109) (v := ?v109) ?hi109 (by kernel_rfl) ?hf109 ?hr109 ?hQ109 (Or.inl ⟨?hw109, ?hy109⟩) (by assumption) ?rest109
        case hi109 => simp only [List.getElem?_toArray, List.getElem?_cons_succ, List.getElem?_cons_zero]; rfl
        case hf109 => kernel_rfl
        case hr109 => kernel_rfl
        case hw109 => rfl
        case hy109 => (intro w hSw; (try dsimp only at hSw); go_simp; all_goals (first | done | with_reducible rfl))
        case hQ109 => exact fun _ _ _ h => h
        simp only [Act.put, List.setIfInBounds_toArray, List.set_cons_zero, List.set_cons_succ]
        refine wpAnyH_take (i := 3) (oi := ?oi110) (v := ?v110) ?hi110 (by kernel_rfl) ?hf110 ?hr110 ?hQ110 (Or.inl ⟨?hw110, ?hy110⟩) (by assumption) ?rest110
        case hi110 => simp only [List.getElem?_toArray, List.getElem?_cons_succ, List.getElem?_cons_zero]; rfl
        case hf110 => kernel_rfl
        case hr110 => kernel_rfl
        case hw110 => rfl
        case hy110 => (intro w hSw; (try dsimp only at hSw); go_simp; all_goals (first | done | with_reducible rfl))
        case hQ110 => exact fun _ _ _ h => h
        simp only [Act.put, List.setIfInBounds_toArray, List.set_cons_zero, List.set_cons_succ]
        refine wpAnyH_take (i := 4) (oi := ?oi111) (v := ?v111) ?hi111 (by kernel_rfl) ?hf111 ?hr111 ?hQ111 (Or.inl ⟨?hw111, ?hy111⟩) (by assumption) ?rest111
        case hi111 => simp only [List.getElem?_toArray, List.getElem?_cons_succ, List.getElem?_cons_zero]; rfl
        case hf111 => kernel_rfl
        case hr111 => kernel_rfl
        case hw111 => rfl
        case hy111 => (intro w hSw; (try dsimp only at hSw); go_simp; all_goals (first | done | with_reducible rfl))
        case hQ111 => exact fun _ _ _ h => h
        simp only [Act.put, List.setIfInBounds_toArray, List.set_cons_zero, List.set_cons_succ]
        refine wpAnyH_take (i := 6) (oi := ?oi112) (v := ?v112) ?hi112 (by kernel_rfl) ?hf112 ?hr112 ?hQ112 (Or.inl ⟨?hw112, ?hy112⟩) (by assumption) ?rest112
        case hi112 => simp only [List.getElem?_toArray, List.getElem?_cons_succ, List.getElem?_cons_zero]; rfl
        case hf112 => kernel_rfl
        case hr112 => kernel_rfl
        case hw112 => rfl
        case hy112 => (intro w hSw; (try dsimp only at hSw); go_simp; all_goals (first | done | with_reducible rfl))
        case hQ112 => exact fun _ _ _ h => h
        simp only [Act.put, List.setIfInBounds_toArray, List.set_cons_zero, List.set_cons_succ]
        refine wpAnyH_take (i := 7) (oi := ?oi113) (v := ?v113) ?hi113 (by kernel_rfl) ?hf113 ?hr113 ?hQ113 (Or.inl ⟨?hw113, ?hy113⟩) (by assumption) ?rest113
        case hi113 => simp only [List.getElem?_toArray, List.getElem?_cons_succ, List.getElem?_cons_zero]; rfl
        case hf113 => kernel_rfl
        case hr113 => kernel_rfl
        case hw113 => rfl
        case hy113 => (intro w hSw; (try dsimp only at hSw); go_simp; all_goals (first | done | with_reducible rfl))
        case hQ113 => exact fun _ _ _ h => h
        simp only [Act.put, List.setIfInBounds_toArray, List.set_cons_zero, List.set_cons_succ]
        refine wpAnyH_ready (rs := [5]) (by kernel_rfl) (by simp) ?_
        refine AllReadyH.cons (o := ?oi114) ?hi114 (fun K hK => ?step114) AllReadyH.nil
        case hi114 => simp only [List.getElem?_toArray, List.getElem?_cons_succ, List.getElem?_cons_zero]; rfl
        rw [if_pos (by rfl)]
        go_simp
        refine hK.out _ _ hS (fun _ => ?_)
        refine wpAnyH_take (i := 8) (oi := ?oi115) (v := ?v115) ?hi115 (by kernel_rfl) ?hf115 ?hr115 ?hQ115 (Or.inl ⟨?hw115, ?hy115⟩) (by assumption) ?rest115
        case hi115 => simp only [List.getElem?_toArray, List.getElem?_cons_succ, List.getElem?_cons_zero]; rfl
        case hf115 => kernel_rfl
        case hr115 => kernel_rfl
        case hw115 => rfl
        case hy115 => (intro w hSw; (try dsimp only at hSw); go_simp; all_goals (first | done | with_reducible rfl))
        case hQ115 => exact fun _ _ _ h => h
        simp only [Act.put, List.setIfInBounds_toArray, List.set_cons_zero, List.set_cons_succ]
        refine wpAnyH_take (i := 9) (oi := ?oi116) (v := ?v116) ?hi116 (by kernel_rfl) ?hf116 ?hr116 ?hQ116 (Or.inl ⟨?hw116, ?hy116⟩) (by assumption) ?rest116
        case hi116 => simp only [List.getElem?_toArray, List.getElem?_cons_succ, List.getElem?_cons_zero]; rfl
        case hf116 => kernel_rfl
        case hr116 => kernel_rfl
        case hw116 => rfl
        case hy116 => (intro w hSw; (try dsimp only at hSw); go_simp; all_goals (first | done | with_reducible rfl))
        case hQ116 => exact fun _ _ _ h => h
        simp only [Act.put, List.setIfInBounds_toArray, List.set_cons_zero, List.set_cons_succ]
        refine wpAnyH_take (i := 10) (oi := ?oi117) (v := ?v117) ?hi117 (by kernel_rfl) ?hf117 ?hr117 ?hQ117 (Or.inl ⟨?hw117, ?hy117⟩) (by assumption) ?rest117
        case hi117 => simp only [List.getElem?_toArray, List.getElem?_cons_succ, List.getElem?_cons_zero]; rfl
        case hf117 => kernel_rfl
        case hr117 => kernel_rfl
        case hw117 => rfl
        case hy117 => (intro w hSw; (try dsimp only at hSw); go_simp; all_goals (first | done | with_reducible rfl))
        case hQ117 => exact fun _ _ _ h => h
        simp only [Act.put, List.setIfInBounds_toArray, List.set_cons_zero, List.set_cons_succ]
        refine wpAnyH_take (i := 11) (oi := ?oi118) (v := ?v118) ?hi118 (by kernel_rfl) ?hf118 ?hr118 ?hQ118 (Or.inl ⟨?hw118, ?hy118⟩) (by assumption) ?rest118
        case hi118 => simp only [List.getElem?_toArray, List.getElem?_cons_succ, List.getElem?_cons_zero]; rfl
        case hf118 => kernel_rfl
        case hr118 => kernel_rfl
        case hw118 => rfl
        case hy118 => (intro w hSw; (try dsimp only at hSw); go_simp; all_goals (first | done | with_reducible rfl))
        case hQ118 => exact fun _ _ _ h => h
        simp only [Act.put, List.setIfInBounds_toArray, List.set_cons_zero, List.set_cons_succ]
        refine wpAnyH_ready (rs := [12]) (by kernel_rfl) (by simp) ?_
        refine AllReadyH.cons (o := ?oi119) ?hi119 (fun K hK => ?step119) AllReadyH.nil
        case hi119 => simp only [List.getElem?_toArray, List.getElem?_cons_succ, List.getElem?_cons_zero]; rfl
        rw [if_pos (by rfl)]
        go_simp
        refine hK.out _ _ ⟨(World.cell?_setCell_far _ _ _ _ HNe.out.2.1).trans hS.1, (World.cell?_setCell_far _ _ _ _ HNe.out.2.2).trans hS.2⟩ (fun _ => ?_)
        refine wpAnyH_done (by kernel_rfl) ?_ _
        go_wp2_with fail
        go_roundw
        case rel =>
          refine ⟨k + 1, cur.set k { x with l := moveL f.data.toList t.data.toList x.l }, _, _, by go_num, rfl, rfl, ?_, by omega, ?_, HRs.out, ((HKx.out.dr 2).apart ⟨g, _, none⟩ _ HNe.out.1), (HBx.out.drew.drew).setCell hgl _⟩
          · rw [moved_step _ HLk.out, ← HX.out.2.1, ← HX.out.2.2.2, hbl, Bool.or_true]
          · show lsOf (cur.set k _) = _
            rw [move_step _ _ HLk.out, ← HC.out]
            unfold lsOf
            rw [List.map_set, HX.out.2.1]
        case measure => simp [intOf]; omega
    · obtain rfl : k = n := by omega
      have hkL := HLn.out
      have e0 : L.take k = L := List.take_of_length_le (by omega)
      have e1 : L.drop k = [] := List.drop_eq_nil_of_le (by omega)
      rw [e0, e1, List.append_nil] at HC
      rw [e0]
      generalize hm : movedB L f.data.toList = m at HO
      go_wp2_with fail
      go_ret
      have HO1 := HO.out
      refine ⟨HBx.out, ret_bool (by rw [← HO1]; cases m <;> rfl), fun x hx => ?_⟩
      rw [← HO1] at hx
      cases m with
      | false => cases hx
      | true =>
        obtain rfl := Option.some.inj hx
        have hcl : cur.length = k := by have h := congrArg List.length HC.out; simp [lsOf, moveT] at h; omega
        refine ⟨_, _, _, _, _, _, treeRows cur.length _ cur hs'.length _ hs', HKx.out, ⟨_, _, cur, hs', rfl, HC.out, HH.out, rfl⟩, ?_, HD.out⟩
        rw [treeRows_eq, hcl]
        simpa using HRx.out
end Go.Proofs.Ytcgcbgbmofooiaa
