/-
  A HANDLER ATTACHED TO A two 65 6 n (.slice (some ⟨g, 0, none⟩) n c) lcells lrowsGER: AttachHandler of the program and of the model. By gen_at1.py.
-/
import Derived.Test.YtbidlmejonpadaaCG
import Derived.Test.YtbidlmejonpadaaRC
import Derived.Test.YtbidlmejonpadaaHeld
import Derived.Test.YtbidlmejonpadaaU2
namespace Go.Proofs.Ytbidlmejonpadaa
open Go.RowKit Nm
set_option linter.unusedSimpArgs false
set_option linter.unusedVariables false

theorem att_lgrFit {l : Lgr} {t : Name} (h : lgrFit l) (hn : l.hs.length ≤ 64) (ht : t.length ≤ maxTxt) : lgrFit (addHL t l) := by
  unfold addHL
  split
  · exact h
  · refine ⟨h.1, ⟨by show (l.hs ++ [t]).length ≤ _; rw [List.length_append]; unfold maxTxt; simp; omega, fun x hx => ?_⟩, h.2.2⟩
    rcases List.mem_append.1 hx with hx | hx
    · exact h.2.1.2 x hx
    · rw [List.mem_singleton] at hx; subst hx; exact ht
theorem addHL_in {t : Name} {l : Lgr} (h : t ∈ l.hs) : addHL t l = l := by unfold addHL; rw [if_pos h]
theorem addHL_out {t : Name} {l : Lgr} (h : t ∉ l.hs) : addHL t l = { l with hs := l.hs ++ [t] } := by unfold addHL; rw [if_neg h]
theorem att_fit (L : List Lgr) (H : List Hnd) (q : Int) (s : Name) (f : Lgr → Lgr) : dataFit (resL (lgrX L H q s f)) (resH (lgrX L H q s f)) := by
  unfold lgrX
  split
  · exact none_fit
  · exact changed_fit _ _ _ _
theorem att_bad {L : List Lgr} {H : List Hnd} {q : Int} (s : Name) (f : Lgr → Lgr) (h : treeOk L H q = false) : lgrX L H q s f = none := by
  unfold lgrX changedO
  rw [h]; split <;> rfl
theorem att_noname {L : List Lgr} {H : List Hnd} {q : Int} {s : Name} (f : Lgr → Lgr) (hn : idxL (namesOf L) s < 0) : lgrX L H q s f = none := by unfold lgrX; rw [if_pos hn]
theorem att_at {L : List Lgr} {H : List Hnd} {q : Int} {s t : Name} {k : Nat} {l : Lgr} (h : treeOk L H q = true) (hk : idxL (namesOf L) s = (k : Int)) (hl : L[k]? = some l) : lgrX L H q s (addHL t) = if t ∈ hnm H then some (updL L k (addHL t), H, q) else none := by
  unfold lgrX changedO
  have e : ¬ ((k : Int) < 0) := by omega
  simp only [hk, h, if_neg e, Int.toNat_natCast, if_true, Option.bind_some]
  unfold ifOk
  rw [addH_ok t h hl]
  by_cases ht : t ∈ hnm H
  · rw [decide_eq_true ht, if_pos ht]; rfl
  · rw [decide_eq_false ht, if_neg ht]; rfl
theorem two_apartA {w : World} {lo n c g k : Nat} {ls : List LgrV} {post : List Row} {x : LgrV} (h : Rows w lo ([] ++ two 65 6 n (.slice (some ⟨g, 0, none⟩) n c) lcells lrows ls ++ post)) (hx : ls[k]? = some x) : some g ≠ x.hv.ownBlock := by
  have h2 := h.2
  rw [List.nil_append, two, List.cons_append] at h2
  have := (List.pairwise_cons.1 h2).1 ⟨9, 1, x.hn, x.hv, x.l.hs.map txt⟩ (List.mem_append.2 (.inl (List.mem_flatMap.2 ⟨x, List.mem_of_getElem? hx, by simp [lrows]⟩)))
  rcases this.1 with h0 | h0
  · cases h0
  · exact h0
theorem nm_setA {α : Type} {X : List α} {k : Nat} {l : α} (h : X[k]? = some l) : X.set k l = X := by
  refine List.ext_getElem? fun i => ?_
  by_cases hi : i = k
  · subst hi; rw [List.getElem?_set_self (List.getElem?_eq_some_iff.1 h).1, h]
  · rw [List.getElem?_set_ne (by omega)]

set_option maxHeartbeats 8000000 in
set_option maxRecDepth 100000 in
theorem attachFn_c {W : World} {lo n c g k bl : Nat} {ls : List LgrV} {post : List Row} {x : LgrV} (s : ByteArray) (hR : Rows W lo ([] ++ two 65 6 n (.slice (some ⟨g, 0, none⟩) n c) lcells lrows ls ++ post)) (hx : ls[k]? = some x) (hn : x.l.hs.length ≤ 64) (hft : ∀ y ∈ x.l.hs, y.length ≤ maxTxt) (hlo : lo ≤ W.heap.size) (hbl : W.cell? ⟨bl, 0, none⟩ = some (.string s)) (hblo : bl < lo) :
    Calls Try.prog 72 #[.pointer (some ⟨g, k * 6, none⟩), .pointer (some ⟨bl, 0, none⟩)] W (fun e w' => e = .returned (.tuple #[]) ∧ ∃ y : LgrV, y.l = addHL s.data.toList x.l ∧
      Rows w' lo ([] ++ two 65 6 n (.slice (some ⟨g, 0, none⟩) n c) lcells lrows (ls.set k y) ++ post) ∧ Below lo W w' ∧ ∀ b cs, b < W.heap.size → b ≠ g → some b ≠ x.hv.ownBlock → Blk W b cs → Blk w' b cs) := by
  have hgx := two_apartA hR hx
  have own6 : W.ownsRow lo 9 1 x.hv x.hn (x.l.hs.map txt) := hR.sub_ hx (r := ⟨9, 1, x.hn, x.hv, x.l.hs.map txt⟩) (by simp [lrows])
  have o2 := hR.cell_at (j := 2) lcells_len hx rfl
  have hgl : lo ≤ g := (hR.top.lt g rfl).1
  have hgw : g < W.heap.size := (hR.top.lt g rfl).2
  have hxn : x.l.hs.length = x.hn := by have := own6.1; simpa using this
  have CK := containsTxt_c x.hv x.hn W.heap.size x.l.hs s W.drew ⟨Sl.of_own own6.drew, hft⟩
  obtain ⟨A6, c6, e6, _, _⟩ := (Sl.of_own own6).form
  have m0 : W.cell? ⟨g, k * 6 + 2, none⟩ = some (.slice A6 x.hn c6) := by rw [← e6]; exact o2.1
  rw [e6] at CK
  have HX := hid hx
  have HR := hid hR
  have HE6 := hid e6
  by_cases hin : s.data.toList ∈ x.l.hs
  · rw [decide_eq_true hin] at CK
    have HA := hid (addHL_in hin)
    replace CK := hid CK
    clear hin hx hR own6 o2 e6 hgx hft
    go_enter Try.func72, Try.ntmps72
    go_wp2_with fail
    refine wp_region_held_drew (S := (fun w' : World => w'.cell? ⟨bl, 0, none⟩ = some (.string s) ∧ w'.cell? ⟨g, k * 6 + 2, none⟩ = some (.slice A6 x.hn c6))) (by kernel_rfl) ⟨hbl, m0⟩ (fun hS => ?_)
    refine wpAnyH_take (i := 0) (oi := ?oi101) (v := ?v101) ?hi101 (by kernel_rfl) ?hf101 ?hr101 ?hQ101 (Or.inl ⟨?hw101, ?hy101⟩) (by assumption) ?rest101
    case hi101 => simp only [List.getElem?_toArray, List.getElem?_cons_succ, List.getElem?_cons_zero]; rfl
    case hf101 => kernel_rfl
    case hr101 => kernel_rfl
    case hw101 => rfl
    case hy101 => (intro w hSw; (try dsimp only at hSw); go_simp; all_goals (first | done | with_reducible rfl))
    case hQ101 => exact fun _ _ _ h => h
    simp only [Act.put, List.setIfInBounds_toArray, List.set_cons_zero, List.set_cons_succ]
    refine wpAnyH_take (i := 1) (oi := ?oi102) (v := ?v102) ?hi102 (by kernel_rfl) ?hf102 ?hr102 ?hQ102 (Or.inl ⟨?hw102, ?hy102⟩) (by assumption) ?rest102
    case hi102 => simp only [List.getElem?_toArray, List.getElem?_cons_succ, List.getElem?_cons_zero]; rfl
    case hf102 => kernel_rfl
    case hr102 => kernel_rfl
    case hw102 => rfl
    case hy102 => (intro w hSw; (try dsimp only at hSw); go_simp; all_goals (first | done | with_reducible rfl))
    case hQ102 => exact fun _ _ _ h => h
    simp only [Act.put, List.setIfInBounds_toArray, List.set_cons_zero, List.set_cons_succ]
    refine wpAnyH_take (i := 2) (oi := ?oi103) (v := ?v103) ?hi103 (by kernel_rfl) ?hf103 ?hr103 ?hQ103 (Or.inl ⟨?hw103, ?hy103⟩) (by assumption) ?rest103
    case hi103 => simp only [List.getElem?_toArray, List.getElem?_cons_succ, List.getElem?_cons_zero]; rfl
    case hf103 => kernel_rfl
    case hr103 => kernel_rfl
    case hw103 => rfl
    case hy103 => (intro w hSw; (try dsimp only at hSw); go_simp; all_goals (first | done | with_reducible rfl))
    case hQ103 => exact fun _ _ _ h => h
    simp only [Act.put, List.setIfInBounds_toArray, List.set_cons_zero, List.set_cons_succ]
    refine wpAnyH_take (i := 3) (oi := ?oi104) (v := ?v104) ?hi104 (by kernel_rfl) ?hf104 ?hr104 ?hQ104 (Or.inl ⟨?hw104, ?hy104⟩) (by assumption) ?rest104
    case hi104 => simp only [List.getElem?_toArray, List.getElem?_cons_succ, List.getElem?_cons_zero]; rfl
    case hf104 => kernel_rfl
    case hr104 => kernel_rfl
    case hw104 => rfl
    case hy104 => (intro w hSw; (try dsimp only at hSw); go_simp; all_goals (first | done | with_reducible rfl))
    case hQ104 => exact fun _ _ _ h => h
    simp only [Act.put, List.setIfInBounds_toArray, List.set_cons_zero, List.set_cons_succ]
    refine wpAnyH_take (i := 4) (oi := ?oi105) (v := ?v105) ?hi105 (by kernel_rfl) ?hf105 ?hr105 ?hQ105 (Or.inl ⟨?hw105, ?hy105⟩) (by assumption) ?rest105
    case hi105 => simp only [List.getElem?_toArray, List.getElem?_cons_succ, List.getElem?_cons_zero]; rfl
    case hf105 => kernel_rfl
    case hr105 => kernel_rfl
    case hw105 => rfl
    case hy105 => (intro w hSw; (try dsimp only at hSw); go_simp; all_goals (first | done | with_reducible rfl))
    case hQ105 => exact fun _ _ _ h => h
    simp only [Act.put, List.setIfInBounds_toArray, List.set_cons_zero, List.set_cons_succ]
    refine wpAnyH_ready (rs := [5]) (by kernel_rfl) (by simp) ?_
    refine AllReadyH.cons (o := ?oi106) ?hi106 (fun K hK => ?step106) AllReadyH.nil
    case hi106 => simp only [List.getElem?_toArray, List.getElem?_cons_succ, List.getElem?_cons_zero]; rfl
    rw [if_pos (by rfl)]
    go_simp
    go_at_call 47
    refine (CK.out).mono ?_
    rintro e w1 ⟨rfl, hw1⟩
    subst hw1
    refine hK.out _ _ hS (fun hS => ?_)
    refine wpAnyH_take (i := 6) (oi := ?oi107) (v := ?v107) ?hi107 (by kernel_rfl) ?hf107 ?hr107 ?hQ107 (Or.inl ⟨?hw107, ?hy107⟩) (by assumption) ?rest107
    case hi107 => simp only [List.getElem?_toArray, List.getElem?_cons_succ, List.getElem?_cons_zero]; rfl
    case hf107 => kernel_rfl
    case hr107 => kernel_rfl
    case hw107 => rfl
    case hy107 => (intro w hSw; (try dsimp only at hSw); go_simp; all_goals (first | done | with_reducible rfl))
    case hQ107 => exact fun _ _ _ h => h
    simp only [Act.put, List.setIfInBounds_toArray, List.set_cons_zero, List.set_cons_succ]
    refine wpAnyH_done (by kernel_rfl) ?_ _
    clear hS
    go_wp2_with fail
    go_end0
    refine ⟨rfl, x, HA.out.symm, ?_, (Below.refl lo W).drew, fun b cs _ _ _ hk => hk.dr 1⟩
    rw [nm_setA HX.out]
    exact HR.out.below ((Below.refl _ _).drew)
  · rw [decide_eq_false hin] at CK
    have HA := hid (addHL_out hin)
    replace CK := hid CK
    obtain ⟨i0, hi, hz0, hz1, hz2⟩ := info_parts Try.infoStr
    obtain ⟨v', w4, hrun, ho4, hg4, hloc⟩ := run_app1P (P := Try.prog) W.drew.drew 27 lo 9 i0 _ 1 16 Try.underlying27 hi hz0 hz1 hz2 rfl (by decide) _ x.hn _ own6.drew.drew [.string s] 9 rfl (one_cell rfl) (by unfold maxLen; omega) (by omega) hlo
    rw [e6] at hrun hg4 hloc
    obtain ⟨A7, c7, rfl, _, _⟩ := (Sl.of_own ho4).form
    have hgb : some g ≠ (Value.slice A6 x.hn c6).ownBlock := by rw [← e6]; exact hgx
    have m1 : w4.cell? ⟨g, k * 6 + 2, none⟩ = some (.slice A6 x.hn c6) := (World.cell?_of_block (hg4.block g hgw hgb)).trans m0
    have f1 : w4.frozen? ⟨g, k * 6 + 2, none⟩ = false := (World.frozen?_of_block (hg4.block g hgw hgb)).trans o2.2
    have hHI : ∀ z, (Value.slice A6 x.hn c6).ownBlock = some z → lo ≤ z := fun z hz => (own6.lt z (by rw [e6]; exact hz)).1
    have hnb : some bl ≠ (Value.slice A6 x.hn c6).ownBlock := fun e => by have := hHI bl e.symm; omega
    have l4 : w4.cell? ⟨bl, 0, none⟩ = some (.string s) := (World.cell?_of_block (hg4.block bl (by show bl < W.heap.size; omega) hnb)).trans hbl
    have HR4 := hid ((hR.below ((Below.refl _ _).drew.drew)).rowcell3 (w' := w4) (i := k) (j := 0) (q := 2) (e := 2) (x := x) (y := ⟨addHL s.data.toList x.l, .slice A7 (x.hn + 1) c7, x.hn + 1, x.fv, x.fn⟩)
      (r := ⟨9, 1, x.hn, x.hv, x.l.hs.map txt⟩) (r' := ⟨9, 1, x.hn + 1, .slice A7 (x.hn + 1) c7, x.l.hs.map txt ++ [Value.string s]⟩) (u := .slice A7 (x.hn + 1) c7)
      lcells_len lrows_len hx (by omega) rfl (by show World.grownBy _ _ x.hv.ownBlock; rw [e6]; exact hg4) ho4 (fun z hz => by
        rcases hloc with h0 | h0
        · exact .inl (by show x.hv.ownBlock = some z; rw [e6, ← h0]; exact hz)
        · right
          have h9 : some z = some (W.drew.drew.heap.size + 1) := hz.symm.trans h0
          have := Option.some.inj h9
          omega) (by omega) (by rw [HA.out]; rfl) (by rw [HA.out]; show [(⟨_, _, _, _, (x.l.hs ++ [s.data.toList]).map txt⟩ : Row), _] = _; rw [List.map_append, List.map_singleton, txt_data]; rfl))
    have HB4 := hid (show Below lo W w4 from ((Below.refl lo W).drew.drew).grown hg4 hlo hHI)
    have HK4 := hid (fun (b : Nat) (cs : List Value) (_ : b < W.heap.size) (h1 : b ≠ g) (h2 : some b ≠ x.hv.ownBlock) (hk : Blk W b cs) => ((((hk.dr 1).dr 1).kept hg4 (show some b ≠ _ by rw [← e6]; exact h2)).apart ⟨g, k * 6 + 2, none⟩ (.slice A7 (x.hn + 1) c7) (show g ≠ b from fun e => h1 e.symm)))
    have HRun := hid hrun
    have hblg : g ≠ bl := by omega
    clear hin hx hR own6 o2 e6 hgx hft hrun ho4 hg4 hloc hgb hHI hnb
    go_enter Try.func72, Try.ntmps72
    go_wp2_with fail
    refine wp_region_held_drew (S := (fun w' : World => w'.cell? ⟨bl, 0, none⟩ = some (.string s) ∧ w'.cell? ⟨g, k * 6 + 2, none⟩ = some (.slice A6 x.hn c6))) (by kernel_rfl) ⟨hbl, m0⟩ (fun hS => ?_)
    refine wpAnyH_take (i := 0) (oi := ?oi108) (v := ?v108) ?hi108 (by kernel_rfl) ?hf108 ?hr108 ?hQ108 (Or.inl ⟨?hw108, ?hy108⟩) (by assumption) ?rest108
    case hi108 => simp only [List.getElem?_toArray, List.getElem?_cons_succ, List.getElem?_cons_zero]; rfl
    case hf108 => kernel_rfl
    case hr108 => kernel_rfl
    case hw108 => rfl
    case hy108 => (intro w hSw; (try dsimp only at hSw); go_simp; all_goals (first | done | with_reducible rfl))
    case hQ108 => exact fun _ _ _ h => h
    simp only [Act.put, List.setIfInBounds_toArray, List.set_cons_zero, List.set_cons_succ]
    refine wpAnyH_take (i := 1) (oi := ?oi109) (v := ?v109) ?hi109 (by kernel_rfl) ?hf109 ?hr109 ?hQ109 (Or.inl ⟨?hw109, ?hy109⟩) (by assumption) ?rest109
    case hi109 => simp only [List.getElem?_toArray, List.getElem?_cons_succ, List.getElem?_cons_zero]; rfl
    case hf109 => kernel_rfl
    case hr109 => kernel_rfl
    case hw109 => rfl
    case hy109 => (intro w hSw; (try dsimp only at hSw); go_simp; all_goals (first | done | with_reducible rfl))
    case hQ109 => exact fun _ _ _ h => h
    simp only [Act.put, List.setIfInBounds_toArray, List.set_cons_zero, List.set_cons_succ]
    refine wpAnyH_take (i := 2) (oi := ?oi110) (v := ?v110) ?hi110 (by kernel_rfl) ?hf110 ?hr110 ?hQ110 (Or.inl ⟨?hw110, ?hy110⟩) (by assumption) ?rest110
    case hi110 => simp only [List.getElem?_toArray, List.getElem?_cons_succ, List.getElem?_cons_zero]; rfl
    case hf110 => kernel_rfl
    case hr110 => kernel_rfl
    case hw110 => rfl
    case hy110 => (intro w hSw; (try dsimp only at hSw); go_simp; all_goals (first | done | with_reducible rfl))
    case hQ110 => exact fun _ _ _ h => h
    simp only [Act.put, List.setIfInBounds_toArray, List.set_cons_zero, List.set_cons_succ]
    refine wpAnyH_take (i := 3) (oi := ?oi111) (v := ?v111) ?hi111 (by kernel_rfl) ?hf111 ?hr111 ?hQ111 (Or.inl ⟨?hw111, ?hy111⟩) (by assumption) ?rest111
    case hi111 => simp only [List.getElem?_toArray, List.getElem?_cons_succ, List.getElem?_cons_zero]; rfl
    case hf111 => kernel_rfl
    case hr111 => kernel_rfl
    case hw111 => rfl
    case hy111 => (intro w hSw; (try dsimp only at hSw); go_simp; all_goals (first | done | with_reducible rfl))
    case hQ111 => exact fun _ _ _ h => h
    simp only [Act.put, List.setIfInBounds_toArray, List.set_cons_zero, List.set_cons_succ]
    refine wpAnyH_take (i := 4) (oi := ?oi112) (v := ?v112) ?hi112 (by kernel_rfl) ?hf112 ?hr112 ?hQ112 (Or.inl ⟨?hw112, ?hy112⟩) (by assumption) ?rest112
    case hi112 => simp only [List.getElem?_toArray, List.getElem?_cons_succ, List.getElem?_cons_zero]; rfl
    case hf112 => kernel_rfl
    case hr112 => kernel_rfl
    case hw112 => rfl
    case hy112 => (intro w hSw; (try dsimp only at hSw); go_simp; all_goals (first | done | with_reducible rfl))
    case hQ112 => exact fun _ _ _ h => h
    simp only [Act.put, List.setIfInBounds_toArray, List.set_cons_zero, List.set_cons_succ]
    refine wpAnyH_ready (rs := [5]) (by kernel_rfl) (by simp) ?_
    refine AllReadyH.cons (o := ?oi113) ?hi113 (fun K hK => ?step113) AllReadyH.nil
    case hi113 => simp only [List.getElem?_toArray, List.getElem?_cons_succ, List.getElem?_cons_zero]; rfl
    rw [if_pos (by rfl)]
    go_simp
    go_at_call 47
    refine (CK.out).mono ?_
    rintro e w1 ⟨rfl, hw1⟩
    subst hw1
    refine hK.out _ _ hS (fun hS => ?_)
    refine wpAnyH_take (i := 6) (oi := ?oi114) (v := ?v114) ?hi114 (by kernel_rfl) ?hf114 ?hr114 ?hQ114 (Or.inl ⟨?hw114, ?hy114⟩) (by assumption) ?rest114
    case hi114 => simp only [List.getElem?_toArray, List.getElem?_cons_succ, List.getElem?_cons_zero]; rfl
    case hf114 => kernel_rfl
    case hr114 => kernel_rfl
    case hw114 => rfl
    case hy114 => (intro w hSw; (try dsimp only at hSw); go_simp; all_goals (first | done | with_reducible rfl))
    case hQ114 => exact fun _ _ _ h => h
    simp only [Act.put, List.setIfInBounds_toArray, List.set_cons_zero, List.set_cons_succ]
    refine wpAnyH_done (by kernel_rfl) ?_ _
    clear hS
    go_wp2_with fail
    refine wp_region_let 10 (fun w' : World => w'.cell? ⟨bl, 0, none⟩ = some (.string s)) (fun w' : World => w'.cell? ⟨g, k * 6 + 2, none⟩ = some (.slice A6 x.hn c6)) (by kernel_rfl) hbl m0 (fun hS => ?_)
    refine wpAnyL_take (i := 0) (oi := ?oi115) (v := ?v115) ?hi115 (by kernel_rfl) ?hf115 ?hr115 (by decide) ?hQ115 (Or.inl ⟨?hw115, ?hy115⟩) (⟨hS.1, fun h => hS.2 (by first | rfl | exact h)⟩) ?rest115
    case hi115 => simp only [List.getElem?_toArray, List.getElem?_cons_succ, List.getElem?_cons_zero]; rfl
    case hf115 => kernel_rfl
    case hr115 => kernel_rfl
    case hw115 => rfl
    case hy115 => (intro w hSw; (try dsimp only at hSw); go_simp; all_goals (first | done | with_reducible rfl))
    case hQ115 => exact fun _ _ _ h => h
    simp only [Act.put, List.setIfInBounds_toArray, List.set_cons_zero, List.set_cons_succ]
    refine wpAnyL_take (i := 1) (oi := ?oi116) (v := ?v116) ?hi116 (by kernel_rfl) ?hf116 ?hr116 (by decide) ?hQ116 (Or.inl ⟨?hw116, ?hy116⟩) (⟨hS.1, fun h => hS.2 (by first | rfl | exact h)⟩) ?rest116
    case hi116 => simp only [List.getElem?_toArray, List.getElem?_cons_succ, List.getElem?_cons_zero]; rfl
    case hf116 => kernel_rfl
    case hr116 => kernel_rfl
    case hw116 => rfl
    case hy116 => (intro w hSw; (try dsimp only at hSw); go_simp; all_goals (first | done | with_reducible rfl))
    case hQ116 => exact fun _ _ _ h => h
    simp only [Act.put, List.setIfInBounds_toArray, List.set_cons_zero, List.set_cons_succ]
    refine wpAnyL_take (i := 2) (oi := ?oi117) (v := ?v117) ?hi117 (by kernel_rfl) ?hf117 ?hr117 (by decide) ?hQ117 (Or.inl ⟨?hw117, ?hy117⟩) (⟨hS.1, fun h => hS.2 (by first | rfl | exact h)⟩) ?rest117
    case hi117 => simp only [List.getElem?_toArray, List.getElem?_cons_succ, List.getElem?_cons_zero]; rfl
    case hf117 => kernel_rfl
    case hr117 => kernel_rfl
    case hw117 => rfl
    case hy117 => (intro w hSw; (try dsimp only at hSw); go_simp; all_goals (first | done | with_reducible rfl))
    case hQ117 => exact fun _ _ _ h => h
    simp only [Act.put, List.setIfInBounds_toArray, List.set_cons_zero, List.set_cons_succ]
    refine wpAnyL_take (i := 3) (oi := ?oi118) (v := ?v118) ?hi118 (by kernel_rfl) ?hf118 ?hr118 (by decide) ?hQ118 (Or.inl ⟨?hw118, ?hy118⟩) (⟨hS.1, fun h => hS.2 (by first | rfl | exact h)⟩) ?rest118
    case hi118 => simp only [List.getElem?_toArray, List.getElem?_cons_succ, List.getElem?_cons_zero]; rfl
    case hf118 => kernel_rfl
    case hr118 => kernel_rfl
    case hw118 => rfl
    case hy118 => (intro w hSw; (try dsimp only at hSw); go_simp; all_goals (first | done | with_reducible rfl))
    case hQ118 => exact fun _ _ _ h => h
    simp only [Act.put, List.setIfInBounds_toArray, List.set_cons_zero, List.set_cons_succ]
    refine wpAnyL_take (i := 5) (oi := ?oi119) (v := ?v119) ?hi119 (by kernel_rfl) ?hf119 ?hr119 (by decide) ?hQ119 (Or.inl ⟨?hw119, ?hy119⟩) (⟨hS.1, fun h => hS.2 (by first | rfl | exact h)⟩) ?rest119
    case hi119 => simp only [List.getElem?_toArray, List.getElem?_cons_succ, List.getElem?_cons_zero]; rfl
    case hf119 => kernel_rfl
    case hr119 => kernel_rfl
    case hw119 => rfl
    case hy119 => (intro w hSw; (try dsimp only at hSw); go_simp; all_goals (first | done | with_reducible rfl))
    case hQ119 => exact fun _ _ _ h => h
    simp only [Act.put, List.setIfInBounds_toArray, List.set_cons_zero, List.set_cons_succ]
    refine wpAnyL_take1 (i := 4) (oi := ?oi120) (om := ?om120) (v := ?v120) ?hi120 (by kernel_rfl) ?hf120 ?hr120 (by decide) ?hm120 ?hd120 (by rfl) ?hQ120 (Or.inl ⟨?hw120, ?hy120⟩) (⟨hS.1, fun h => hS.2 (by first | rfl | exact h)⟩) ?rest120
    case hi120 => simp only [List.getElem?_toArray, List.getElem?_cons_succ, List.getElem?_cons_zero]; rfl
    case hm120 => simp only [List.getElem?_toArray, List.getElem?_cons_succ, List.getElem?_cons_zero]; rfl
    case hd120 => kernel_rfl
    case hf120 => kernel_rfl
    case hr120 => kernel_rfl
    case hw120 => rfl
    case hy120 => (intro w hSw; (try dsimp only at hSw); go_simp; all_goals (first | done | with_reducible rfl))
    case hQ120 => exact fun _ _ _ h => h
    simp only [Act.put, List.setIfInBounds_toArray, List.set_cons_zero, List.set_cons_succ]
    refine wpAnyL_ready (rs := [6]) (by kernel_rfl) (by simp) ?_
    refine AllReadyL.cons (o := ?oi121) ?hi121 (fun K hK => ?step121) AllReadyL.nil
    case hi121 => simp only [List.getElem?_toArray, List.getElem?_cons_succ, List.getElem?_cons_zero]; rfl
    rw [if_pos (by rfl)]
    go_simp
    refine hK.out _ _ ⟨(World.cell?_alloc_past _ _ _ (show bl < W.heap.size by omega)).trans hbl, fun _ => (World.cell?_alloc_past _ _ _ (show g < W.heap.size from hgw)).trans m0⟩ (fun hS => ?_)
    refine wpAnyL_ready (rs := [7]) (by kernel_rfl) (by simp) ?_
    refine AllReadyL.cons (o := ?oi122) ?hi122 (fun K hK => ?step122) AllReadyL.nil
    case hi122 => simp only [List.getElem?_toArray, List.getElem?_cons_succ, List.getElem?_cons_zero]; rfl
    rw [if_pos (by rfl)]
    refine wp_app rfl (by rfl) (by rfl) HRun.out ?_
    refine hK.out _ _ ⟨l4, fun _ => m1⟩ (fun hS => ?_)
    simp only [Act.put, List.setIfInBounds_toArray, List.set_cons_zero, List.set_cons_succ]
    refine wpAnyL_take (i := 8) (oi := ?oi123) (v := ?v123) ?hi123 (by kernel_rfl) ?hf123 ?hr123 (by decide) ?hQ123 (Or.inl ⟨?hw123, ?hy123⟩) (⟨hS.1, fun h => hS.2 (by first | rfl | exact h)⟩) ?rest123
    case hi123 => simp only [List.getElem?_toArray, List.getElem?_cons_succ, List.getElem?_cons_zero]; rfl
    case hf123 => kernel_rfl
    case hr123 => kernel_rfl
    case hw123 => rfl
    case hy123 => (intro w hSw; (try dsimp only at hSw); go_simp; all_goals (first | done | with_reducible rfl))
    case hQ123 => exact fun _ _ _ h => h
    simp only [Act.put, List.setIfInBounds_toArray, List.set_cons_zero, List.set_cons_succ]
    refine wpAnyL_take (i := 9) (oi := ?oi124) (v := ?v124) ?hi124 (by kernel_rfl) ?hf124 ?hr124 (by decide) ?hQ124 (Or.inl ⟨?hw124, ?hy124⟩) (⟨hS.1, fun h => hS.2 (by first | rfl | exact h)⟩) ?rest124
    case hi124 => simp only [List.getElem?_toArray, List.getElem?_cons_succ, List.getElem?_cons_zero]; rfl
    case hf124 => kernel_rfl
    case hr124 => kernel_rfl
    case hw124 => rfl
    case hy124 => (intro w hSw; (try dsimp only at hSw); go_simp; all_goals (first | done | with_reducible rfl))
    case hQ124 => exact fun _ _ _ h => h
    simp only [Act.put, List.setIfInBounds_toArray, List.set_cons_zero, List.set_cons_succ]
    refine wpAnyL_ready (rs := [10]) (by kernel_rfl) (by simp) ?_
    refine AllReadyL.cons (o := ?oi125) ?hi125 (fun K hK => ?step125) AllReadyL.nil
    case hi125 => simp only [List.getElem?_toArray, List.getElem?_cons_succ, List.getElem?_cons_zero]; rfl
    rw [if_pos (by rfl)]
    go_simp
    refine hK.out _ _ ⟨(World.cell?_setCell_far _ _ _ _ hblg).trans l4, fun h => absurd h (by decide)⟩ (fun hS => ?_)
    refine wpAnyL_done (by kernel_rfl) ?_ _
    clear hS m1 f1 l4
    go_wp2_with fail
    go_end0
    exact ⟨rfl, _, rfl, HR4.out, HB4.out.setCell hgl _, HK4.out⟩

set_option maxHeartbeats 8000000 in
set_option maxRecDepth 100000 in
theorem attClo_c {w : World} {L : List Lgr} {H : List Hnd} {q : Int} {k bf ba bl : Nat} (s : ByteArray) (hk : k < L.length) (hok : treeOk L H q = true) (hz : s.size ≤ maxTxt) (hbf : w.cell? ⟨bf, 0, none⟩ = some (.func (.func 72) #[] #[.pointer (some ⟨bl, 0, none⟩)])) (hba : w.cell? ⟨ba, 0, none⟩ = some (.int .i64 k)) (hbl : w.cell? ⟨bl, 0, none⟩ = some (.string s))
    (W : World) (lo bc : Nat) (v1 v2 : Value) (rs : List Row) (hp : CloPre w lo bc W v1 v2 rs L H q) :
    Calls Try.prog 96 #[.pointer (some ⟨bc, 0, none⟩), .pointer (some ⟨bf, 0, none⟩), .pointer (some ⟨ba, 0, none⟩)] W (CloPost lo bc W (some (updL L k (addHL s.data.toList), H, q))) := by
  obtain ⟨hb, hlo, hbc, hkb, hs, hr, hap, hd⟩ := hp
  obtain ⟨_, _, _, h8, _, _⟩ := tree_names hok
  have HD := hid (updl_fit (k := k) (f := addHL s.data.toList) hd (fun l hl hf => att_lgrFit hf (by have := (tree_nodup hok (List.mem_of_getElem? hl)).2; omega) (by rw [← Lib.size_eq]; exact hz)))
  obtain ⟨u1, u2, ls, hs', e, h1, h2, h3⟩ := hs
  have e' : v1 = u1 ∧ v2 = u2 := by simpa using e
  obtain ⟨rfl, rfl⟩ := e'
  subst h3
  have hll : ls.length = L.length := by rw [← h1]; simp [lsOf]
  obtain ⟨hl, hh⟩ := hr.lsIn
  obtain ⟨A, c, rfl, hnc, hcm⟩ := hl.1.form
  obtain ⟨A4, c4, rfl, _, _⟩ := hh.1.form
  rw [treeRows_eq] at hr hap
  have hr0 : Rows W lo ([] ++ two 65 6 ls.length (.slice A ls.length c) lcells lrows ls ++ two 49 3 hs'.length (.slice A4 hs'.length c4) hcells hrows hs') := by simpa using hr
  obtain ⟨g, rfl, hglt⟩ := own_some hr0.top (by omega)
  have hgl : lo ≤ g := (hr0.top.lt g rfl).1
  obtain ⟨x, hx⟩ : ∃ x, ls[k]? = some x := ⟨_, List.getElem?_eq_getElem (by omega)⟩
  have hlx : L[k]? = some x.l := by rw [← h1]; unfold lsOf; rw [List.getElem?_map, hx]; rfl
  have hgb : g ≠ bc := fun e => hap ⟨65, 6, ls.length, .slice (some ⟨g, 0, none⟩) ls.length c, ls.flatMap lcells⟩ (by simp [two]) (by rw [← e]; rfl)
  have hxb : x.hv.ownBlock ≠ some bc := hap ⟨9, 1, x.hn, x.hv, x.l.hs.map txt⟩ (by
    rw [List.mem_append]; left
    simp only [two, List.mem_cons, List.mem_flatMap]
    exact .inr ⟨x, List.mem_of_getElem? hx, by simp [lrows]⟩)
  have hbfw : bf < w.heap.size := World.block_lt_of_cell? w _ hbf
  have hbaw : ba < w.heap.size := World.block_lt_of_cell? w _ hba
  have hblw : bl < w.heap.size := World.block_lt_of_cell? w _ hbl
  have hloW : lo ≤ W.heap.size := by have := hkb.1; omega
  have f0 : W.cell? ⟨bf, 0, none⟩ = some (.func (.func 72) #[] #[.pointer (some ⟨bl, 0, none⟩)]) := (hb.cell (p := ⟨bf, 0, none⟩) hbfw).trans hbf
  have a0 : W.cell? ⟨ba, 0, none⟩ = some (.int .i64 k) := (hb.cell (p := ⟨ba, 0, none⟩) hbaw).trans hba
  have l0 : W.cell? ⟨bl, 0, none⟩ = some (.string s) := (hb.cell (p := ⟨bl, 0, none⟩) hblw).trans hbl
  have d0 := (hkb.2 0 _ rfl).1
  have hhs := (tree_nodup hok (List.mem_of_getElem? hlx)).2
  have CG := hid (attachFn_c (bl := bl) s (hr0.below ((Below.refl _ _).drew)) hx (by omega) (hd.1.2 x.l (List.mem_of_getElem? hlx)).2.1.2 hloW l0 (by omega))
  have s0 : (0 : Int) ≤ (k : Int) := by omega
  have s1 : (k : Int) < (ls.length : Int) := by omega
  have s2 : ((k : Int)).toNat = k := by simp
  unfold maxLen at hcm
  have HKB := hid hkb
  have HX := hid hx
  have HLH := hid (And.intro h1 h2)
  have HN := hid (And.intro hgb hxb)
  have HLO := hid (And.intro hlo hbc)
  clear hl hh hr hr0 hap hkb hd h1 h2 e hb hbf hba hbl hok hll h8 hx hlx hgb hxb l0 hhs hlo hbc
  generalize hN : ls.length = n at *
  have HNn := hid hN
  clear hN
  go_enter Try.func96, Try.ntmps96
  go_wp2_with fail
  refine wp_region_held_drew (S := (fun w' : World => w'.cell? ⟨bf, 0, none⟩ = some (.func (.func 72) #[] #[.pointer (some ⟨bl, 0, none⟩)]) ∧ w'.cell? ⟨bc, 0, none⟩ = some (.slice (some ⟨g, 0, none⟩) n c) ∧ w'.cell? ⟨ba, 0, none⟩ = some (.int .i64 k))) (by kernel_rfl) ⟨f0, d0, a0⟩ (fun hS => ?_)
  refine wpAnyH_take (i := 0) (oi := ?oi126) (v := ?v126) ?hi126 (by kernel_rfl) ?hf126 ?hr126 ?hQ126 (Or.inl ⟨?hw126, ?hy126⟩) (by assumption) ?rest126
  case hi126 => simp only [List.getElem?_toArray, List.getElem?_cons_succ, List.getElem?_cons_zero]; rfl
  case hf126 => kernel_rfl
  case hr126 => kernel_rfl
  case hw126 => rfl
  case hy126 => (intro w hSw; (try dsimp only at hSw); go_simp; all_goals (first | done | with_reducible rfl))
  case hQ126 => exact fun _ _ _ h => h
  simp only [Act.put, List.setIfInBounds_toArray, List.set_cons_zero, List.set_cons_succ]
  refine wpAnyH_take (i := 1) (oi := ?oi127) (v := ?v127) ?hi127 (by kernel_rfl) ?hf127 ?hr127 ?hQ127 (Or.inl ⟨?hw127, ?hy127⟩) (by assumption) ?rest127
  case hi127 => simp only [List.getElem?_toArray, List.getElem?_cons_succ, List.getElem?_cons_zero]; rfl
  case hf127 => kernel_rfl
  case hr127 => kernel_rfl
  case hw127 => rfl
  case hy127 => (intro w hSw; (try dsimp only at hSw); go_simp; all_goals (first | done | with_reducible rfl))
  case hQ127 => exact fun _ _ _ h => h
  simp only [Act.put, List.setIfInBounds_toArray, List.set_cons_zero, List.set_cons_succ]
  refine wpAnyH_take (i := 2) (oi := ?oi128) (v := ?v128) ?hi128 (by kernel_rfl) ?hf128 ?hr128 ?hQ128 (Or.inl ⟨?hw128, ?hy128⟩) (by assumption) ?rest128
  case hi128 => simp only [List.getElem?_toArray, List.getElem?_cons_succ, List.getElem?_cons_zero]; rfl
  case hf128 => kernel_rfl
  case hr128 => kernel_rfl
  case hw128 => rfl
  case hy128 => (intro w hSw; (try dsimp only at hSw); go_simp; all_goals (first | done | with_reducible rfl))
  case hQ128 => exact fun _ _ _ h => h
  simp only [Act.put, List.setIfInBounds_toArray, List.set_cons_zero, List.set_cons_succ]
  refine wpAnyH_take (i := 3) (oi := ?oi129) (v := ?v129) ?hi129 (by kernel_rfl) ?hf129 ?hr129 ?hQ129 (Or.inl ⟨?hw129, ?hy129⟩) (by assumption) ?rest129
  case hi129 => simp only [List.getElem?_toArray, List.getElem?_cons_succ, List.getElem?_cons_zero]; rfl
  case hf129 => kernel_rfl
  case hr129 => kernel_rfl
  case hw129 => rfl
  case hy129 => (intro w hSw; (try dsimp only at hSw); go_simp; all_goals (first | done | with_reducible rfl))
  case hQ129 => exact fun _ _ _ h => h
  simp only [Act.put, List.setIfInBounds_toArray, List.set_cons_zero, List.set_cons_succ]
  refine wpAnyH_take (i := 4) (oi := ?oi130) (v := ?v130) ?hi130 (by kernel_rfl) ?hf130 ?hr130 ?hQ130 (Or.inl ⟨?hw130, ?hy130⟩) (by assumption) ?rest130
  case hi130 => simp only [List.getElem?_toArray, List.getElem?_cons_succ, List.getElem?_cons_zero]; rfl
  case hf130 => kernel_rfl
  case hr130 => kernel_rfl
  case hw130 => rfl
  case hy130 => (intro w hSw; (try dsimp only at hSw); go_simp; all_goals (first | done | with_reducible rfl))
  case hQ130 => exact fun _ _ _ h => h
  simp only [Act.put, List.setIfInBounds_toArray, List.set_cons_zero, List.set_cons_succ]
  refine wpAnyH_take (i := 5) (oi := ?oi131) (v := ?v131) ?hi131 (by kernel_rfl) ?hf131 ?hr131 ?hQ131 (Or.inl ⟨?hw131, ?hy131⟩) (by assumption) ?rest131
  case hi131 => simp only [List.getElem?_toArray, List.getElem?_cons_succ, List.getElem?_cons_zero]; rfl
  case hf131 => kernel_rfl
  case hr131 => kernel_rfl
  case hw131 => rfl
  case hy131 => (intro w hSw; (try dsimp only at hSw); go_simp; all_goals (first | done | with_reducible rfl))
  case hQ131 => exact fun _ _ _ h => h
  simp only [Act.put, List.setIfInBounds_toArray, List.set_cons_zero, List.set_cons_succ]
  refine wpAnyH_take (i := 6) (oi := ?oi132) (v := ?v132) ?hi132 (by kernel_rfl) ?hf132 ?hr132 ?hQ132 (Or.inl ⟨?hw132, ?hy132⟩) (by assumption) ?rest132
  case hi132 => simp only [List.getElem?_toArray, List.getElem?_cons_succ, List.getElem?_cons_zero]; rfl
  case hf132 => kernel_rfl
  case hr132 => kernel_rfl
  case hw132 => rfl
  case hy132 => (intro w hSw; (try dsimp only at hSw); go_simp; all_goals (first | done | with_reducible rfl))
  case hQ132 => exact fun _ _ _ h => h
  simp only [Act.put, List.setIfInBounds_toArray, List.set_cons_zero, List.set_cons_succ]
  refine wpAnyH_ready (rs := [7]) (by kernel_rfl) (by simp) ?_
  refine AllReadyH.cons (o := ?oi133) ?hi133 (fun K hK => ?step133) AllReadyH.nil
  case hi133 => simp only [List.getElem?_toArray, List.getElem?_cons_succ, List.getElem?_cons_zero]; rfl
  rw [if_pos (by rfl)]
  go_simp
  go_at_call 72
  refine (CG.out).mono ?_
  rintro e w9 ⟨rfl, y, hy, hR3, hB3, hK3⟩
  have HR3 := hid hR3
  have HK3 := hid (hK3 bc _ (HKB.out.1) (fun e => HN.out.1 e.symm) (fun e => HN.out.2 e.symm) (HKB.out.dr 1))
  have HB3 := hid (show Below lo W w9 from ((Below.refl lo W).drew).trans hB3)
  have HY := hid hy
  refine hK.out _ _ ⟨(HB3.out.cell (p := ⟨bf, 0, none⟩) (show bf < lo by have := HLO.out.1; omega)).trans f0, (HK3.out.2 0 _ rfl).1, (HB3.out.cell (p := ⟨ba, 0, none⟩) (show ba < lo by have := HLO.out.1; omega)).trans a0⟩ (fun hS => ?_)
  refine wpAnyH_done (by kernel_rfl) ?_ _
  clear hy hR3 hB3 hK3 hS f0 a0 d0
  go_wp2_with fail
  go_ret
  refine ⟨HB3.out, rfl, fun x' hx' => ?_⟩
  obtain rfl := Option.some.inj hx'
  refine ⟨_, _, _, _, _, _, treeRows (ls.set k y).length _ (ls.set k y) hs'.length _ hs', HK3.out, ⟨_, _, ls.set k y, hs', rfl, ?_, HLH.out.2, rfl⟩, ?_, HD.out⟩
  · rw [← HLH.out.1]
    have e : (lsOf ls)[k]? = some x.l := by unfold lsOf; rw [List.getElem?_map, HX.out]; rfl
    unfold updL
    rw [e]
    unfold lsOf
    rw [List.map_set, HY.out]
  · rw [treeRows_eq, List.length_set, HNn.out]
    simpa using HR3.out

set_option maxHeartbeats 4000000 in
set_option maxRecDepth 100000 in
theorem implAttachHandler_c {w : World} {B : Nat} {v : Value} {L : List Lgr} {H : List Hnd} {q : Int} (s t : ByteArray) (h : TreeIn w B v L H q) (hB : B ≤ w.heap.size) (hz : t.size ≤ maxTxt) :
    Calls Try.prog 32 #[v, .string s, .string t] w (TreePostO w (lgrX L H q s.data.toList (addHL t.data.toList))) := by
  obtain ⟨A1, n1, k1, A2, n2, k2, rfl⟩ := h.form
  have HW := hid (show Below w.heap.size w (((w.alloc (.cells #[.slice A1 n1 k1, .slice A2 n2 k2, .int .i64 q] 32)).alloc (.cells #[.string t] 9)).alloc (.cells #[.slice none 0 0, .slice none 0 0, .int .i64 0] 32)) from (((Below.refl _ _).alloc (Nat.le_refl _) _).alloc (by simp) _).alloc (by simp; omega) _)
  have KT := hid (((Blk.new w #[.slice A1 n1 k1, .slice A2 n2 k2, .int .i64 q] 32).alloc (.cells #[.string t] 9)).alloc (.cells #[.slice none 0 0, .slice none 0 0, .int .i64 0] 32))
  have KQ := hid ((Blk.new (w.alloc (.cells #[.slice A1 n1 k1, .slice A2 n2 k2, .int .i64 q] 32)) #[.string t] 9).alloc (.cells #[.slice none 0 0, .slice none 0 0, .int .i64 0] 32))
  have KR := hid (Blk.new ((w.alloc (.cells #[.slice A1 n1 k1, .slice A2 n2 k2, .int .i64 q] 32)).alloc (.cells #[.string t] 9)) #[.slice none 0 0, .slice none 0 0, .int .i64 0] 32)
  simp only [World.size_alloc] at KQ KR
  have hsz3 : (((w.alloc (.cells #[.slice A1 n1 k1, .slice A2 n2 k2, .int .i64 q] 32)).alloc (.cells #[.string t] 9)).alloc (.cells #[.slice none 0 0, .slice none 0 0, .int .i64 0] 32)).heap.size = w.heap.size + 3 := by simp
  have hmf : ∀ (fn : Fn) (first cap : Array Value) (w : World), (Instr.makeFunc fn first cap).run Try.prog w = .ok (.func fn first cap) w := fun _ _ _ _ => rfl
  have CQ := hid (implChangedLoggerH_c s 72 (.pointer (some ⟨w.heap.size + 1, 0, none⟩)) (f := addHL t.data.toList) (h.below HW.out hB) (Nat.le_trans hB HW.out.size)
      (fun w2 k bf ba hW2 hk hok _ hbf hba W lo bc v1 v2 rs hp => attClo_c (bl := w.heap.size + 1) t hk hok hz hbf hba ((KQ.out.to hW2).2 0 _ rfl).1 W lo bc v1 v2 rs hp))
  generalize lgrX L H q s.data.toList (addHL t.data.toList) = X at *
  have d0 := (KT.out.2 0 _ rfl).1
  have d1 := (KT.out.2 1 _ rfl).1
  have d2 := (KT.out.2 2 _ rfl).1
  clear h
  go_enter Try.func32, Try.ntmps32
  go_wp2_with fail
  refine (CQ.out).mono ?_
  rintro e w3 ⟨v', rs, rfl, hs, hr, hb3⟩
  obtain ⟨u1, u2, ls, hs', rfl, hL, hH, rfl⟩ := hs
  have KR3 := hid (KR.out.to hb3)
  have HB3 := hid (HW.out.trans (hb3.mono HW.out.size))
  have HR3 := hid (hr.base (show w.heap.size + 3 ≤ _ by rw [hsz3]; exact Nat.le_refl _))
  have HS3 := hid (show TreeS (treeRows ls.length u1 ls hs'.length u2 hs') (.agg #[u1, u2, .int .i64 (resQ X)]) (resL X) (resH X) (resQ X) from ⟨u1, u2, ls, hs', rfl, hL, hH, rfl⟩)
  obtain ⟨hl, hh⟩ := hr.lsIn
  obtain ⟨A5, c5, rfl, _, _⟩ := hl.1.form
  obtain ⟨A4, c4, rfl, _, _⟩ := hh.1.form
  generalize hq0 : resQ X = q0 at *
  generalize hi0 : X.isSome = i0 at *
  have HI := hid hi0
  have HQ0 := hid hq0
  clear hq0 hi0 hb3 hr hl hh hL hH d0 d1 d2
  obtain ⟨q0c, q0f⟩ := KR3.out.2 0 _ rfl
  obtain ⟨q1c, q1f⟩ := KR3.out.2 1 _ rfl
  obtain ⟨q2c, q2f⟩ := KR3.out.2 2 _ rfl
  go_wp2_with fail
  have RB := ((KR3.out.set 0 (.slice A5 ls.length c5)).set 1 (.slice A4 hs'.length c4)).set 2 (.int .i64 q0)
  have f0 := (RB.2 0 _ rfl).1
  have f1 := (RB.2 1 _ rfl).1
  have f2 := (RB.2 2 _ rfl).1
  refine bodyPost_ret (v := .tuple #[.agg #[.slice A5 ls.length c5, .slice A4 hs'.length c4, .int .i64 q0], .bool i0]) (by simp [results, Try.results32, go_sem, f0, f1, f2]) rfl ?_
  refine ⟨_, _, by rw [HI.out], (by rw [HQ0.out]; exact HS3.out), ?_, ?_⟩
  · refine Rows.base ?_ (show w.heap.size ≤ w.heap.size + 3 by omega)
    iterate 3 refine Rows.low ?_ (by omega)
    exact HR3.out
  · iterate 3 refine Below.setCell ?_ (by simp; try omega) _
    exact HB3.out

set_option maxHeartbeats 8000000 in
set_option maxRecDepth 100000 in
theorem specAttachHandler_c {w : World} {B : Nat} {v : Value} {L : List Lgr} {H : List Hnd} {q : Int} (s t : ByteArray) (h : TreeIn w B v L H q) (hB : B ≤ w.heap.size) (hzt : t.size ≤ maxTxt) :
    Calls Try.prog 31 #[v, .string s, .string t] w (TreePostO w (lgrX L H q s.data.toList (addHL t.data.toList))) := by
  have C := hid (fun (W : World) (hW : Below w.heap.size w W) => specTreeX_c (h.below hW hB) (Nat.le_trans hB hW.size))
  have CC := hid (fun (hz : treeOk L H q = true) (W : World) (hW : Below w.heap.size w W) => specCopy_c (h.below hW hB) hz (Nat.le_trans hB hW.size))
  obtain ⟨ls0, hs0, ⟨A1, n1, k1, A2, n2, k2, rfl, hl0, hh0, _⟩, hL0, hH0⟩ := h
  have AT := fun (W : World) (hW : Below w.heap.size w W) => loggerAt_c (.slice A1 n1 k1) n1 B ls0 s W (hl0.below hW hB)
  have ATH := fun (W : World) (hW : Below w.heap.size w W) => handlerAt_c (.slice A2 n2 k2) n2 B hs0 t W (hh0.below hW hB)
  rw [show lnames ls0 = namesOf L by rw [← hL0, namesOf_ls]] at AT
  rw [show hnames hs0 = hnm H by rw [hnames_hnm, hH0]] at ATH
  clear hl0 hh0 hL0 hH0
  cases hz : treeOk L H q with
  | false =>
    have HE := hid (att_bad s.data.toList (addHL t.data.toList) hz)
    generalize idxL (namesOf L) s.data.toList = z at AT
    replace AT := hid AT
    rw [hz] at C
    clear hz CC ATH
    go_enter Try.func31, Try.ntmps31
    go_wp2_with (go_at_call 69; refine (AT.out _ (by go_grown)).mono ?_; rintro e w2 ⟨rfl, hw2⟩; have hw2 := hw2.symm; subst hw2)
    refine (C.out _ ?_).mono ?_
    case refine_1 => go_grown
    rintro e w1 ⟨rfl, hb1⟩
    have K1 := ((Blk.new _ _ _).to hb1)
    simp only [World.size_alloc] at K1
    have HK1 := hid K1
    have HB1 := hid (Below.trans (by go_grown) (hb1.mono (by simp; try omega)) : Below w.heap.size w w1)
    clear hb1 K1
    obtain ⟨q0c, q0f⟩ := HK1.out.2 0 _ rfl
    obtain ⟨q1c, q1f⟩ := HK1.out.2 1 _ rfl
    obtain ⟨q2c, q2f⟩ := HK1.out.2 2 _ rfl
    go_wp2_with fail
    have RB := ((HK1.out.set 0 (.slice none 0 0)).set 1 (.slice none 0 0)).set 2 (.int .i64 0)
    have f0 := (RB.2 0 _ rfl).1
    have f1 := (RB.2 1 _ rfl).1
    have f2 := (RB.2 2 _ rfl).1
    refine bodyPost_ret (v := .tuple #[.agg #[.slice none 0 0, .slice none 0 0, .int .i64 0], .bool false]) (by simp [results, Try.results31, go_sem, f0, f1, f2]) rfl ?_
    refine postO_none HE.out rfl ?_
    iterate 3 refine Below.setCell ?_ (by simp) _
    exact HB1.out
  | true =>
   by_cases hneg : idxL (namesOf L) s.data.toList < 0
   · have HE := hid (att_noname (H := H) (q := q) (addHL t.data.toList) hneg)
     generalize idxL (namesOf L) s.data.toList = z at AT hneg
     replace AT := hid AT
     rw [hz] at C
     clear hz CC ATH
     go_enter Try.func31, Try.ntmps31
     go_wp2_with (go_at_call 69; refine (AT.out _ (by go_grown)).mono ?_; rintro e w2 ⟨rfl, hw2⟩; have hw2 := hw2.symm; subst hw2)
     refine (C.out _ ?_).mono ?_
     case refine_1 => go_grown
     rintro e w1 ⟨rfl, hb1⟩
     have K1 := ((Blk.new _ _ _).to hb1)
     simp only [World.size_alloc] at K1
     have HK1 := hid K1
     have HB1 := hid (Below.trans (by go_grown) (hb1.mono (by simp; try omega)) : Below w.heap.size w w1)
     clear hb1 K1
     obtain ⟨q0c, q0f⟩ := HK1.out.2 0 _ rfl
     obtain ⟨q1c, q1f⟩ := HK1.out.2 1 _ rfl
     obtain ⟨q2c, q2f⟩ := HK1.out.2 2 _ rfl
     go_wp2_with fail
     have RB := ((HK1.out.set 0 (.slice none 0 0)).set 1 (.slice none 0 0)).set 2 (.int .i64 0)
     have f0 := (RB.2 0 _ rfl).1
     have f1 := (RB.2 1 _ rfl).1
     have f2 := (RB.2 2 _ rfl).1
     refine bodyPost_ret (v := .tuple #[.agg #[.slice none 0 0, .slice none 0 0, .int .i64 0], .bool false]) (by simp [results, Try.results31, go_sem, f0, f1, f2]) rfl ?_
     refine postO_none HE.out rfl ?_
     iterate 3 refine Below.setCell ?_ (by simp) _
     exact HB1.out
   · obtain ⟨k, hzk⟩ : ∃ k : Nat, idxL (namesOf L) s.data.toList = (k : Int) := ⟨_, (Int.toNat_of_nonneg (by omega)).symm⟩
     have hkl : k < L.length := by have := (idx_nat hzk).1; simpa [namesOf] using this
     obtain ⟨l0, hl0⟩ : ∃ l, L[k]? = some l := ⟨_, List.getElem?_eq_getElem hkl⟩
     have HE := hid (att_at (t := t.data.toList) hz hzk hl0)
     rw [hzk] at AT
     replace AT := hid AT
     have sk : ¬ (k : Int) < 0 := by omega
     by_cases hnh : idxL (hnm H) t.data.toList < 0
     · have HN := hid (show lgrX L H q s.data.toList (addHL t.data.toList) = none by rw [HE.out, if_neg ((idx_neg _ _).1 hnh)])
       generalize idxL (hnm H) t.data.toList = z at ATH hnh
       replace ATH := hid ATH
       rw [hz] at C
       clear hz CC hneg hzk HE hl0
       go_enter Try.func31, Try.ntmps31
       go_wp2_with (go_at_call 69; refine (AT.out _ (by go_grown)).mono ?_; rintro e w2 ⟨rfl, hw2⟩; have hw2 := hw2.symm; subst hw2)
       refine (C.out _ ?_).mono ?_
       case refine_1 => go_grown
       rintro e w1 ⟨rfl, hb1⟩
       have K0 := (((Blk.new _ _ _).alloc _).to hb1)
       have K1 := ((Blk.new _ _ _).to hb1)
       simp only [World.size_alloc] at K0 K1
       have HK0 := hid K0
       have HK1 := hid K1
       have HB1 := hid (Below.trans (by go_grown) (hb1.mono (by simp; try omega)) : Below w.heap.size w w1)
       have d1 := (HK0.out.2 1 _ rfl).1
       clear hb1 K0 K1
       obtain ⟨q0c, q0f⟩ := HK1.out.2 0 _ rfl
       obtain ⟨q1c, q1f⟩ := HK1.out.2 1 _ rfl
       obtain ⟨q2c, q2f⟩ := HK1.out.2 2 _ rfl
       go_wp2_with (go_at_call 65; refine (ATH.out _ HB1.out).mono ?_; rintro e w2 ⟨rfl, hw2⟩; have hw2 := hw2.symm; subst hw2)
       have RB := ((HK1.out.set 0 (.slice none 0 0)).set 1 (.slice none 0 0)).set 2 (.int .i64 0)
       have f0 := (RB.2 0 _ rfl).1
       have f1 := (RB.2 1 _ rfl).1
       have f2 := (RB.2 2 _ rfl).1
       refine bodyPost_ret (v := .tuple #[.agg #[.slice none 0 0, .slice none 0 0, .int .i64 0], .bool false]) (by simp [results, Try.results31, go_sem, f0, f1, f2]) rfl ?_
       refine postO_none HN.out rfl ?_
       iterate 3 refine Below.setCell ?_ (by simp) _
       exact HB1.out
     · have HN := hid (show lgrX L H q s.data.toList (addHL t.data.toList) = some (updL L k (addHL t.data.toList), H, q) by rw [HE.out, if_pos (Classical.byContradiction fun h => hnh ((idx_neg _ _).2 h))])
       generalize idxL (hnm H) t.data.toList = z at ATH hnh
       replace ATH := hid ATH
       obtain ⟨_, _, _, h8, _, _⟩ := tree_names hz
       have HND := hid (fun (l : Lgr) (hl : l ∈ L) => (tree_nodup hz hl).2)
       have HFT := hid (fun (l : Lgr) (hl : l ∈ L) => ((fit_ok hz).1.2 l hl).2.1.2)
       replace CC := hid (CC.out hz)
       rw [hz] at C
       clear hz hneg hzk HE hl0
       go_enter Try.func31, Try.ntmps31
       go_wp2_with (go_at_call 69; refine (AT.out _ (by go_grown)).mono ?_; rintro e w2 ⟨rfl, hw2⟩; have hw2 := hw2.symm; subst hw2)
       refine (C.out _ ?_).mono ?_
       case refine_1 => go_grown
       rintro e w1 ⟨rfl, hb1⟩
       have K0 := (((Blk.new _ _ _).alloc _).to hb1)
       have K1 := ((Blk.new _ _ _).to hb1)
       simp only [World.size_alloc] at K0 K1
       have HK0 := hid K0
       have HK1 := hid K1
       have HB1 := hid (Below.trans (by go_grown) (hb1.mono (by simp; try omega)) : Below w.heap.size w w1)
       have hsz1 : w.heap.size + 2 ≤ w1.heap.size := by have := hb1.size; simp at this; omega
       have d0 := (HK0.out.2 0 _ rfl).1
       have d1 := (HK0.out.2 1 _ rfl).1
       have d2 := (HK0.out.2 2 _ rfl).1
       clear hb1 K0 K1
       go_wp2_with (go_at_call 65; refine (ATH.out _ HB1.out).mono ?_; rintro e w2 ⟨rfl, hw2⟩; have hw2 := hw2.symm; subst hw2)
       refine (CC.out _ HB1.out).mono ?_
       rintro e w2 ⟨v', rs, rfl, hs, hr, hb2⟩
       obtain ⟨u1, u2, ls2, hs', rfl, h1, h2, rfl⟩ := hs
       have hll : ls2.length = L.length := by rw [← h1]; simp [lsOf]
       obtain ⟨hl, hh⟩ := hr.lsIn
       obtain ⟨A3, c3, rfl, hnc3, hcm3⟩ := hl.1.form
       obtain ⟨A4, c, rfl, hnc, hcm⟩ := hh.1.form
       rw [treeRows_eq] at hr
       have hr0 : Rows w2 w1.heap.size ([] ++ two 65 6 ls2.length (.slice A3 ls2.length c3) lcells lrows ls2 ++ two 49 3 hs'.length (.slice A4 hs'.length c) hcells hrows hs') := by simpa using hr
       obtain ⟨g, rfl, hglt⟩ := own_some hr0.top (by omega)
       have hgl : w1.heap.size ≤ g := (hr0.top.lt g rfl).1
       obtain ⟨x, hx⟩ : ∃ x, ls2[k]? = some x := ⟨_, List.getElem?_eq_getElem (by omega)⟩
       have hlx2 : L[k]? = some x.l := by rw [← h1]; unfold lsOf; rw [List.getElem?_map, hx]; rfl
       have HBA := hid (show Below w2.heap.size w2 (w2.alloc (.cells #[.slice (some ⟨g, 0, none⟩) ls2.length c3, .slice A4 hs'.length c, .int .i64 q] 32)) from (Below.refl _ _).alloc (Nat.le_refl _) _)
       have hRa := hr0.below HBA.out
       have hsz12 : w1.heap.size ≤ w2.heap.size := hb2.size
       have hww1 : w.heap.size ≤ w1.heap.size := HB1.out.size
       have hgo : g ≠ w2.heap.size := by omega
       have HKO := hid (Blk.new w2 #[.slice (some ⟨g, 0, none⟩) ls2.length c3, .slice A4 hs'.length c, .int .i64 q] 32)
       have HK2 := hid ((HK1.out.to hb2).alloc (.cells #[.slice (some ⟨g, 0, none⟩) ls2.length c3, .slice A4 hs'.length c, .int .i64 q] 32))
       have HB2 := hid ((show Below w1.heap.size w1 w2 from hb2).trans (HBA.out.mono hb2.size))
       have HLH := hid (And.intro h1 h2)
       have HX := hid (And.intro hx hlx2)
       have hxn0 := HND.out x.l (List.mem_of_getElem? hlx2)
       have hft := HFT.out x.l (List.mem_of_getElem? hlx2)
       generalize hN : ls2.length = n at *
       have HNn := hid hN
       have t1 : (k : Int) < (n : Int) := by omega
       have t0 : (0 : Int) ≤ (k : Int) := by omega
       have t2 : ((k : Int)).toNat = k := by simp
       have hn8 : n ≤ 8 := by omega
       unfold maxLen at hcm3
       generalize hw3 : w2.alloc (.cells #[.slice (some ⟨g, 0, none⟩) n c3, .slice A4 hs'.length c, .int .i64 q] 32) = w3 at *
       generalize hbo : w2.heap.size = bo at *
       have own6 : w3.ownsRow w1.heap.size 9 1 x.hv x.hn (x.l.hs.map txt) := hRa.sub_ hx (r := ⟨9, 1, x.hn, x.hv, x.l.hs.map txt⟩) (by simp [lrows])
       have o2 := hRa.cell_at (j := 2) lcells_len hx rfl
       have hgx := two_apartA hRa hx
       have hxn : x.hn ≤ 6 := by have := own6.1; simp at this; omega
       have CK := hasText_c x.hv x.hn w3.heap.size x.l.hs t w3 ⟨Sl.of_own own6, hft⟩
       obtain ⟨A6, c6, e6, _, _⟩ := (Sl.of_own own6).form
       have m0 : w3.cell? ⟨g, k * 6 + 2, none⟩ = some (.slice A6 x.hn c6) := by rw [← e6]; exact o2.1
       rw [e6] at CK
       have hgw : g < w3.heap.size := World.block_lt_of_cell? _ _ m0
       have hszr : w1.heap.size ≤ w3.heap.size := HB2.out.size
       have c0 := (HKO.out.2 0 _ rfl).1
       have hbow : bo < w3.heap.size := HKO.out.1
       by_cases hin : t.data.toList ∈ x.l.hs
       · rw [decide_eq_true hin] at CK
         have HA := hid (addHL_in hin)
         have HRa := hid hRa
         replace CK := hid CK
         have b1 := (HKO.out.2 1 _ rfl).1
         have b2 := (HKO.out.2 2 _ rfl).1
         clear hb2 hr hr0 hl hh h1 h2 hll hx hlx2 hN own6 o2 e6 hRa d0 d1 d2 h8 hxn0 hnc hin hft hgx
         obtain ⟨q0c, q0f⟩ := HK2.out.2 0 _ rfl
         obtain ⟨q1c, q1f⟩ := HK2.out.2 1 _ rfl
         obtain ⟨q2c, q2f⟩ := HK2.out.2 2 _ rfl
         go_wp2_with fail
         refine (CK.out).mono ?_
         rintro e w9 ⟨rfl, hw9⟩
         have hw9 := hw9.symm
         subst hw9
         go_wp2_with fail
         have RB := ((HK2.out.set 0 (.slice (some ⟨g, 0, none⟩) n c3)).set 1 (.slice A4 hs'.length c)).set 2 (.int .i64 q)
         have f0 := (RB.2 0 _ rfl).1
         have f1 := (RB.2 1 _ rfl).1
         have f2 := (RB.2 2 _ rfl).1
         refine bodyPost_ret (v := .tuple #[.agg #[.slice (some ⟨g, 0, none⟩) n c3, .slice A4 hs'.length c, .int .i64 q], .bool true]) (by simp [results, Try.results31, go_sem, f0, f1, f2]) rfl ?_
         rw [HN.out]
         refine ⟨_, treeRows ls2.length _ ls2 hs'.length _ hs', rfl, ⟨_, _, ls2, hs', rfl, ?_, HLH.out.2, rfl⟩, ?_, ?_⟩
         · show lsOf ls2 = updL L k _
           rw [HLH.out.1]
           unfold updL
           rw [HX.out.2]
           show L = L.set k (addHL t.data.toList x.l)
           rw [HA.out]
           exact (nm_setA HX.out.2).symm
         · refine Rows.base ?_ hww1
           iterate 3 refine Rows.low ?_ (by omega)
           rw [treeRows_eq, HNn.out]
           simpa using HRa.out
         · iterate 3 refine Below.setCell ?_ (by simp) _
           exact HB1.out.trans (HB2.out.mono hww1)
       · rw [decide_eq_false hin] at CK
         have HA := hid (addHL_out hin)
         replace CK := hid CK
         obtain ⟨i0, hi, hz0, hz1, hz2⟩ := info_parts Try.infoStr
         obtain ⟨v', w4, hrun, ho4, hg4, hloc⟩ := run_app1P (P := Try.prog) w3.drew 27 w1.heap.size 9 i0 _ 1 16 Try.underlying27 hi hz0 hz1 hz2 rfl (by decide) _ x.hn _ own6.drew [.string t] 9 rfl (one_cell rfl) (by unfold maxLen; omega) (by omega) hszr
         rw [e6] at hrun hg4 hloc
         obtain ⟨A7, c7, rfl, _, _⟩ := (Sl.of_own ho4).form
         have hgb : some g ≠ (Value.slice A6 x.hn c6).ownBlock := by rw [← e6]; exact hgx
         have m1 : w4.cell? ⟨g, k * 6 + 2, none⟩ = some (.slice A6 x.hn c6) := (World.cell?_of_block (hg4.block g hgw hgb)).trans m0
         have f1 : w4.frozen? ⟨g, k * 6 + 2, none⟩ = false := (World.frozen?_of_block (hg4.block g hgw hgb)).trans o2.2
         have hHI : ∀ z, (Value.slice A6 x.hn c6).ownBlock = some z → w1.heap.size ≤ z ∧ z < w3.heap.size := fun z hz => (own6.lt z (by rw [e6]; exact hz))
         have hxb : some bo ≠ (Value.slice A6 x.hn c6).ownBlock := fun e => by
           have h9 := hr0.sub_ hx (r := ⟨9, 1, x.hn, x.hv, x.l.hs.map txt⟩) (by simp [lrows])
           have := (h9.lt bo (by show x.hv.ownBlock = some bo; rw [e6]; exact e.symm)).2
           omega
         have hxz : some (w.heap.size + 1) ≠ (Value.slice A6 x.hn c6).ownBlock := fun e => by have := (hHI _ e.symm).1; omega
         have HR4 := hid ((hRa.below ((Below.refl _ _).drew)).rowcell3 (w' := w4) (i := k) (j := 0) (q := 2) (e := 2) (x := x) (y := ⟨addHL t.data.toList x.l, .slice A7 (x.hn + 1) c7, x.hn + 1, x.fv, x.fn⟩)
           (r := ⟨9, 1, x.hn, x.hv, x.l.hs.map txt⟩) (r' := ⟨9, 1, x.hn + 1, .slice A7 (x.hn + 1) c7, x.l.hs.map txt ++ [Value.string t]⟩) (u := .slice A7 (x.hn + 1) c7)
           lcells_len lrows_len hx (by omega) rfl (by show World.grownBy _ _ x.hv.ownBlock; rw [e6]; exact hg4) ho4 (fun z hz => by
             rcases hloc with h0 | h0
             · exact .inl (by show x.hv.ownBlock = some z; rw [e6, ← h0]; exact hz)
             · right
               have h9 : some z = some (w3.drew.heap.size + 1) := hz.symm.trans h0
               have := Option.some.inj h9
               omega) (by omega) (by rw [HA.out]; rfl) (by rw [HA.out]; show [(⟨_, _, _, _, (x.l.hs ++ [t.data.toList]).map txt⟩ : Row), _] = _; rw [List.map_append, List.map_singleton, txt_data]; rfl))
         have HB4 := hid (show Below w1.heap.size w1 w4 from (HB2.out.drew).grown hg4 hszr (fun z hz => (hHI z hz).1))
         have HKo4 := hid (((HKO.out.dr 1).kept hg4 hxb))
         have HKo5 := hid (HKo4.out.apart ⟨g, k * 6 + 2, none⟩ (.slice A7 (x.hn + 1) c7) hgo)
         have HKz4 := hid (((HK2.out.dr 1).kept hg4 hxz).apart ⟨g, k * 6 + 2, none⟩ (.slice A7 (x.hn + 1) c7) (show g ≠ w.heap.size + 1 by omega))
         have HB5 := hid (HB1.out.trans ((HB4.out.setCell (p := ⟨g, k * 6 + 2, none⟩) hgl (.slice A7 (x.hn + 1) c7)).mono hww1))
         have HRun := hid hrun
         clear hb2 hr hr0 hl hh h1 h2 hll hx hlx2 hN own6 o2 e6 hRa d0 d1 d2 h8 hxn0 hnc hin hft hgx hrun ho4 hg4 hloc hgb hHI hxb hxz
         go_wp2_with fail
         refine (CK.out).mono ?_
         rintro e w9 ⟨rfl, hw9⟩
         have hw9 := hw9.symm
         subst hw9
         go_wp2_with fail
         refine wp_region_let 14 (fun w' : World => w'.cell? ⟨bo, 0, none⟩ = some (.slice (some ⟨g, 0, none⟩) n c3)) (fun w' : World => w'.cell? ⟨g, k * 6 + 2, none⟩ = some (.slice A6 x.hn c6)) (by kernel_rfl) c0 m0 (fun hS => ?_)
         refine wpAnyL_take (i := 0) (oi := ?oi134) (v := ?v134) ?hi134 (by kernel_rfl) ?hf134 ?hr134 (by decide) ?hQ134 (Or.inl ⟨?hw134, ?hy134⟩) (⟨hS.1, fun h => hS.2 (by first | rfl | exact h)⟩) ?rest134
         case hi134 => simp only [List.getElem?_toArray, List.getElem?_cons_succ, List.getElem?_cons_zero]; rfl
         case hf134 => kernel_rfl
         case hr134 => kernel_rfl
         case hw134 => rfl
         case hy134 => (intro w hSw; (try dsimp only at hSw); go_simp; all_goals (first | done | with_reducible rfl))
         case hQ134 => exact fun _ _ _ h => h
         simp only [Act.put, List.setIfInBounds_toArray, List.set_cons_zero, List.set_cons_succ]
         refine wpAnyL_take (i := 1) (oi := ?oi135) (v := ?v135) ?hi135 (by kernel_rfl) ?hf135 ?hr135 (by decide) ?hQ135 (Or.inl ⟨?hw135, ?hy135⟩) (⟨hS.1, fun h => hS.2 (by first | rfl | exact h)⟩) ?rest135
         case hi135 => simp only [List.getElem?_toArray, List.getElem?_cons_succ, List.getElem?_cons_zero]; rfl
         case hf135 => kernel_rfl
         case hr135 => kernel_rfl
         case hw135 => rfl
         case hy135 => (intro w hSw; (try dsimp only at hSw); go_simp; all_goals (first | done | with_reducible rfl))
         case hQ135 => exact fun _ _ _ h => h
         simp only [Act.put, List.setIfInBounds_toArray, List.set_cons_zero, List.set_cons_succ]
         refine wpAnyL_take (i := 2) (oi := ?oi136) (v := ?v136) ?hi136 (by kernel_rfl) ?hf136 ?hr136 (by decide) ?hQ136 (Or.inl ⟨?hw136, ?hy136⟩) (⟨hS.1, fun h => hS.2 (by first | rfl | exact h)⟩) ?rest136
         case hi136 => simp only [List.getElem?_toArray, List.getElem?_cons_succ, List.getElem?_cons_zero]; rfl
         case hf136 => kernel_rfl
         case hr136 => kernel_rfl
         case hw136 => rfl
         case hy136 => (intro w hSw; (try dsimp only at hSw); go_simp; all_goals (first | done | with_reducible rfl))
         case hQ136 => exact fun _ _ _ h => h
         simp only [Act.put, List.setIfInBounds_toArray, List.set_cons_zero, List.set_cons_succ]
         refine wpAnyL_take (i := 3) (oi := ?oi137) (v := ?v137) ?hi137 (by kernel_rfl) ?hf137 ?hr137 (by decide) ?hQ137 (Or.inl ⟨?hw137, ?hy137⟩) (⟨hS.1, fun h => hS.2 (by first | rfl | exact h)⟩) ?rest137
         case hi137 => simp only [List.getElem?_toArray, List.getElem?_cons_succ, List.getElem?_cons_zero]; rfl
         case hf137 => kernel_rfl
         case hr137 => kernel_rfl
         case hw137 => rfl
         case hy137 => (intro w hSw; (try dsimp only at hSw); go_simp; all_goals (first | done | with_reducible rfl))
         case hQ137 => exact fun _ _ _ h => h
         simp only [Act.put, List.setIfInBounds_toArray, List.set_cons_zero, List.set_cons_succ]
         refine wpAnyL_take (i := 4) (oi := ?oi138) (v := ?v138) ?hi138 (by kernel_rfl) ?hf138 ?hr138 (by decide) ?hQ138 (Or.inl ⟨?hw138, ?hy138⟩) (⟨hS.1, fun h => hS.2 (by first | rfl | exact h)⟩) ?rest138
         case hi138 => simp only [List.getElem?_toArray, List.getElem?_cons_succ, List.getElem?_cons_zero]; rfl
         case hf138 => kernel_rfl
         case hr138 => kernel_rfl
         case hw138 => rfl
         case hy138 => (intro w hSw; (try dsimp only at hSw); go_simp; all_goals (first | done | with_reducible rfl))
         case hQ138 => exact fun _ _ _ h => h
         simp only [Act.put, List.setIfInBounds_toArray, List.set_cons_zero, List.set_cons_succ]
         refine wpAnyL_take (i := 5) (oi := ?oi139) (v := ?v139) ?hi139 (by kernel_rfl) ?hf139 ?hr139 (by decide) ?hQ139 (Or.inl ⟨?hw139, ?hy139⟩) (⟨hS.1, fun h => hS.2 (by first | rfl | exact h)⟩) ?rest139
         case hi139 => simp only [List.getElem?_toArray, List.getElem?_cons_succ, List.getElem?_cons_zero]; rfl
         case hf139 => kernel_rfl
         case hr139 => kernel_rfl
         case hw139 => rfl
         case hy139 => (intro w hSw; (try dsimp only at hSw); go_simp; all_goals (first | done | with_reducible rfl))
         case hQ139 => exact fun _ _ _ h => h
         simp only [Act.put, List.setIfInBounds_toArray, List.set_cons_zero, List.set_cons_succ]
         refine wpAnyL_take (i := 6) (oi := ?oi140) (v := ?v140) ?hi140 (by kernel_rfl) ?hf140 ?hr140 (by decide) ?hQ140 (Or.inl ⟨?hw140, ?hy140⟩) (⟨hS.1, fun h => hS.2 (by first | rfl | exact h)⟩) ?rest140
         case hi140 => simp only [List.getElem?_toArray, List.getElem?_cons_succ, List.getElem?_cons_zero]; rfl
         case hf140 => kernel_rfl
         case hr140 => kernel_rfl
         case hw140 => rfl
         case hy140 => (intro w hSw; (try dsimp only at hSw); go_simp; all_goals (first | done | with_reducible rfl))
         case hQ140 => exact fun _ _ _ h => h
         simp only [Act.put, List.setIfInBounds_toArray, List.set_cons_zero, List.set_cons_succ]
         refine wpAnyL_take (i := 7) (oi := ?oi141) (v := ?v141) ?hi141 (by kernel_rfl) ?hf141 ?hr141 (by decide) ?hQ141 (Or.inl ⟨?hw141, ?hy141⟩) (⟨hS.1, fun h => hS.2 (by first | rfl | exact h)⟩) ?rest141
         case hi141 => simp only [List.getElem?_toArray, List.getElem?_cons_succ, List.getElem?_cons_zero]; rfl
         case hf141 => kernel_rfl
         case hr141 => kernel_rfl
         case hw141 => rfl
         case hy141 => (intro w hSw; (try dsimp only at hSw); go_simp; all_goals (first | done | with_reducible rfl))
         case hQ141 => exact fun _ _ _ h => h
         simp only [Act.put, List.setIfInBounds_toArray, List.set_cons_zero, List.set_cons_succ]
         refine wpAnyL_take (i := 9) (oi := ?oi142) (v := ?v142) ?hi142 (by kernel_rfl) ?hf142 ?hr142 (by decide) ?hQ142 (Or.inl ⟨?hw142, ?hy142⟩) (⟨hS.1, fun h => hS.2 (by first | rfl | exact h)⟩) ?rest142
         case hi142 => simp only [List.getElem?_toArray, List.getElem?_cons_succ, List.getElem?_cons_zero]; rfl
         case hf142 => kernel_rfl
         case hr142 => kernel_rfl
         case hw142 => rfl
         case hy142 => (intro w hSw; (try dsimp only at hSw); go_simp; all_goals (first | done | with_reducible rfl))
         case hQ142 => exact fun _ _ _ h => h
         simp only [Act.put, List.setIfInBounds_toArray, List.set_cons_zero, List.set_cons_succ]
         refine wpAnyL_take1 (i := 8) (oi := ?oi143) (om := ?om143) (v := ?v143) ?hi143 (by kernel_rfl) ?hf143 ?hr143 (by decide) ?hm143 ?hd143 (by rfl) ?hQ143 (Or.inl ⟨?hw143, ?hy143⟩) (⟨hS.1, fun h => hS.2 (by first | rfl | exact h)⟩) ?rest143
         case hi143 => simp only [List.getElem?_toArray, List.getElem?_cons_succ, List.getElem?_cons_zero]; rfl
         case hm143 => simp only [List.getElem?_toArray, List.getElem?_cons_succ, List.getElem?_cons_zero]; rfl
         case hd143 => kernel_rfl
         case hf143 => kernel_rfl
         case hr143 => kernel_rfl
         case hw143 => rfl
         case hy143 => (intro w hSw; (try dsimp only at hSw); go_simp; all_goals (first | done | with_reducible rfl))
         case hQ143 => exact fun _ _ _ h => h
         simp only [Act.put, List.setIfInBounds_toArray, List.set_cons_zero, List.set_cons_succ]
         refine wpAnyL_ready (rs := [10]) (by kernel_rfl) (by simp) ?_
         refine AllReadyL.cons (o := ?oi144) ?hi144 (fun K hK => ?step144) AllReadyL.nil
         case hi144 => simp only [List.getElem?_toArray, List.getElem?_cons_succ, List.getElem?_cons_zero]; rfl
         rw [if_pos (by rfl)]
         go_simp
         refine hK.out _ _ ⟨(World.cell?_alloc_past _ _ _ hbow).trans c0, fun _ => (World.cell?_alloc_past _ _ _ hgw).trans m0⟩ (fun hS => ?_)
         refine wpAnyL_ready (rs := [11]) (by kernel_rfl) (by simp) ?_
         refine AllReadyL.cons (o := ?oi145) ?hi145 (fun K hK => ?step145) AllReadyL.nil
         case hi145 => simp only [List.getElem?_toArray, List.getElem?_cons_succ, List.getElem?_cons_zero]; rfl
         rw [if_pos (by rfl)]
         refine wp_app rfl (by rfl) (by rfl) HRun.out ?_
         refine hK.out _ _ ⟨(HKo4.out.2 0 _ rfl).1, fun _ => m1⟩ (fun hS => ?_)
         simp only [Act.put, List.setIfInBounds_toArray, List.set_cons_zero, List.set_cons_succ]
         refine wpAnyL_take (i := 12) (oi := ?oi146) (v := ?v146) ?hi146 (by kernel_rfl) ?hf146 ?hr146 (by decide) ?hQ146 (Or.inl ⟨?hw146, ?hy146⟩) (⟨hS.1, fun h => hS.2 (by first | rfl | exact h)⟩) ?rest146
         case hi146 => simp only [List.getElem?_toArray, List.getElem?_cons_succ, List.getElem?_cons_zero]; rfl
         case hf146 => kernel_rfl
         case hr146 => kernel_rfl
         case hw146 => rfl
         case hy146 => (intro w hSw; (try dsimp only at hSw); go_simp; all_goals (first | done | with_reducible rfl))
         case hQ146 => exact fun _ _ _ h => h
         simp only [Act.put, List.setIfInBounds_toArray, List.set_cons_zero, List.set_cons_succ]
         refine wpAnyL_take (i := 13) (oi := ?oi147) (v := ?v147) ?hi147 (by kernel_rfl) ?hf147 ?hr147 (by decide) ?hQ147 (Or.inl ⟨?hw147, ?hy147⟩) (⟨hS.1, fun h => hS.2 (by first | rfl | exact h)⟩) ?rest147
         case hi147 => simp only [List.getElem?_toArray, List.getElem?_cons_succ, List.getElem?_cons_zero]; rfl
         case hf147 => kernel_rfl
         case hr147 => kernel_rfl
         case hw147 => rfl
         case hy147 => (intro w hSw; (try dsimp only at hSw); go_simp; all_goals (first | done | with_reducible rfl))
         case hQ147 => exact fun _ _ _ h => h
         simp only [Act.put, List.setIfInBounds_toArray, List.set_cons_zero, List.set_cons_succ]
         refine wpAnyL_ready (rs := [14]) (by kernel_rfl) (by simp) ?_
         refine AllReadyL.cons (o := ?oi148) ?hi148 (fun K hK => ?step148) AllReadyL.nil
         case hi148 => simp only [List.getElem?_toArray, List.getElem?_cons_succ, List.getElem?_cons_zero]; rfl
         rw [if_pos (by rfl)]
         go_simp
         refine hK.out _ _ ⟨(HKo5.out.2 0 _ rfl).1, fun h => absurd h (by decide)⟩ (fun hS => ?_)
         refine wpAnyL_done (by kernel_rfl) ?_ _
         clear hS m0 m1 f1 c0
         have b0 := (HKo5.out.2 0 _ rfl).1
         have b1 := (HKo5.out.2 1 _ rfl).1
         have b2 := (HKo5.out.2 2 _ rfl).1
         obtain ⟨q0c, q0f⟩ := HKz4.out.2 0 _ rfl
         obtain ⟨q1c, q1f⟩ := HKz4.out.2 1 _ rfl
         obtain ⟨q2c, q2f⟩ := HKz4.out.2 2 _ rfl
         go_wp2_with fail
         have RB := ((HKz4.out.set 0 (.slice (some ⟨g, 0, none⟩) n c3)).set 1 (.slice A4 hs'.length c)).set 2 (.int .i64 q)
         have f0 := (RB.2 0 _ rfl).1
         have f1 := (RB.2 1 _ rfl).1
         have f2 := (RB.2 2 _ rfl).1
         refine bodyPost_ret (v := .tuple #[.agg #[.slice (some ⟨g, 0, none⟩) n c3, .slice A4 hs'.length c, .int .i64 q], .bool true]) (by simp [results, Try.results31, go_sem, f0, f1, f2]) rfl ?_
         rw [HN.out]
         refine ⟨_, treeRows (ls2.set k _).length _ (ls2.set k ⟨addHL t.data.toList x.l, .slice A7 (x.hn + 1) c7, x.hn + 1, x.fv, x.fn⟩) hs'.length _ hs', rfl, ⟨_, _, ls2.set k ⟨addHL t.data.toList x.l, .slice A7 (x.hn + 1) c7, x.hn + 1, x.fv, x.fn⟩, hs', rfl, ?_, HLH.out.2, rfl⟩, ?_, ?_⟩
         · show lsOf _ = updL L k _
           unfold updL
           rw [HX.out.2, ← HLH.out.1]
           unfold lsOf
           rw [List.map_set]
         · refine Rows.base ?_ hww1
           iterate 3 refine Rows.low ?_ (by omega)
           rw [treeRows_eq, List.length_set, HNn.out]
           simpa using HR4.out
         · iterate 3 refine Below.setCell ?_ (by simp) _
           exact HB5.out
end Go.Proofs.Ytbidlmejonpadaa
