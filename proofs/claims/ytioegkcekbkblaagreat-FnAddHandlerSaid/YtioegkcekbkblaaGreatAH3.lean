/-
  A HANDLER ADDED: the closure of the program's AddHandler. By gen_ah3.py.
-/
import Derived.Test.YtioegkcekbkblaaGreatAH2
import Derived.Test.YtioegkcekbkblaaGreatUM
namespace Go.Proofs.YtioegkcekbkblaaGreat
open Go.RowKit Nm
set_option linter.unusedSimpArgs false
set_option linter.unusedVariables false

set_option maxHeartbeats 8000000 in
set_option maxRecDepth 100000 in
theorem addHdClo_c {w : World} {L : List Lgr} {H : List Hnd} {q : Int} {bh l0 fn fc : Nat} {fA : Option Addr} {fs : List Flt} (s : ByteArray) (lv : Int) (hl0 : l0 ≤ w.heap.size) (hrow : w.ownsRow l0 99 3 (.slice fA fn fc) fn (fsCells fs)) (hbh : Blk w bh [.string s, .int .i64 lv, .slice fA fn fc]) (hz : hndFit ⟨s.data.toList, lv, fs⟩) (hok : treeOk L H q = true)
    (W : World) (lo bc : Nat) (v1 v2 : Value) (rs : List Row) (hp : CloPre w lo bc W v1 v2 rs L H q) :
    Calls Tryz.prog 64 #[.pointer (some ⟨bc, 0, none⟩), .pointer (some ⟨bh, 0, none⟩)] W (CloPostL l0 w.heap.size lo bc W (some (L, H ++ [⟨s.data.toList, lv, fs⟩], q))) := by
  obtain ⟨hb, hlo, hbc, hkb, hs, hr, hap, hd⟩ := hp
  have hh6 := tree_hlen hok
  have HD := hid (show dataFit L (H ++ [⟨s.data.toList, lv, fs⟩]) from ⟨hd.1, by rw [List.length_append]; simp; unfold maxTxt; omega, fun a ha => by
    rcases List.mem_append.1 ha with ha | ha
    · exact hd.2.2 a ha
    · rw [List.mem_singleton] at ha; rw [ha]; exact hz⟩)
  obtain ⟨u1, u2, ls, hs', e, h1, h2, h3⟩ := hs
  have e' : v1 = u1 ∧ v2 = u2 := by simpa using e
  obtain ⟨rfl, rfl⟩ := e'
  subst h3
  have hlh : hs'.length = H.length := by rw [← h2]; simp [hsOf]
  obtain ⟨hl, hh⟩ := hr.lsIn
  obtain ⟨A, c, rfl, hnc, hcm⟩ := hl.1.form
  obtain ⟨A4, c4, rfl, hnc4, hcm4⟩ := hh.1.form
  clear hl hh
  have hbhw : bh < w.heap.size := hbh.1
  have hfr := own_below hrow hb
  have R0 : Rows W l0 (treeRows ls.length (.slice A ls.length c) ls hs'.length (.slice A4 hs'.length c4) hs' ++ [⟨99, 3, fn, .slice fA fn fc, fsCells fs⟩]) := by
    refine ⟨fun r h => ?_, List.pairwise_append.2 ⟨hr.2, List.pairwise_singleton _ _, fun a ha b hb' => ?_⟩⟩
    · rcases List.mem_append.1 h with h | h
      · exact own_base (hr.1 r h) (by omega)
      · rw [List.mem_singleton] at h; rw [h]; exact hfr
    · rw [List.mem_singleton] at hb'
      subst hb'
      have hne : ∀ z, a.v.ownBlock = some z → (Value.slice fA fn fc).ownBlock ≠ some z := fun z hz e9 => by
        have h8 := ((hr.1 a ha).lt z hz).1
        have h7 := (hrow.lt z e9).2
        omega
      constructor
      · cases hq : a.v.ownBlock with
        | none => exact .inl rfl
        | some z => exact .inr fun e9 => hne z hq e9.symm
      · cases hq : (Value.slice fA fn fc).ownBlock with
        | none => exact .inl rfl
        | some z => exact .inr fun e9 => hne z e9.symm hq
  have HRd := R0.below ((Below.refl _ _).drew)
  have htop : W.drew.ownsRow l0 47 3 (.slice A4 hs'.length c4) hs'.length (hs'.flatMap hcells) := HRd.1 ⟨47, 3, hs'.length, .slice A4 hs'.length c4, hs'.flatMap hcells⟩ (by rw [treeRows_eq]; simp [two])
  have hloW : lo ≤ W.heap.size := by have := hkb.1; omega
  obtain ⟨A5, c5, w4, hrun, ho4, hg4, hloc⟩ := run_addHd (fA := fA) (fn := fn) (fc := fc) W.drew s lv htop (by omega) (show l0 ≤ W.drew.heap.size from by show l0 ≤ W.heap.size; omega)
  obtain ⟨hR4, hoff⟩ := tree_addH s lv rfl HRd ho4 hg4 hloc
  have hlo4 : ∀ z, (Value.slice A4 hs'.length c4).ownBlock = some z → lo ≤ z := fun z hz => ((hr.1 ⟨47, 3, hs'.length, .slice A4 hs'.length c4, hs'.flatMap hcells⟩ (by rw [treeRows_eq]; simp [two])).lt z hz).1
  have hP := hoff (fun z => (z < w.heap.size ∨ lo ≤ z) ∧ z ≠ bc) (fun r h z hz => by
    rcases List.mem_append.1 h with h | h
    · exact ⟨.inr ((hr.1 r h).lt z hz).1, fun e9 => hap r h (by rw [← e9]; exact hz)⟩
    · rw [List.mem_singleton] at h
      subst h
      have := (hrow.lt z hz).2
      exact ⟨.inl this, by omega⟩) ⟨.inr (by show lo ≤ W.heap.size + 1; omega), by have := hkb.1; show W.heap.size + 1 ≠ bc; omega⟩
  have hne : some bc ≠ (Value.slice A4 hs'.length c4).ownBlock := fun e9 => hap ⟨47, 3, hs'.length, .slice A4 hs'.length c4, hs'.flatMap hcells⟩ (by rw [treeRows_eq]; simp [two]) e9.symm
  have hneh : some bh ≠ (Value.slice A4 hs'.length c4).ownBlock := fun e9 => by have := hlo4 bh e9.symm; omega
  have HK4 := hid ((hkb.dr 1).kept hg4 hne)
  have KH := hbh.to hb
  have HH4 := hid ((KH.dr 1).kept hg4 hneh)
  have HR5 := hid (hR4.off (j := 1) (u := .slice A5 (hs'.length + 1) c5) (fun r h e9 => (hP r h _ e9).2 rfl))
  have HOff := hid (fun r h z hz => (hP r h z hz).1)
  have HB4 := hid (show Below lo W w4 from ((Below.refl lo W).drew).grown hg4 hloW hlo4)
  have HRun := hid hrun
  have HLH := hid (And.intro h1 h2)
  have o1 : W.drew.cell? ⟨bc, 1, none⟩ = some (.slice A4 hs'.length c4) := ((hkb.dr 1).2 1 _ rfl).1
  have x0 : W.drew.cell? ⟨bh, 0, none⟩ = some (.string s) := ((KH.dr 1).2 0 _ rfl).1
  have x1 : W.drew.cell? ⟨bh, 1, none⟩ = some (.int .i64 lv) := ((KH.dr 1).2 1 _ rfl).1
  have x2 : W.drew.cell? ⟨bh, 2, none⟩ = some (.slice fA fn fc) := ((KH.dr 1).2 2 _ rfl).1
  have hbcW : bc < W.drew.heap.size := hkb.1
  have hbhW : bh < W.drew.heap.size := KH.1
  have hbb : bc ≠ bh := by omega
  clear hb hlo hr hap hd e h1 h2 hkb hrow hbh hz hok hlh R0 HRd htop hrun ho4 hg4 hloc hR4 hoff hlo4 hP hne hneh KH hfr
  go_enter Tryz.func64, Tryz.ntmps64
  go_wp2_with fail
  refine wp_region_let 10 (fun w' : World => w'.cell? ⟨bh, 0, none⟩ = some (.string s) ∧ w'.cell? ⟨bh, 1, none⟩ = some (.int .i64 lv) ∧ w'.cell? ⟨bh, 2, none⟩ = some (.slice fA fn fc)) (fun w' : World => w'.cell? ⟨bc, 1, none⟩ = some (.slice A4 hs'.length c4)) (by kernel_rfl) ⟨x0, x1, x2⟩ o1 (fun hS => ?_)
  refine wpAnyL_take (i := 0) (oi := ?oi101) (v := ?v101) ?hi101 (by kernel_rfl) ?hf101 ?hr101 (by decide) ?hQ101 (Or.inl ⟨?hw101, ?hy101⟩) (⟨hS.1, fun h => hS.2 (by first | rfl | exact h)⟩) ?rest101
  case hi101 => simp only [List.getElem?_toArray, List.getElem?_cons_succ, List.getElem?_cons_zero]; rfl
  case hf101 => kernel_rfl
  case hr101 => kernel_rfl
  case hw101 => rfl
  case hy101 => (intro w hSw; (try dsimp only at hSw); go_simp; all_goals (first | done | with_reducible rfl))
  case hQ101 => exact fun _ _ _ h => h
  simp only [Act.put, List.setIfInBounds_toArray, List.set_cons_zero, List.set_cons_succ]
  refine wpAnyL_take (i := 1) (oi := ?oi102) (v := ?v102) ?hi102 (by kernel_rfl) ?hf102 ?hr102 (by decide) ?hQ102 (Or.inl ⟨?hw102, ?hy102⟩) (⟨hS.1, fun h => hS.2 (by first | rfl | exact h)⟩) ?rest102
  case hi102 => simp only [List.getElem?_toArray, List.getElem?_cons_succ, List.getElem?_cons_zero]; rfl
  case hf102 => kernel_rfl
  case hr102 => kernel_rfl
  case hw102 => rfl
  case hy102 => (intro w hSw; (try dsimp only at hSw); go_simp; all_goals (first | done | with_reducible rfl))
  case hQ102 => exact fun _ _ _ h => h
  simp only [Act.put, List.setIfInBounds_toArray, List.set_cons_zero, List.set_cons_succ]
  refine wpAnyL_take (i := 2) (oi := ?oi103) (v := ?v103) ?hi103 (by kernel_rfl) ?hf103 ?hr103 (by decide) ?hQ103 (Or.inl ⟨?hw103, ?hy103⟩) (⟨hS.1, fun h => hS.2 (by first | rfl | exact h)⟩) ?rest103
  case hi103 => simp only [List.getElem?_toArray, List.getElem?_cons_succ, List.getElem?_cons_zero]; rfl
  case hf103 => kernel_rfl
  case hr103 => kernel_rfl
  case hw103 => rfl
  case hy103 => (intro w hSw; (try dsimp only at hSw); go_simp; all_goals (first | done | with_reducible rfl))
  case hQ103 => exact fun _ _ _ h => h
  simp only [Act.put, List.setIfInBounds_toArray, List.set_cons_zero, List.set_cons_succ]
  refine wpAnyL_take (i := 3) (oi := ?oi104) (v := ?v104) ?hi104 (by kernel_rfl) ?hf104 ?hr104 (by decide) ?hQ104 (Or.inl ⟨?hw104, ?hy104⟩) (⟨hS.1, fun h => hS.2 (by first | rfl | exact h)⟩) ?rest104
  case hi104 => simp only [List.getElem?_toArray, List.getElem?_cons_succ, List.getElem?_cons_zero]; rfl
  case hf104 => kernel_rfl
  case hr104 => kernel_rfl
  case hw104 => rfl
  case hy104 => (intro w hSw; (try dsimp only at hSw); go_simp; all_goals (first | done | with_reducible rfl))
  case hQ104 => exact fun _ _ _ h => h
  simp only [Act.put, List.setIfInBounds_toArray, List.set_cons_zero, List.set_cons_succ]
  refine wpAnyL_take1 (i := 4) (oi := ?oi105) (om := ?om105) (v := ?v105) ?hi105 (by kernel_rfl) ?hf105 ?hr105 (by decide) ?hm105 ?hd105 (by rfl) ?hQ105 (Or.inl ⟨?hw105, ?hy105⟩) (⟨hS.1, fun h => hS.2 (by first | rfl | exact h)⟩) ?rest105
  case hi105 => simp only [List.getElem?_toArray, List.getElem?_cons_succ, List.getElem?_cons_zero]; rfl
  case hm105 => simp only [List.getElem?_toArray, List.getElem?_cons_succ, List.getElem?_cons_zero]; rfl
  case hd105 => kernel_rfl
  case hf105 => kernel_rfl
  case hr105 => kernel_rfl
  case hw105 => rfl
  case hy105 => (intro w hSw; (try dsimp only at hSw); go_simp; all_goals (first | done | with_reducible rfl))
  case hQ105 => exact fun _ _ _ h => h
  simp only [Act.put, List.setIfInBounds_toArray, List.set_cons_zero, List.set_cons_succ]
  refine wpAnyL_take (i := 5) (oi := ?oi106) (v := ?v106) ?hi106 (by kernel_rfl) ?hf106 ?hr106 (by decide) ?hQ106 (Or.inl ⟨?hw106, ?hy106⟩) (⟨hS.1, fun h => hS.2 (by first | rfl | exact h)⟩) ?rest106
  case hi106 => simp only [List.getElem?_toArray, List.getElem?_cons_succ, List.getElem?_cons_zero]; rfl
  case hf106 => kernel_rfl
  case hr106 => kernel_rfl
  case hw106 => rfl
  case hy106 => (intro w hSw; (try dsimp only at hSw); go_simp; all_goals (first | done | with_reducible rfl))
  case hQ106 => exact fun _ _ _ h => h
  simp only [Act.put, List.setIfInBounds_toArray, List.set_cons_zero, List.set_cons_succ]
  refine wpAnyL_ready (rs := [6]) (by kernel_rfl) (by simp) ?_
  refine AllReadyL.cons (o := ?oi107) ?hi107 (fun K hK => ?step107) AllReadyL.nil
  case hi107 => simp only [List.getElem?_toArray, List.getElem?_cons_succ, List.getElem?_cons_zero]; rfl
  rw [if_pos (by rfl)]
  go_simp
  refine hK.out _ _ ⟨⟨(World.cell?_alloc_past _ _ _ hbhW).trans x0, (World.cell?_alloc_past _ _ _ hbhW).trans x1, (World.cell?_alloc_past _ _ _ hbhW).trans x2⟩, fun _ => (World.cell?_alloc_past _ _ _ hbcW).trans o1⟩ (fun hS => ?_)
  refine wpAnyL_ready (rs := [7]) (by kernel_rfl) (by simp) ?_
  refine AllReadyL.cons (o := ?oi108) ?hi108 (fun K hK => ?step108) AllReadyL.nil
  case hi108 => simp only [List.getElem?_toArray, List.getElem?_cons_succ, List.getElem?_cons_zero]; rfl
  rw [if_pos (by rfl)]
  refine wp_app rfl (by rfl) (by rfl) HRun.out ?_
  refine hK.out _ _ ⟨⟨(HH4.out.2 0 _ rfl).1, (HH4.out.2 1 _ rfl).1, (HH4.out.2 2 _ rfl).1⟩, fun _ => (HK4.out.2 1 _ rfl).1⟩ (fun hS => ?_)
  simp only [Act.put, List.setIfInBounds_toArray, List.set_cons_zero, List.set_cons_succ]
  refine wpAnyL_take (i := 8) (oi := ?oi109) (v := ?v109) ?hi109 (by kernel_rfl) ?hf109 ?hr109 (by decide) ?hQ109 (Or.inl ⟨?hw109, ?hy109⟩) (⟨hS.1, fun h => hS.2 (by first | rfl | exact h)⟩) ?rest109
  case hi109 => simp only [List.getElem?_toArray, List.getElem?_cons_succ, List.getElem?_cons_zero]; rfl
  case hf109 => kernel_rfl
  case hr109 => kernel_rfl
  case hw109 => rfl
  case hy109 => (intro w hSw; (try dsimp only at hSw); go_simp; all_goals (first | done | with_reducible rfl))
  case hQ109 => exact fun _ _ _ h => h
  simp only [Act.put, List.setIfInBounds_toArray, List.set_cons_zero, List.set_cons_succ]
  refine wpAnyL_take (i := 9) (oi := ?oi110) (v := ?v110) ?hi110 (by kernel_rfl) ?hf110 ?hr110 (by decide) ?hQ110 (Or.inl ⟨?hw110, ?hy110⟩) (⟨hS.1, fun h => hS.2 (by first | rfl | exact h)⟩) ?rest110
  case hi110 => simp only [List.getElem?_toArray, List.getElem?_cons_succ, List.getElem?_cons_zero]; rfl
  case hf110 => kernel_rfl
  case hr110 => kernel_rfl
  case hw110 => rfl
  case hy110 => (intro w hSw; (try dsimp only at hSw); go_simp; all_goals (first | done | with_reducible rfl))
  case hQ110 => exact fun _ _ _ h => h
  simp only [Act.put, List.setIfInBounds_toArray, List.set_cons_zero, List.set_cons_succ]
  have o9 := (HK4.out.2 1 _ rfl).1
  have o9f := (HK4.out.2 1 _ rfl).2
  refine wpAnyL_ready (rs := [10]) (by kernel_rfl) (by simp) ?_
  refine AllReadyL.cons (o := ?oi111) ?hi111 (fun K hK => ?step111) AllReadyL.nil
  case hi111 => simp only [List.getElem?_toArray, List.getElem?_cons_succ, List.getElem?_cons_zero]; rfl
  rw [if_pos (by rfl)]
  go_simp
  refine hK.out _ _ ⟨⟨(World.cell?_setCell_far _ _ _ _ hbb).trans (HH4.out.2 0 _ rfl).1, (World.cell?_setCell_far _ _ _ _ hbb).trans (HH4.out.2 1 _ rfl).1, (World.cell?_setCell_far _ _ _ _ hbb).trans (HH4.out.2 2 _ rfl).1⟩, fun h => absurd h (by decide)⟩ (fun hS => ?_)
  refine wpAnyL_done (by kernel_rfl) ?_ _
  clear hS o9 o9f o1 x0 x1 x2
  go_wp2_with fail
  go_ret
  refine ⟨HB4.out.setCell hbc _, rfl, fun x hx => ?_⟩
  obtain rfl := Option.some.inj hx
  refine ⟨_, _, _, _, _, _, treeRows ls.length (.slice A ls.length c) ls (hs'.length + 1) (.slice A5 (hs'.length + 1) c5) (hs' ++ [mkHd s lv fA fn fc fs]), HK4.out.set 1 _, ⟨_, _, ls, hs' ++ [mkHd s lv fA fn fc fs], rfl, HLH.out.1, ?_, ?_⟩, HR5.out, HOff.out, HD.out⟩
  · rw [← HLH.out.2]; simp [hsOf, mkHd]
  · rw [List.length_append]; rfl
end Go.Proofs.YtioegkcekbkblaaGreat
