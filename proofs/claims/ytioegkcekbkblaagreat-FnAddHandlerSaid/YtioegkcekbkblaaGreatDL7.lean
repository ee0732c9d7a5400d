/-
  A HANDLER DROPPED: the program's change.
-/
import Derived.Test.YtioegkcekbkblaaGreatDL6
import Derived.Test.YtioegkcekbkblaaGreatNH2
namespace Go.Proofs.YtioegkcekbkblaaGreat
open Go.RowKit Nm
set_option linter.unusedSimpArgs false
set_option linter.unusedVariables false

theorem rows_delH {W W' : World} {lo n m k : Nat} {v v' : Value} {hs : List HndV} {pre : List Row} (hm : m + 1 = n) (hr : Rows W lo (pre ++ two 47 3 n v hcells hrows hs))
    (ho : W'.ownsRow lo 47 3 v' m ((hs.flatMap hcells).take (k * 3) ++ (hs.flatMap hcells).drop ((k + 1) * 3))) (hg : W.grownBy W' v.ownBlock) (hv : v'.ownBlock = v.ownBlock) : Rows W' lo (pre ++ two 47 3 m v' hcells hrows (hs.eraseIdx k)) := by
  rw [flat_erase hcells_len] at ho
  have h1 := Rows.app (T' := 47) (d' := 3) hr hg ho (.inl hv)
  refine h1.sub ((List.Sublist.refl _).append ?_)
  exact List.Sublist.cons_cons _ (sub_flatM (List.eraseIdx_sublist _ _))
theorem off_rows {ls : List LgrV} {hs : List HndV} {n m bc g : Nat} {c : Nat} {v2 : Value} (h0 : g ≠ bc) (h1 : ∀ x ∈ ls, x.hv.ownBlock ≠ some bc ∧ x.fv.ownBlock ≠ some bc) (h2 : v2.ownBlock ≠ some bc) (h3 : ∀ x ∈ hs, x.fv.ownBlock ≠ some bc) :
    ∀ r ∈ [] ++ two 72 6 n (.slice (some ⟨g, 0, none⟩) n c) lcells lrows ls ++ two 47 3 m v2 hcells hrows hs, r.v.ownBlock ≠ some bc := by
  intro r hr
  simp only [two, hrows, lrows, List.mem_append, List.mem_cons, List.mem_flatMap, List.not_mem_nil, or_false, false_or] at hr
  rcases hr with (rfl | ⟨y, hy, rfl | rfl⟩) | rfl | ⟨y, hy, rfl⟩
  · exact fun e => h0 (Option.some.inj e)
  · exact (h1 y hy).1
  · exact (h1 y hy).2
  · exact h2
  · exact h3 y hy

theorem lsOf_atD {cur : List LgrV} {L : List Lgr} {f : Lgr → Lgr} {k : Nat} {l : Lgr} (hc : lsOf cur = (L.take k).map f ++ L.drop k) (hk : L[k]? = some l) : ∃ x, cur[k]? = some x ∧ x.l = l := by
  have hl := mapk_at f (List.getElem?_eq_some_iff.1 hk).1
  rw [← hc, hk] at hl
  unfold lsOf at hl
  rw [List.getElem?_map] at hl
  cases hx : cur[k]? with
  | none => rw [hx] at hl; cases hl
  | some x => rw [hx] at hl; exact ⟨x, rfl, Option.some.inj hl⟩
set_option maxHeartbeats 8000000 in
set_option maxRecDepth 100000 in
theorem dropHClo_c {w : World} {L : List Lgr} {H : List Hnd} {q : Int} {bf : Nat} (f : ByteArray) (hbf : w.cell? ⟨bf, 0, none⟩ = some (.string f)) (hok : treeOk L H q = true)
    (W : World) (lo bc : Nat) (v1 v2 : Value) (rs : List Row) (hp : CloPre w lo bc W v1 v2 rs L H q) :
    Calls Tryz.prog 70 #[.pointer (some ⟨bc, 0, none⟩), .pointer (some ⟨bf, 0, none⟩)] W (CloPost lo bc W (if idxL (hnm H) f.data.toList < 0 then none else some (L.map (woL f.data.toList), H.eraseIdx (idxL (hnm H) f.data.toList).toNat, q))) := by
  obtain ⟨hb, hlo, hbc, hkb, hs, hr, hap, hd⟩ := hp
  obtain ⟨_, _, _, h8, h1l, _⟩ := tree_names hok
  have h6 := tree_hlen hok
  have HND := hid (fun (l : Lgr) (hl : l ∈ L) => (tree_nodup hok hl).2)
  have HD := hid (dropH_fit f.data.toList (idxL (hnm H) f.data.toList).toNat hd)
  have hbfw : bf < w.heap.size := World.block_lt_of_cell? w _ hbf
  have CHA := hid (implHandlerAt_c f (hs.at_ (hr.below (Below.refl W.heap.size W).drew) hd) (Nat.le_refl _))
  obtain ⟨u1, u2, ls, hs', e, h1, h2, h3⟩ := hs
  have e' : v1 = u1 ∧ v2 = u2 := by simpa using e
  obtain ⟨rfl, rfl⟩ := e'
  subst h3
  have HONE := hid (treeL_slices hr).2
  have hll : ls.length = L.length := by rw [← h1]; simp [lsOf]
  have hlh : hs'.length = H.length := by rw [← h2]; simp [hsOf]
  obtain ⟨hl, hh⟩ := hr.lsIn
  obtain ⟨A, c, rfl, hnc, hcm⟩ := hl.1.form
  obtain ⟨A4, c4, rfl, hnc4, hcm4⟩ := hh.1.form
  clear hl hh
  rw [treeRows_eq] at hr hap
  have hr0 : Rows W lo ([] ++ two 72 6 ls.length (.slice A ls.length c) lcells lrows ls ++ two 47 3 hs'.length (.slice A4 hs'.length c4) hcells hrows hs') := by simpa using hr
  obtain ⟨g, rfl, hglt⟩ := own_some hr0.top (by omega)
  have hgl : lo ≤ g := (hr0.top.lt g rfl).1
  have hgb : g ≠ bc := fun e => hap ⟨72, 6, ls.length, .slice (some ⟨g, 0, none⟩) ls.length c, ls.flatMap lcells⟩ (by simp [two]) (by rw [← e]; rfl)
  have HNL := hid (show ∀ x ∈ ls, x.hv.ownBlock ≠ some bc ∧ x.fv.ownBlock ≠ some bc from fun x hx => ⟨hap ⟨9, 1, x.hn, x.hv, x.l.hs.map txt⟩ (by
    rw [List.mem_append]; left
    simp only [two, List.mem_cons, List.mem_flatMap]
    exact .inr ⟨x, hx, by simp [lrows]⟩), hap ⟨99, 3, x.fn, x.fv, fsCells x.l.fs⟩ (by
    rw [List.mem_append]; left
    simp only [two, List.mem_cons, List.mem_flatMap]
    exact .inr ⟨x, hx, by simp [lrows]⟩)⟩)
  have HNH := hid (show ∀ x ∈ hs', x.fv.ownBlock ≠ some bc from fun x hx => hap ⟨99, 3, x.fn, x.fv, fsCells x.h.fs⟩ (by
    rw [List.mem_append]; right
    simp only [two, List.mem_cons, List.mem_flatMap]
    exact .inr ⟨x, hx, by simp [hrows]⟩))
  have HHB := hid (show (Value.slice A4 hs'.length c4).ownBlock ≠ some bc from hap ⟨47, 3, hs'.length, .slice A4 hs'.length c4, hs'.flatMap hcells⟩ (by
    rw [List.mem_append]; right
    simp [two]))
  have hgf : g ≠ bf := by omega
  generalize hN : ls.length = n at *
  have hn8 : n ≤ 8 := by omega
  unfold maxLen at hcm hcm4
  have HR := hid hr0
  have HKB := hid hkb
  have HB := hid hb
  have HBF := hid hbf
  have HH := hid h2
  have HL := hid h1
  have HLn := hid hll
  have HLh := hid hlh
  have HLO := hid (And.intro hlo hbc)
  have d0 := (HKB.out.2 0 _ rfl).1
  have d1 := (HKB.out.2 1 _ rfl).1
  have d2 := (HKB.out.2 2 _ rfl).1
  have cf := (HB.out.cell (p := ⟨bf, 0, none⟩) hbfw).trans hbf
  have hh6 : hs'.length ≤ 6 := by omega
  clear hap hr hr0 hkb hd h1 h2 e hbf hok hb hll hlh hN h8 h1l hlo hbc h6
  generalize hO : (if idxL (hnm H) f.data.toList < 0 then none else some (L.map (woL f.data.toList), H.eraseIdx (idxL (hnm H) f.data.toList).toNat, q)) = O
  have HO := hid hO
  clear hO
  have HIX := hid (fun (h : ¬ idxL (hnm H) f.data.toList < 0) => idx_natN h)
  go_enter Tryz.func70, Tryz.ntmps70
  go_wp2_with fail
  refine wp_region_held_drew (S := (fun w' : World => (w'.cell? ⟨bc, 0, none⟩ = some (.slice (some ⟨g, 0, none⟩) n c) ∧ w'.cell? ⟨bc, 1, none⟩ = some (.slice A4 hs'.length c4) ∧ w'.cell? ⟨bc, 2, none⟩ = some (.int .i64 q)) ∧ w'.cell? ⟨bf, 0, none⟩ = some (.string f))) (by kernel_rfl) ⟨⟨d0, d1, d2⟩, cf⟩ (fun hS => ?_)
  refine wpAnyH_take (i := 0) (oi := ?oi101) (v := ?v101) ?hi101 (by kernel_rfl) ?hf101 ?hr101 ?hQ101 (Or.inl ⟨?hw101, ?hy101⟩) (by assumption) ?rest101
  case hi101 => simp only [List.getElem?_toArray, List.getElem?_cons_succ, List.getElem?_cons_zero]; rfl
  case hf101 => kernel_rfl
  case hr101 => kernel_rfl
  case hw101 => rfl
  case hy101 => (intro w hSw; (try dsimp only at hSw); go_simp; all_goals (first | done | with_reducible rfl))
  case hQ101 => exact fun _ _ _ h => h
  simp only [Act.put, List.setIfInBounds_toArray, List.set_cons_zero, List.set_cons_succ]
  refine wpAnyH_take (i := 1) (oi := ?oi102) (v := ?v102) ?hi102 (by kernel_rfl) ?hf102 ?hr102 ?hQ102 (Or.inl ⟨?hw102, ?hy102⟩) (by assumption) ?rest102
  case hi102 => simp only [List.getElem?_toArray, List.getElem?_cons_succ, List.getElem?_cons_zero]; rfl
  case hf102 => kernel_rfl
  case hr102 => kernel_rfl
  case hw102 => rfl
  case hy102 => (intro w hSw; (try dsimp only at hSw); go_simp; all_goals (first | done | with_reducible rfl))
  case hQ102 => exact fun _ _ _ h => h
  simp only [Act.put, List.setIfInBounds_toArray, List.set_cons_zero, List.set_cons_succ]
  refine wpAnyH_take (i := 2) (oi := ?oi103) (v := ?v103) ?hi103 (by kernel_rfl) ?hf103 ?hr103 ?hQ103 (Or.inl ⟨?hw103, ?hy103⟩) (by assumption) ?rest103
  case hi103 => simp only [List.getElem?_toArray, List.getElem?_cons_succ, List.getElem?_cons_zero]; rfl
  case hf103 => kernel_rfl
  case hr103 => kernel_rfl
  case hw103 => rfl
  case hy103 => (intro w hSw; (try dsimp only at hSw); go_simp; all_goals (first | done | with_reducible rfl))
  case hQ103 => exact fun _ _ _ h => h
  simp only [Act.put, List.setIfInBounds_toArray, List.set_cons_zero, List.set_cons_succ]
  refine wpAnyH_take (i := 3) (oi := ?oi104) (v := ?v104) ?hi104 (by kernel_rfl) ?hf104 ?hr104 ?hQ104 (Or.inl ⟨?hw104, ?hy104⟩) (by assumption) ?rest104
  case hi104 => simp only [List.getElem?_toArray, List.getElem?_cons_succ, List.getElem?_cons_zero]; rfl
  case hf104 => kernel_rfl
  case hr104 => kernel_rfl
  case hw104 => rfl
  case hy104 => (intro w hSw; (try dsimp only at hSw); go_simp; all_goals (first | done | with_reducible rfl))
  case hQ104 => exact fun _ _ _ h => h
  simp only [Act.put, List.setIfInBounds_toArray, List.set_cons_zero, List.set_cons_succ]
  refine wpAnyH_ready (rs := [4]) (by kernel_rfl) (by simp) ?_
  refine AllReadyH.cons (o := ?oi105) ?hi105 (fun K hK => ?step105) AllReadyH.nil
  case hi105 => simp only [List.getElem?_toArray, List.getElem?_cons_succ, List.getElem?_cons_zero]; rfl
  rw [if_pos (by rfl)]
  go_simp
  go_at_call 71
  refine (CHA.out).mono ?_
  rintro e w1 ⟨rfl, hb1⟩
  have HW1 := hid (show Below W.heap.size W w1 from ((Below.refl W.heap.size W).drew).trans hb1)
  have K1 := HKB.out.to HW1.out
  have HK1 := hid K1
  have HR1 := hid (HR.out.below HW1.out)
  have hlw0 : lo ≤ W.heap.size := by have := HKB.out.1; have := HLO.out.2; omega
  have HL1 := hid (HW1.out.mono hlw0)
  refine hK.out _ _ ⟨⟨(K1.2 0 _ rfl).1, (K1.2 1 _ rfl).1, (K1.2 2 _ rfl).1⟩, (HW1.out.cell (p := ⟨bf, 0, none⟩) (World.block_lt_of_cell? _ _ cf)).trans cf⟩ (fun hS => ?_)
  refine wpAnyH_take (i := 5) (oi := ?oi106) (v := ?v106) ?hi106 (by kernel_rfl) ?hf106 ?hr106 ?hQ106 (Or.inl ⟨?hw106, ?hy106⟩) (by assumption) ?rest106
  case hi106 => simp only [List.getElem?_toArray, List.getElem?_cons_succ, List.getElem?_cons_zero]; rfl
  case hf106 => kernel_rfl
  case hr106 => kernel_rfl
  case hw106 => rfl
  case hy106 => (intro w hSw; (try dsimp only at hSw); go_simp; all_goals (first | done | with_reducible rfl))
  case hQ106 => exact fun _ _ _ h => h
  simp only [Act.put, List.setIfInBounds_toArray, List.set_cons_zero, List.set_cons_succ]
  refine wpAnyH_done (by kernel_rfl) ?_ _
  clear hb1 K1 d0 d1 d2 hS
  by_cases hneg : idxL (hnm H) f.data.toList < 0
  · have HO1 := hid (show O = none by rw [← HO.out, if_pos hneg])
    generalize idxL (hnm H) f.data.toList = ix at *
    go_wp2_with fail
    go_ret
    exact ⟨HL1.out, by rw [HO1.out]; rfl, fun x hx => by rw [HO1.out] at hx; cases hx⟩
  obtain ⟨kk, hkk, hkl, hkx⟩ := HIX.out (by omega)
  have hO1 : O = some (L.map (woL f.data.toList), H.eraseIdx kk, q) := by rw [← HO.out, if_neg hneg, hkk]; rfl
  rw [hkk] at HD
  rw [hkk]
  have hkH : kk < hs'.length := by have := HLh.out; unfold hnm at hkl; rw [List.length_map] at hkl; omega
  have HO2 := hid hO1
  obtain ⟨m, hm⟩ : ∃ m, m + 1 = hs'.length := ⟨hs'.length - 1, by omega⟩
  -- the handler's row
  have hrh : Rows w1 lo (two 72 6 n (.slice (some ⟨g, 0, none⟩) n c) lcells lrows ls ++ two 47 3 hs'.length (.slice A4 hs'.length c4) hcells hrows hs' ++ []) := by simpa using HR1.out
  have hown := hrh.top
  obtain ⟨g4, rfl, _⟩ := own_some hown (by omega)
  have hg4 : lo ≤ g4 := (hown.lt g4 rfl).1
  have hg4b : g4 ≠ bc := fun e => HHB.out (by rw [← e]; rfl)
  have hg4f : g4 ≠ bf := by have := HLO.out.1; omega
  rw [← hm] at hown
  have CD := hid (deleteHnd_c (k := kk) hown (by omega) HONE.out (by omega))
  have HM := hid (And.intro hm hkH)
  have e0 := (HK1.out.2 1 _ rfl).1
  have s0 : IntKind.i64.wrap ((kk : Int) + 1) = (kk : Int) + 1 := by rw [IntKind.wrap_i64]; omega
  have hlw1 : lo ≤ w1.heap.size := Nat.le_trans hlw0 HW1.out.size
  rw [← hm] at e0
  clear hneg hkk hkl hkx hO1 hrh hown hm cf
  go_wp2_with fail
  refine (CD.out).mono ?_
  rintro e w2 ⟨rfl, ho2, hg2⟩
  have HK2 := hid (HK1.out.kept hg2 (show some bc ≠ some g4 from fun e => hg4b (Option.some.inj e).symm))
  have hR2 := rows_delH HM.out.1 HR1.out ho2 hg2 rfl
  have HNE := hid (show ∀ x ∈ hs'.eraseIdx kk, x.fv.ownBlock ≠ some bc from fun x hx => HNH.out x ((List.eraseIdx_sublist _ _).subset hx))
  have HR2 := hid (hR2.off (j := 1) (u := .slice (some ⟨g4, 0, none⟩) m c4) (off_rows hgb HNL.out (fun e => hg4b (Option.some.inj e)) HNE.out))
  have HB2 := hid (show Below lo W w2 from HL1.out.grown hg2 hlw1 (fun z hz => by obtain rfl := Option.some.inj hz; exact hg4))
  have x1 := (HK2.out.2 1 _ rfl).1
  have x1f := (HK2.out.2 1 _ rfl).2
  have HKs := hid (HK2.out.set 1 (.slice (some ⟨g4, 0, none⟩) m c4))
  have HBs := hid (HB2.out.setCell (p := ⟨bc, 1, none⟩) HLO.out.2 (.slice (some ⟨g4, 0, none⟩) m c4))
  have x0 := (HKs.out.2 0 _ rfl).1
  clear ho2 hg2 hR2 e0
  have HHs := hid (show hsOf (hs'.eraseIdx kk) = H.eraseIdx kk by rw [hsOf_erase, HH.out])
  have HHl := hid (show (hs'.eraseIdx kk).length = m by rw [List.length_eraseIdx, if_pos HM.out.2]; have := HM.out.1; omega)
  generalize hs'.eraseIdx kk = hs2 at *
  go_wp2_with fail
  clear x0 x1 x1f
  go_loopw [5, 29] (fun av iv wr => ∃ (k : Nat) (cul : List LgrV) (u : Value), iv = .int .i64 k ∧ av = u ∧ k ≤ n ∧ Hid (lsOf cul = (L.take k).map (woL f.data.toList) ++ L.drop k) ∧
    Hid (Rows wr lo ([] ++ two 72 6 n (.slice (some ⟨g, 0, none⟩) n c) lcells lrows cul ++ two 47 3 m (.slice (some ⟨g4, 0, none⟩) m c4) hcells hrows hs2)) ∧ Hid (Blk wr bc [.slice (some ⟨g, 0, none⟩) n c, .slice (some ⟨g4, 0, none⟩) m c4, .int .i64 q]) ∧ Hid (∀ x ∈ cul, x.hv.ownBlock ≠ some bc ∧ x.fv.ownBlock ≠ some bc) ∧ Hid (Below lo W wr)) (fun _ iv _ => n - (intOf iv).toNat)
  case atStart => exact ⟨0, ls, _, rfl, rfl, by omega, by simpa [Hid] using HL.out, HR2.out, HKs.out, HNL.out, HBs.out⟩
  case round =>
    obtain ⟨k, cul, u, rfl, rfl, hk, HC, HRx, HKx, HNx, HBx⟩ := hrel
    have hlw : lo ≤ wr.heap.size := by have := HKx.out.1; have := HLO.out.2; omega
    by_cases hlt : k < n
    · have hkL : k < L.length := by have := HLn.out; omega
      obtain ⟨l0, hl0⟩ : ∃ l, L[k]? = some l := ⟨_, List.getElem?_eq_getElem hkL⟩
      obtain ⟨x, hx, hxl⟩ := lsOf_atD HC.out hl0
      subst hxl
      have HX := hid (And.intro hx hl0)
      have CDT := hid (detach_c f (HRx.out.below ((Below.refl _ _).drew)) hx (by have := HND.out x.l (List.mem_of_getElem? hl0); omega) hlw)
      have c0 := (HKx.out.2 0 _ rfl).1
      have cf : wr.cell? ⟨bf, 0, none⟩ = some (.string f) := (HBx.out.cell (p := ⟨bf, 0, none⟩) (show bf < lo by have := HLO.out.1; omega)).trans ((HB.out.cell (p := ⟨bf, 0, none⟩) hbfw).trans HBF.out)
      have s0 : (0 : Int) ≤ (k : Int) := by omega
      have s1 : (k : Int) < (n : Int) := by omega
      have s2 : ((k : Int)).toNat = k := by simp
      clear hx hl0
      go_wp2_with fail
      refine wp_region_held_drew (S := (fun w' : World => w'.cell? ⟨bc, 0, none⟩ = some (.slice (some ⟨g, 0, none⟩) n c) ∧ w'.cell? ⟨bf, 0, none⟩ = some (.string f))) (by kernel_rfl) ⟨c0, cf⟩ (fun hS => ?_)
      refine wpAnyH_take (i := 0) (oi := ?oi107) (v := ?v107) ?hi107 (by kernel_rfl) ?hf107 ?hr107 ?hQ107 (Or.inl ⟨?hw107, ?hy107⟩) (by assumption) ?rest107
      case hi107 => simp only [List.getElem?_toArray, List.getElem?_cons_succ, List.getElem?_cons_zero]; rfl
      case hf107 => kernel_rfl
      case hr107 => kernel_rfl
      case hw107 => rfl
      case hy107 => (intro w hSw; (try dsimp only at hSw); go_simp; all_goals (first | done | with_reducible rfl))
      case hQ107 => exact fun _ _ _ h => h
      simp only [Act.put, List.setIfInBounds_toArray, List.set_cons_zero, List.set_cons_succ]
      refine wpAnyH_take (i := 1) (oi := ?oi108) (v := ?v108) ?hi108 (by kernel_rfl) ?hf108 ?hr108 ?hQ108 (Or.inl ⟨?hw108, ?hy108⟩) (by assumption) ?rest108
      case hi108 => simp only [List.getElem?_toArray, List.getElem?_cons_succ, List.getElem?_cons_zero]; rfl
      case hf108 => kernel_rfl
      case hr108 => kernel_rfl
      case hw108 => rfl
      case hy108 => (intro w hSw; (try dsimp only at hSw); go_simp; all_goals (first | done | with_reducible rfl))
      case hQ108 => exact fun _ _ _ h => h
      simp only [Act.put, List.setIfInBounds_toArray, List.set_cons_zero, List.set_cons_succ]
      refine wpAnyH_take (i := 2) (oi := ?oi109) (v := ?v109) ?hi109 (by kernel_rfl) ?hf109 ?hr109 ?hQ109 (Or.inl ⟨?hw109, ?hy109⟩) (by assumption) ?rest109
      case hi109 => simp only [List.getElem?_toArray, List.getElem?_cons_succ, List.getElem?_cons_zero]; rfl
      case hf109 => kernel_rfl
      case hr109 => kernel_rfl
      case hw109 => rfl
      case hy109 => (intro w hSw; (try dsimp only at hSw); go_simp; all_goals (first | done | with_reducible rfl))
      case hQ109 => exact fun _ _ _ h => h
      simp only [Act.put, List.setIfInBounds_toArray, List.set_cons_zero, List.set_cons_succ]
      refine wpAnyH_take (i := 3) (oi := ?oi110) (v := ?v110) ?hi110 (by kernel_rfl) ?hf110 ?hr110 ?hQ110 (Or.inl ⟨?hw110, ?hy110⟩) (by assumption) ?rest110
      case hi110 => simp only [List.getElem?_toArray, List.getElem?_cons_succ, List.getElem?_cons_zero]; rfl
      case hf110 => kernel_rfl
      case hr110 => kernel_rfl
      case hw110 => rfl
      case hy110 => (intro w hSw; (try dsimp only at hSw); go_simp; all_goals (first | done | with_reducible rfl))
      case hQ110 => exact fun _ _ _ h => h
      simp only [Act.put, List.setIfInBounds_toArray, List.set_cons_zero, List.set_cons_succ]
      refine wpAnyH_take (i := 4) (oi := ?oi111) (v := ?v111) ?hi111 (by kernel_rfl) ?hf111 ?hr111 ?hQ111 (Or.inl ⟨?hw111, ?hy111⟩) (by assumption) ?rest111
      case hi111 => simp only [List.getElem?_toArray, List.getElem?_cons_succ, List.getElem?_cons_zero]; rfl
      case hf111 => kernel_rfl
      case hr111 => kernel_rfl
      case hw111 => rfl
      case hy111 => (intro w hSw; (try dsimp only at hSw); go_simp; all_goals (first | done | with_reducible rfl))
      case hQ111 => exact fun _ _ _ h => h
      simp only [Act.put, List.setIfInBounds_toArray, List.set_cons_zero, List.set_cons_succ]
      refine wpAnyH_take (i := 5) (oi := ?oi112) (v := ?v112) ?hi112 (by kernel_rfl) ?hf112 ?hr112 ?hQ112 (Or.inl ⟨?hw112, ?hy112⟩) (by assumption) ?rest112
      case hi112 => simp only [List.getElem?_toArray, List.getElem?_cons_succ, List.getElem?_cons_zero]; rfl
      case hf112 => kernel_rfl
      case hr112 => kernel_rfl
      case hw112 => rfl
      case hy112 => (intro w hSw; (try dsimp only at hSw); go_simp; all_goals (first | done | with_reducible rfl))
      case hQ112 => exact fun _ _ _ h => h
      simp only [Act.put, List.setIfInBounds_toArray, List.set_cons_zero, List.set_cons_succ]
      refine wpAnyH_take (i := 6) (oi := ?oi113) (v := ?v113) ?hi113 (by kernel_rfl) ?hf113 ?hr113 ?hQ113 (Or.inl ⟨?hw113, ?hy113⟩) (by assumption) ?rest113
      case hi113 => simp only [List.getElem?_toArray, List.getElem?_cons_succ, List.getElem?_cons_zero]; rfl
      case hf113 => kernel_rfl
      case hr113 => kernel_rfl
      case hw113 => rfl
      case hy113 => (intro w hSw; (try dsimp only at hSw); go_simp; all_goals (first | done | with_reducible rfl))
      case hQ113 => exact fun _ _ _ h => h
      simp only [Act.put, List.setIfInBounds_toArray, List.set_cons_zero, List.set_cons_succ]
      refine wpAnyH_ready (rs := [7]) (by kernel_rfl) (by simp) ?_
      refine AllReadyH.cons (o := ?oi114) ?hi114 (fun K hK => ?step114) AllReadyH.nil
      case hi114 => simp only [List.getElem?_toArray, List.getElem?_cons_succ, List.getElem?_cons_zero]; rfl
      rw [if_pos (by rfl)]
      go_simp
      go_at_call 73
      refine (CDT.out).mono ?_
      rintro e w3 ⟨rfl, v', hv', hR3, hB3, hK3⟩
      have HR3 := hid hR3
      have HK3 := hid (hK3 bc _ (fun e => hgb e.symm) (fun e => (HNx.out x (List.mem_of_getElem? HX.out.1)).1 e.symm) (HKx.out.dr 1))
      have HB3 := hid (HBx.out.drew.trans hB3)
      have HV := hid hv'
      refine hK.out _ _ ⟨(HK3.out.2 0 _ rfl).1, (hB3.cell (p := ⟨bf, 0, none⟩) (show bf < lo by have := HLO.out.1; omega)).trans cf⟩ (fun hS => ?_)
      refine wpAnyH_done (by kernel_rfl) ?_ _
      clear hv' hR3 hB3 hK3 hS c0 cf
      go_wp2_with fail
      go_roundw
      case rel =>
        refine ⟨k + 1, _, _, by go_num, rfl, by omega, ?_, HR3.out, HK3.out, ?_, HB3.out⟩
        · show lsOf (cul.set k _) = _
          rw [mapk_step _ HX.out.2, ← HC.out]
          unfold lsOf
          rw [List.map_set]
        · intro y hy
          rcases List.mem_or_eq_of_mem_set hy with hy | rfl
          · exact HNx.out y hy
          · exact ⟨by show v'.ownBlock ≠ _; rw [HV.out]; exact (HNx.out x (List.mem_of_getElem? HX.out.1)).1, (HNx.out x (List.mem_of_getElem? HX.out.1)).2⟩
      case measure => simp [intOf]; omega
    · obtain rfl : k = n := by omega
      have HCC := hid (show lsOf cul = L.map (woL f.data.toList) by
        have hkL := HLn.out
        have h := HC.out
        rw [List.take_of_length_le (by omega), List.drop_eq_nil_of_le (by omega), List.append_nil] at h
        exact h)
      have hcll : cul.length = k := by have h := congrArg List.length HCC.out; have := HLn.out; simp [lsOf] at h; omega
      have HCLL := hid hcll
      clear hcll HC
      go_wp2_with fail
      go_ret
      refine ⟨HBx.out, by rw [HO2.out]; rfl, fun x hx => ?_⟩
      rw [HO2.out] at hx
      obtain rfl := Option.some.inj hx
      refine ⟨_, _, _, _, _, _, treeRows cul.length _ cul hs2.length _ hs2, HKx.out, ⟨_, _, cul, hs2, rfl, HCC.out, HHs.out, rfl⟩, ?_, HD.out⟩
      rw [treeRows_eq, HCLL.out, HHl.out]
      simpa using HRx.out
end Go.Proofs.YtioegkcekbkblaaGreat
