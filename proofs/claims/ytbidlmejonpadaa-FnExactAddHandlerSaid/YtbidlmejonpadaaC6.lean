/-
  TREES copied: the model's copyTree.
-/
import Derived.Test.YtbidlmejonpadaaC5
namespace Go.Proofs.Ytbidlmejonpadaa
open Go.RowKit Nm
set_option linter.unusedSimpArgs false
set_option linter.unusedVariables false

theorem hcell_one (nm : List UInt8) (lv : Int) (A : Option Addr) (n c : Nat) : ∀ u ∈ [txt nm, .int .i64 lv, .slice A n c], u.oneCell' = true := by
  intro u hu
  simp only [List.mem_cons, List.not_mem_nil, or_false] at hu
  rcases hu with rfl | rfl | rfl <;> rfl

theorem perm_lgr (a b x o r : Row) (l m : List Row) : ([a, b, x] ++ [o] ++ (r :: (l ++ m))).Perm (([] ++ [o] ++ (r :: ((l ++ [b, a]) ++ m))) ++ [x]) := by
  have h1 : ([a, b, x] ++ ([o] ++ (r :: (l ++ m)))).Perm (([o] ++ (r :: (l ++ m))) ++ [a, b, x]) := List.perm_append_comm
  have h2 : ([o] ++ (r :: (l ++ m)) ++ [a, b, x]).Perm ([o] ++ (r :: (l ++ (m ++ [b, a, x])))) := by
    have h := (List.Perm.swap b a [x]).append_left (o :: r :: (l ++ m))
    simpa [List.append_assoc] using h
  have h3 : ([o] ++ (r :: (l ++ (m ++ [b, a, x])))).Perm ([o] ++ (r :: (l ++ ([b, a] ++ (m ++ [x]))))) := by
    have : (m ++ ([b, a] ++ [x])).Perm ([b, a] ++ (m ++ [x])) := List.perm_append_comm_assoc _ _ _
    exact ((this.append_left l).cons r).append_left [o]
  have h := h1.trans (h2.trans h3)
  simp only [List.append_assoc, List.nil_append, List.cons_append] at h ⊢
  exact h
theorem perm_hand (a b : Row) (l m : List Row) : ([a] ++ [b] ++ (l ++ m)).Perm ([] ++ [b] ++ (l ++ (m ++ [a]))) := by
  have h1 : ([a] ++ ([b] ++ (l ++ m))).Perm (([b] ++ (l ++ m)) ++ [a]) := List.perm_append_comm
  simp only [List.append_assoc, List.nil_append] at h1 ⊢
  exact h1

set_option maxHeartbeats 16000000 in
set_option maxRecDepth 100000 in
theorem specCopy_c {w : World} {B : Nat} {v : Value} {L : List Lgr} {H : List Hnd} {q : Int} (h : TreeIn w B v L H q) (hok : treeOk L H q = true) (hB : B ≤ w.heap.size) :
    Calls Try.prog 54 #[v] w (TreePost w L H q) := by
  obtain ⟨ls, hs, ⟨A1, n1, k1, A2, n2, k2, rfl, hl, hh, _, _, hhn⟩, rfl, rfl⟩ := h
  obtain ⟨_, _, _, h8, _, _⟩ := tree_names hok
  obtain ⟨hf1, hf2, h6⟩ := tree_small hok
  have hn1 : n1 ≤ 8 := by have := hl.count; simp [lsOf] at h8; omega
  have hn2 : n2 ≤ 6 := by have := hh.count; simp [hsOf] at h6; omega
  have HF1 := hid (show ∀ x ∈ ls, x.fn ≤ 3 from fun x hx => by have := hf1 x.l (List.mem_map.2 ⟨x, hx, rfl⟩); have := (hl.2 x hx).2.2.len; omega)
  have HF2 := hid (show ∀ x ∈ hs, x.fn ≤ 3 from fun x hx => by have := hf2 x.h (List.mem_map.2 ⟨x, hx, rfl⟩); have := (hh.2 x hx).2.len; omega)
  have hc1 := hl.1.cap
  have hc2 := hh.1.cap
  unfold maxLen at hc1 hc2
  have HV := hid (And.intro hl (And.intro hh hhn))
  clear hl hh hhn hok h8 hf1 hf2 h6
  -- the world ahead of the loops
  obtain ⟨W1, hW1⟩ : ∃ W1, W1 = ((w.alloc (.cells #[.slice A1 n1 k1, .slice A2 n2 k2, .int .i64 q] 32)).alloc (.cells #[.slice none 0 0, .slice none 0 0, .int .i64 0] 32)) := ⟨_, rfl⟩
  have hs1 : W1.heap.size = w.heap.size + 2 := by rw [hW1]; simp
  have hb1 : Below w.heap.size w W1 := by rw [hW1]; exact ((Below.refl _ _).alloc (Nat.le_refl _) _).alloc (by simp) _
  have K0 : Blk W1 w.heap.size [.slice A1 n1 k1, .slice A2 n2 k2, .int .i64 q] := by rw [hW1]; exact (Blk.new w _ _).alloc _
  have K1 : Blk W1 (w.heap.size + 1) [.slice none 0 0, .slice none 0 0, .int .i64 0] := by rw [hW1]; have := Blk.new (w.alloc (.cells #[.slice A1 n1 k1, .slice A2 n2 k2, .int .i64 q] 32)) #[.slice none 0 0, .slice none 0 0, .int .i64 0] 32; simpa using this
  have hb2 : Below W1.heap.size W1 ((W1.alloc (.cells #[] 49)).alloc (.cells #[.slice none 0 0, .slice (some ⟨w.heap.size + 2, 0, none⟩) 0 0, .int .i64 q] 32)) := ((Below.refl _ _).alloc (Nat.le_refl _) _).alloc (by simp) _
  have hR0 : Rows ((W1.alloc (.cells #[] 49)).alloc (.cells #[.slice none 0 0, .slice (some ⟨w.heap.size + 2, 0, none⟩) 0 0, .int .i64 q] 32)) (w.heap.size + 2) ([] ++ [bxRow 32 3 (w.heap.size + 3) [.slice none 0 0, .slice (some ⟨w.heap.size + 2, 0, none⟩) 0 0, .int .i64 q]] ++ (two 49 3 0 (.slice (some ⟨w.heap.size + 2, 0, none⟩) 0 0) hcells (fun _ => []) [] ++ [])) := by
    have h1 : Rows (W1.alloc (.cells #[] 49)) (w.heap.size + 2) [⟨49, 3, 0, .slice (some ⟨w.heap.size + 2, 0, none⟩) 0 0, []⟩] := by
      have := World.ownsRow_lit (e := 49) (size := 3) W1 #[] 0 (base := w.heap.size + 2) (by omega) (by unfold maxLen; omega) (by simp)
      rw [hs1] at this
      exact Rows.one this
    have h2 := Rows.box (W1.alloc (.cells #[] 49)) #[.slice none 0 0, .slice (some ⟨w.heap.size + 2, 0, none⟩) 0 0, .int .i64 q] 32 3 rfl
    have h3 := h1.newer ((Below.refl _ _).alloc (Nat.le_refl _) _) h2 (by simp; omega)
    simp only [World.size_alloc, hs1] at h3
    simpa [two] using h3
  have HK := hid (And.intro (K0.to hb2) (K1.to hb2))
  have HB := hid (hb1.trans (hb2.mono (by omega)))
  have HR := hid hR0
  have d0 := (K0.2 0 _ rfl).1
  have d1 := (K0.2 1 _ rfl).1
  have d2 := (K0.2 2 _ rfl).1
  clear hb1 hb2 hR0 K0 K1 d0 d1 d2 hs1
  subst hW1
  obtain ⟨i0, hi, hz0, hz1, hz2⟩ := info_parts Try.infoHandler
  go_enter Try.func54, Try.ntmps54
  go_wp2_with fail
  go_loopw [4] (fun iv wr => ∃ (k : Nat) (l' : List HndV) (A4 : Option Addr) (c4 : Nat), iv = .int .i64 k ∧ k ≤ n2 ∧ Hid (hsOf l' = hsOf (hs.take k) ∧ l'.length = k) ∧ Hid (Rows wr (w.heap.size + 2) ([] ++ [bxRow 32 3 (w.heap.size + 3) [.slice none 0 0, .slice A4 k c4, .int .i64 q]] ++ (two 49 3 k (.slice A4 k c4) hcells (fun _ => []) l' ++ l'.flatMap hrows))) ∧
    Hid (Blk wr w.heap.size [.slice A1 n1 k1, .slice A2 n2 k2, .int .i64 q] ∧ Blk wr (w.heap.size + 1) [.slice none 0 0, .slice none 0 0, .int .i64 0]) ∧ Hid (Below w.heap.size w wr)) (fun iv _ => n2 - (intOf iv).toNat)
  case atStart => exact ⟨0, [], _, _, rfl, by omega, ⟨rfl, rfl⟩, HR.out, HK.out, HB.out⟩
  case round =>
    obtain ⟨k, l', A4, c4, rfl, hk, HC, HRx, HKx, HBx⟩ := hrel
    have hsz := (HRx.out.bcell2 (q := 0) rfl).2.2
    by_cases hlt : k < n2
    · obtain ⟨b, o, x, p, rfl, hbB, hx, hp, hps, hfs, g0, g1, g2⟩ := HV.out.2.1.at_ hlt
      have hxf := HF2.out x (List.mem_of_getElem? hx)
      obtain ⟨A6, k6, e6, _, _⟩ := hfs.1.form
      obtain ⟨⟨xn, xlv, xfs⟩, xfv, fn'⟩ := x
      simp only at e6 hfs hxf hp g1 g2
      subst e6
      have hbw : b < w.heap.size := by omega
      have c0 := (HBx.out.cell (p := ⟨b, o + k * 3, none⟩) hbw).trans g0
      have c1 := (HBx.out.cell (p := ⟨b, o + k * 3 + 1, none⟩) hbw).trans g1
      have c2 := (HBx.out.cell (p := ⟨b, o + k * 3 + 2, none⟩) hbw).trans g2
      have d1 := (HKx.out.1.2 1 _ rfl).1
      have o1 := (HRx.out.bcell2 (q := 1) rfl).1
      have CH := hid (fun (W : World) (hW : Below w.heap.size w W) => specCopyHandler_c p xlv A6 fn' k6 B xfs W (hfs.1.below hW hB) (Nat.le_trans hB hW.size) (by omega))
      have ARM := hid (fun (w9 : World) (A8 : Option Addr) (k8 : Nat) (ho9 : w9.ownsRow wr.drew.heap.size 83 3 (.slice A8 fn' k8) fn' (fsCells xfs)) (hb9 : Below wr.drew.heap.size wr.drew w9) =>
        (show ∃ (A5 : Option Addr) (c5 : Nat) (w4 : World), (Builtin.append_ #[30, 30] 30 #[.slice A4 k c4, .slice (some ⟨w9.heap.size, 0, none⟩) 1 1]).run Try.prog (w9.alloc (.cells #[.string p, .int .i64 xlv, .slice A8 fn' k8] 49)) = .ok (.slice A5 (k + 1) c5) w4 ∧
            Rows w4 (w.heap.size + 2) ([⟨83, 3, fn', .slice A8 fn' k8, fsCells xfs⟩] ++ [bxRow 32 3 (w.heap.size + 3) [.slice none 0 0, .slice A4 k c4, .int .i64 q]] ++ (two 49 3 (k + 1) (.slice A5 (k + 1) c5) hcells (fun _ => []) (l' ++ [⟨⟨xn, xlv, xfs⟩, .slice A8 fn' k8, fn'⟩]) ++ l'.flatMap hrows)) ∧
            Below w.heap.size w w4 ∧ Blk w4 w.heap.size [.slice A1 n1 k1, .slice (some ⟨b, o, none⟩) n2 k2, .int .i64 q] ∧ Blk w4 (w.heap.size + 1) [.slice none 0 0, .slice none 0 0, .int .i64 0] from by
          have hRd : Rows wr.drew (w.heap.size + 2) _ := HRx.out.below ((Below.refl _ _).drew)
          have hR9 := hRd.newer hb9 (Rows.one (r := ⟨83, 3, fn', .slice A8 fn' k8, fsCells xfs⟩) ho9) (by show w.heap.size + 2 ≤ wr.heap.size; omega)
          have hB9 : Below w.heap.size w w9 := HBx.out.drew.trans (hb9.mono HBx.out.drew.size)
          have hK0 : Blk w9 w.heap.size _ := (HKx.out.1.dr 1).to hb9
          have hK1 : Blk w9 (w.heap.size + 1) _ := (HKx.out.2.dr 1).to hb9
          have htop : w9.ownsRow (w.heap.size + 2) 49 3 (.slice A4 k c4) k (l'.flatMap hcells) := hR9.1 ⟨49, 3, k, .slice A4 k c4, l'.flatMap hcells⟩ (by simp [two])
          obtain ⟨v5, w4, hrun, ho4, hg4, hloc⟩ := run_app1P (P := Try.prog) w9 30 (w.heap.size + 2) 49 i0 _ 3 48 Try.underlying30 hi hz0 hz1 hz2 rfl (by decide) _ k _ htop [txt xn, .int .i64 xlv, .slice A8 fn' k8] 49 rfl (hcell_one _ _ _ _ _) (by unfold maxLen; omega) (by omega) (by have := hb9.size; have : wr.drew.heap.size = wr.heap.size := rfl; omega)
          obtain ⟨A5, c5, rfl, _, _⟩ := (Sl.of_own ho4).form
          have e0 : txt xn = .string p := by rw [← hp, txt_data]
          have hR4 := Rows.app (pre := [⟨83, 3, fn', .slice A8 fn' k8, fsCells xfs⟩, bxRow 32 3 (w.heap.size + 3) [.slice none 0 0, .slice A4 k c4, .int .i64 q]]) (r := ⟨49, 3, k, .slice A4 k c4, l'.flatMap hcells⟩) (post := l'.flatMap hrows) (by simpa [two, flat_nil] using hR9) hg4 ho4 hloc
          have hlo4 : ∀ z, (Value.slice A4 k c4).ownBlock = some z → w.heap.size + 2 ≤ z := own_lt htop
          have hne : ∀ z, z < w.heap.size + 2 → some z ≠ (Value.slice A4 k c4).ownBlock := fun z hz e => by have := hlo4 z e.symm; omega
          rw [e0] at hrun
          refine ⟨A5, c5, w4, hrun, ?_, hB9.grown hg4 hB9.size (fun z hz => by have := hlo4 z hz; omega), hK0.kept hg4 (hne _ (by omega)), hK1.kept hg4 (hne _ (by omega))⟩
          have e1 : (l' ++ [(⟨⟨xn, xlv, xfs⟩, .slice A8 fn' k8, fn'⟩ : HndV)]).flatMap hcells = l'.flatMap hcells ++ [txt xn, .int .i64 xlv, .slice A8 fn' k8] := by simp [hcells]
          simpa [two, flat_nil, e1] using hR4))
      have s0 : (0 : Int) ≤ (k : Int) := by omega
      have s1 : (k : Int) < (n2 : Int) := by omega
      have s2 : ((k : Int)).toNat = k := by simp
      have HX := hid hx
      have HP := hid hp
      have HCo := hid (And.intro g0 (And.intro g1 g2))
      have hwr : w.heap.size < wr.heap.size := by omega
      have hbr : b < wr.heap.size := by omega
      clear hx hp hps hfs g0 g1 g2
      go_wp2_with fail
      refine wp_region_held_drew (S := (fun w' : World => w'.cell? ⟨w.heap.size, 1, none⟩ = some (.slice (some ⟨b, o, none⟩) n2 k2) ∧ w'.cell? ⟨b, o + k * 3, none⟩ = some (.string p) ∧ w'.cell? ⟨b, o + k * 3 + 1, none⟩ = some (.int .i64 xlv) ∧ w'.cell? ⟨b, o + k * 3 + 2, none⟩ = some (.slice A6 fn' k6))) (by kernel_rfl) ⟨d1, c0, c1, c2⟩ (fun hS => ?_)
      refine wpAnyH_take (i := 0) (oi := ?oi101) (v := ?v101) ?hi101 (by kernel_rfl) ?hf101 ?hr101 ?hQ101 (Or.inl ⟨?hw101, ?hy101⟩) (by assumption) ?rest101
      case hi101 => simp only [List.getElem?_toArray, List.getElem?_cons_succ, List.getElem?_cons_zero]; rfl
      case hf101 => kernel_rfl
      case hr101 => kernel_rfl
      case hw101 => rfl
      case hy101 => (intro w hSw; (try dsimp only at hSw); go_simp; all_goals (first | done | with_reducible rfl))
      case hQ101 => exact fun _ _ _ h => h
      simp only [Act.put, List.setIfInBounds_toArray, List.set_cons_zero, List.set_cons_succ]
      refine wpAnyH_take (i := 2) (oi := ?oi102) (v := ?v102) ?hi102 (by kernel_rfl) ?hf102 ?hr102 ?hQ102 (Or.inl ⟨?hw102, ?hy102⟩) (by assumption) ?rest102
      case hi102 => simp only [List.getElem?_toArray, List.getElem?_cons_succ, List.getElem?_cons_zero]; rfl
      case hf102 => kernel_rfl
      case hr102 => kernel_rfl
      case hw102 => rfl
      case hy102 => (intro w hSw; (try dsimp only at hSw); go_simp; all_goals (first | done | with_reducible rfl))
      case hQ102 => exact fun _ _ _ h => h
      simp only [Act.put, List.setIfInBounds_toArray, List.set_cons_zero, List.set_cons_succ]
      refine wpAnyH_take (i := 3) (oi := ?oi103) (v := ?v103) ?hi103 (by kernel_rfl) ?hf103 ?hr103 ?hQ103 (Or.inl ⟨?hw103, ?hy103⟩) (by assumption) ?rest103
      case hi103 => simp only [List.getElem?_toArray, List.getElem?_cons_succ, List.getElem?_cons_zero]; rfl
      case hf103 => kernel_rfl
      case hr103 => kernel_rfl
      case hw103 => rfl
      case hy103 => (intro w hSw; (try dsimp only at hSw); go_simp; all_goals (first | done | with_reducible rfl))
      case hQ103 => exact fun _ _ _ h => h
      simp only [Act.put, List.setIfInBounds_toArray, List.set_cons_zero, List.set_cons_succ]
      refine wpAnyH_take (i := 4) (oi := ?oi104) (v := ?v104) ?hi104 (by kernel_rfl) ?hf104 ?hr104 ?hQ104 (Or.inl ⟨?hw104, ?hy104⟩) (by assumption) ?rest104
      case hi104 => simp only [List.getElem?_toArray, List.getElem?_cons_succ, List.getElem?_cons_zero]; rfl
      case hf104 => kernel_rfl
      case hr104 => kernel_rfl
      case hw104 => rfl
      case hy104 => (intro w hSw; (try dsimp only at hSw); go_simp; all_goals (first | done | with_reducible rfl))
      case hQ104 => exact fun _ _ _ h => h
      simp only [Act.put, List.setIfInBounds_toArray, List.set_cons_zero, List.set_cons_succ]
      refine wpAnyH_take (i := 5) (oi := ?oi105) (v := ?v105) ?hi105 (by kernel_rfl) ?hf105 ?hr105 ?hQ105 (Or.inl ⟨?hw105, ?hy105⟩) (by assumption) ?rest105
      case hi105 => simp only [List.getElem?_toArray, List.getElem?_cons_succ, List.getElem?_cons_zero]; rfl
      case hf105 => kernel_rfl
      case hr105 => kernel_rfl
      case hw105 => rfl
      case hy105 => (intro w hSw; (try dsimp only at hSw); go_simp; all_goals (first | done | with_reducible rfl))
      case hQ105 => exact fun _ _ _ h => h
      simp only [Act.put, List.setIfInBounds_toArray, List.set_cons_zero, List.set_cons_succ]
      refine wpAnyH_take (i := 6) (oi := ?oi106) (v := ?v106) ?hi106 (by kernel_rfl) ?hf106 ?hr106 ?hQ106 (Or.inl ⟨?hw106, ?hy106⟩) (by assumption) ?rest106
      case hi106 => simp only [List.getElem?_toArray, List.getElem?_cons_succ, List.getElem?_cons_zero]; rfl
      case hf106 => kernel_rfl
      case hr106 => kernel_rfl
      case hw106 => rfl
      case hy106 => (intro w hSw; (try dsimp only at hSw); go_simp; all_goals (first | done | with_reducible rfl))
      case hQ106 => exact fun _ _ _ h => h
      simp only [Act.put, List.setIfInBounds_toArray, List.set_cons_zero, List.set_cons_succ]
      refine wpAnyH_ready (rs := [1, 7]) (by kernel_rfl) (by simp) ?_
      refine AllReadyH.cons (o := ?oi107) ?hi107 (fun K hK => ?stepA107) (AllReadyH.cons (o := ?oj107) ?hj107 (fun K hK => ?stepB107) AllReadyH.nil)
      case hi107 => simp only [List.getElem?_toArray, List.getElem?_cons_succ, List.getElem?_cons_zero]; rfl
      case hj107 => simp only [List.getElem?_toArray, List.getElem?_cons_succ, List.getElem?_cons_zero]; rfl
      all_goals rw [if_pos (by rfl)]
      all_goals go_simp
      · refine hK.out _ _ hS (fun _ => ?_)
        refine wpAnyH_ready (rs := [7]) (by kernel_rfl) (by simp) ?_
        refine AllReadyH.cons (o := ?oi108) ?hi108 (fun K hK => ?step108) AllReadyH.nil
        case hi108 => simp only [List.getElem?_toArray, List.getElem?_cons_succ, List.getElem?_cons_zero]; rfl
        rw [if_pos (by rfl)]
        go_simp
        go_at_call 55
        refine (CH.out _ HBx.out.drew).mono ?_
        rintro e w9 ⟨v8, rfl, ho9, hb9⟩
        obtain ⟨A8, k8, rfl, _, _⟩ := (Sl.of_own ho9).form
        obtain ⟨A5, c5, w4, hrun, hR4, hB4, hK4, hK5⟩ := ARM.out w9 A8 k8 ho9 hb9
        have hS9 : w9.cell? ⟨w.heap.size, 1, none⟩ = some (.slice (some ⟨b, o, none⟩) n2 k2) ∧ w9.cell? ⟨b, o + k * 3, none⟩ = some (.string p) ∧ w9.cell? ⟨b, o + k * 3 + 1, none⟩ = some (.int .i64 xlv) ∧ w9.cell? ⟨b, o + k * 3 + 2, none⟩ = some (.slice A6 fn' k6) := ⟨(hb9.cell (p := ⟨w.heap.size, _, none⟩) hwr).trans d1, (hb9.cell (p := ⟨b, _, none⟩) hbr).trans c0, (hb9.cell (p := ⟨b, _, none⟩) hbr).trans c1, (hb9.cell (p := ⟨b, _, none⟩) hbr).trans c2⟩
        have h9s : w.heap.size + 3 < w9.heap.size := Nat.lt_of_lt_of_le hsz hb9.size
        have hSa : (w9.alloc (.cells #[.string p, .int .i64 xlv, .slice A8 fn' k8] 49)).cell? ⟨w.heap.size, 1, none⟩ = some (.slice (some ⟨b, o, none⟩) n2 k2) ∧ (w9.alloc (.cells #[.string p, .int .i64 xlv, .slice A8 fn' k8] 49)).cell? ⟨b, o + k * 3, none⟩ = some (.string p) ∧ (w9.alloc (.cells #[.string p, .int .i64 xlv, .slice A8 fn' k8] 49)).cell? ⟨b, o + k * 3 + 1, none⟩ = some (.int .i64 xlv) ∧ (w9.alloc (.cells #[.string p, .int .i64 xlv, .slice A8 fn' k8] 49)).cell? ⟨b, o + k * 3 + 2, none⟩ = some (.slice A6 fn' k6) := ⟨(World.cell?_alloc_past _ _ _ (show w.heap.size < _ by omega)).trans hS9.1, (World.cell?_alloc_past _ _ _ (show b < _ by omega)).trans hS9.2.1, (World.cell?_alloc_past _ _ _ (show b < _ by omega)).trans hS9.2.2.1, (World.cell?_alloc_past _ _ _ (show b < _ by omega)).trans hS9.2.2.2⟩
        have S4 := And.intro (hK4.2 1 _ rfl).1 (And.intro ((hB4.cell (p := ⟨b, _, none⟩) hbw).trans HCo.out.1) (And.intro ((hB4.cell (p := ⟨b, _, none⟩) hbw).trans HCo.out.2.1) ((hB4.cell (p := ⟨b, _, none⟩) hbw).trans HCo.out.2.2)))
        have o9 := (hb9.cell (p := ⟨w.heap.size + 3, 1, none⟩) hsz).trans o1
        have oa : (w9.alloc (.cells #[.string p, .int .i64 xlv, .slice A8 fn' k8] 49)).cell? ⟨w.heap.size + 3, 1, none⟩ = _ := (World.cell?_alloc_past _ _ _ h9s).trans o9
        have o4 := (hR4.bcell2 (q := 1) rfl).1
        have o4f := (hR4.bcell2 (q := 1) rfl).2.1
        have HRun := hid hrun
        have HR4 := hid hR4
        have HB4 := hid hB4
        have HK4 := hid (And.intro hK4 hK5)
        clear hrun hR4 hB4 hK4 hK5 ho9
        refine hK.out _ _ hS9 (fun _ => ?_)
        refine wpAnyH_ready (rs := [8]) (by kernel_rfl) (by simp) ?_
        refine AllReadyH.cons (o := ?oi109) ?hi109 (fun K hK => ?step109) AllReadyH.nil
        case hi109 => simp only [List.getElem?_toArray, List.getElem?_cons_succ, List.getElem?_cons_zero]; rfl
        rw [if_pos (by rfl)]
        go_simp
        refine hK.out _ _ hSa (fun _ => ?_)
        refine wpAnyH_ready (rs := [9]) (by kernel_rfl) (by simp) ?_
        refine AllReadyH.cons (o := ?oi110) ?hi110 (fun K hK => ?step110) AllReadyH.nil
        case hi110 => simp only [List.getElem?_toArray, List.getElem?_cons_succ, List.getElem?_cons_zero]; rfl
        rw [if_pos (by rfl)]
        refine wp_app rfl (by rfl) (by rfl) HRun.out ?_
        refine hK.out _ _ S4 (fun _ => ?_)
        simp only [Act.put, List.setIfInBounds_toArray, List.set_cons_zero, List.set_cons_succ]
        refine wpAnyH_take (i := 10) (oi := ?oi111) (v := ?v111) ?hi111 (by kernel_rfl) ?hf111 ?hr111 ?hQ111 (Or.inl ⟨?hw111, ?hy111⟩) (by assumption) ?rest111
        case hi111 => simp only [List.getElem?_toArray, List.getElem?_cons_succ, List.getElem?_cons_zero]; rfl
        case hf111 => kernel_rfl
        case hr111 => kernel_rfl
        case hw111 => rfl
        case hy111 => (intro w hSw; (try dsimp only at hSw); go_simp; all_goals (first | done | with_reducible rfl))
        case hQ111 => exact fun _ _ _ h => h
        simp only [Act.put, List.setIfInBounds_toArray, List.set_cons_zero, List.set_cons_succ]
        refine wpAnyH_ready (rs := [11]) (by kernel_rfl) (by simp) ?_
        refine AllReadyH.cons (o := ?oi112) ?hi112 (fun K hK => ?step112) AllReadyH.nil
        case hi112 => simp only [List.getElem?_toArray, List.getElem?_cons_succ, List.getElem?_cons_zero]; rfl
        rw [if_pos (by rfl)]
        go_simp
        refine hK.out _ _ ⟨(World.cell?_setCell_far _ _ _ _ (show w.heap.size + 1 + 1 + 1 ≠ w.heap.size by omega)).trans S4.1, (World.cell?_setCell_far _ _ _ _ (show w.heap.size + 1 + 1 + 1 ≠ b by omega)).trans S4.2.1, (World.cell?_setCell_far _ _ _ _ (show w.heap.size + 1 + 1 + 1 ≠ b by omega)).trans S4.2.2.1, (World.cell?_setCell_far _ _ _ _ (show w.heap.size + 1 + 1 + 1 ≠ b by omega)).trans S4.2.2.2⟩ (fun _ => ?_)
        refine wpAnyH_done (by kernel_rfl) ?_ _
        clear hS9 hSa S4 o9 oa o4 o4f o1 d1 c0 c1 c2
        have HR5 := hid (HR4.out.boxset (j := 1) (u := .slice A5 (k + 1) c5))
        go_wp2_with fail
        go_roundw
        case rel =>
          refine ⟨k + 1, l' ++ [⟨⟨xn, xlv, xfs⟩, .slice A8 fn' k8, fn'⟩], A5, c5, by go_num, by omega, ⟨?_, by rw [List.length_append, HC.out.2]; rfl⟩, ?_, ⟨HK4.out.1.apart _ _ (show w.heap.size + 1 + 1 + 1 ≠ w.heap.size by omega), HK4.out.2.apart _ _ (show w.heap.size + 1 + 1 + 1 ≠ w.heap.size + 1 by omega)⟩, HB4.out.setCell (show w.heap.size ≤ w.heap.size + 1 + 1 + 1 by omega) _⟩
          · unfold hsOf at HC ⊢
            rw [List.map_append, HC.out.1, List.take_add_one, HX.out, List.map_append]; rfl
          · rw [List.flatMap_append]
            have h7 := HR5.out.perm (perm_hand _ _ _ _)
            exact h7
        case measure => simp [intOf]; omega
      · go_at_call 55
        refine (CH.out _ HBx.out.drew).mono ?_
        rintro e w9 ⟨v8, rfl, ho9, hb9⟩
        obtain ⟨A8, k8, rfl, _, _⟩ := (Sl.of_own ho9).form
        obtain ⟨A5, c5, w4, hrun, hR4, hB4, hK4, hK5⟩ := ARM.out w9 A8 k8 ho9 hb9
        have hS9 : w9.cell? ⟨w.heap.size, 1, none⟩ = some (.slice (some ⟨b, o, none⟩) n2 k2) ∧ w9.cell? ⟨b, o + k * 3, none⟩ = some (.string p) ∧ w9.cell? ⟨b, o + k * 3 + 1, none⟩ = some (.int .i64 xlv) ∧ w9.cell? ⟨b, o + k * 3 + 2, none⟩ = some (.slice A6 fn' k6) := ⟨(hb9.cell (p := ⟨w.heap.size, _, none⟩) hwr).trans d1, (hb9.cell (p := ⟨b, _, none⟩) hbr).trans c0, (hb9.cell (p := ⟨b, _, none⟩) hbr).trans c1, (hb9.cell (p := ⟨b, _, none⟩) hbr).trans c2⟩
        have h9s : w.heap.size + 3 < w9.heap.size := Nat.lt_of_lt_of_le hsz hb9.size
        have hSa : (w9.alloc (.cells #[.string p, .int .i64 xlv, .slice A8 fn' k8] 49)).cell? ⟨w.heap.size, 1, none⟩ = some (.slice (some ⟨b, o, none⟩) n2 k2) ∧ (w9.alloc (.cells #[.string p, .int .i64 xlv, .slice A8 fn' k8] 49)).cell? ⟨b, o + k * 3, none⟩ = some (.string p) ∧ (w9.alloc (.cells #[.string p, .int .i64 xlv, .slice A8 fn' k8] 49)).cell? ⟨b, o + k * 3 + 1, none⟩ = some (.int .i64 xlv) ∧ (w9.alloc (.cells #[.string p, .int .i64 xlv, .slice A8 fn' k8] 49)).cell? ⟨b, o + k * 3 + 2, none⟩ = some (.slice A6 fn' k6) := ⟨(World.cell?_alloc_past _ _ _ (show w.heap.size < _ by omega)).trans hS9.1, (World.cell?_alloc_past _ _ _ (show b < _ by omega)).trans hS9.2.1, (World.cell?_alloc_past _ _ _ (show b < _ by omega)).trans hS9.2.2.1, (World.cell?_alloc_past _ _ _ (show b < _ by omega)).trans hS9.2.2.2⟩
        have S4 := And.intro (hK4.2 1 _ rfl).1 (And.intro ((hB4.cell (p := ⟨b, _, none⟩) hbw).trans HCo.out.1) (And.intro ((hB4.cell (p := ⟨b, _, none⟩) hbw).trans HCo.out.2.1) ((hB4.cell (p := ⟨b, _, none⟩) hbw).trans HCo.out.2.2)))
        have o9 := (hb9.cell (p := ⟨w.heap.size + 3, 1, none⟩) hsz).trans o1
        have oa : (w9.alloc (.cells #[.string p, .int .i64 xlv, .slice A8 fn' k8] 49)).cell? ⟨w.heap.size + 3, 1, none⟩ = _ := (World.cell?_alloc_past _ _ _ h9s).trans o9
        have o4 := (hR4.bcell2 (q := 1) rfl).1
        have o4f := (hR4.bcell2 (q := 1) rfl).2.1
        have HRun := hid hrun
        have HR4 := hid hR4
        have HB4 := hid hB4
        have HK4 := hid (And.intro hK4 hK5)
        clear hrun hR4 hB4 hK4 hK5 ho9
        refine hK.out _ _ hS9 (fun _ => ?_)
        refine wpAnyH_ready (rs := [1, 8]) (by kernel_rfl) (by simp) ?_
        refine AllReadyH.cons (o := ?oi113) ?hi113 (fun K hK => ?stepA113) (AllReadyH.cons (o := ?oj113) ?hj113 (fun K hK => ?stepB113) AllReadyH.nil)
        case hi113 => simp only [List.getElem?_toArray, List.getElem?_cons_succ, List.getElem?_cons_zero]; rfl
        case hj113 => simp only [List.getElem?_toArray, List.getElem?_cons_succ, List.getElem?_cons_zero]; rfl
        all_goals rw [if_pos (by rfl)]
        all_goals go_simp
        · refine hK.out _ _ hS9 (fun _ => ?_)
          refine wpAnyH_ready (rs := [8]) (by kernel_rfl) (by simp) ?_
          refine AllReadyH.cons (o := ?oi114) ?hi114 (fun K hK => ?step114) AllReadyH.nil
          case hi114 => simp only [List.getElem?_toArray, List.getElem?_cons_succ, List.getElem?_cons_zero]; rfl
          rw [if_pos (by rfl)]
          go_simp
          refine hK.out _ _ hSa (fun _ => ?_)
          refine wpAnyH_ready (rs := [9]) (by kernel_rfl) (by simp) ?_
          refine AllReadyH.cons (o := ?oi115) ?hi115 (fun K hK => ?step115) AllReadyH.nil
          case hi115 => simp only [List.getElem?_toArray, List.getElem?_cons_succ, List.getElem?_cons_zero]; rfl
          rw [if_pos (by rfl)]
          refine wp_app rfl (by rfl) (by rfl) HRun.out ?_
          refine hK.out _ _ S4 (fun _ => ?_)
          simp only [Act.put, List.setIfInBounds_toArray, List.set_cons_zero, List.set_cons_succ]
          refine wpAnyH_take (i := 10) (oi := ?oi116) (v := ?v116) ?hi116 (by kernel_rfl) ?hf116 ?hr116 ?hQ116 (Or.inl ⟨?hw116, ?hy116⟩) (by assumption) ?rest116
          case hi116 => simp only [List.getElem?_toArray, List.getElem?_cons_succ, List.getElem?_cons_zero]; rfl
          case hf116 => kernel_rfl
          case hr116 => kernel_rfl
          case hw116 => rfl
          case hy116 => (intro w hSw; (try dsimp only at hSw); go_simp; all_goals (first | done | with_reducible rfl))
          case hQ116 => exact fun _ _ _ h => h
          simp only [Act.put, List.setIfInBounds_toArray, List.set_cons_zero, List.set_cons_succ]
          refine wpAnyH_ready (rs := [11]) (by kernel_rfl) (by simp) ?_
          refine AllReadyH.cons (o := ?oi117) ?hi117 (fun K hK => ?step117) AllReadyH.nil
          case hi117 => simp only [List.getElem?_toArray, List.getElem?_cons_succ, List.getElem?_cons_zero]; rfl
          rw [if_pos (by rfl)]
          go_simp
          refine hK.out _ _ ⟨(World.cell?_setCell_far _ _ _ _ (show w.heap.size + 1 + 1 + 1 ≠ w.heap.size by omega)).trans S4.1, (World.cell?_setCell_far _ _ _ _ (show w.heap.size + 1 + 1 + 1 ≠ b by omega)).trans S4.2.1, (World.cell?_setCell_far _ _ _ _ (show w.heap.size + 1 + 1 + 1 ≠ b by omega)).trans S4.2.2.1, (World.cell?_setCell_far _ _ _ _ (show w.heap.size + 1 + 1 + 1 ≠ b by omega)).trans S4.2.2.2⟩ (fun _ => ?_)
          refine wpAnyH_done (by kernel_rfl) ?_ _
          clear hS9 hSa S4 o9 oa o4 o4f o1 d1 c0 c1 c2
          have HR5 := hid (HR4.out.boxset (j := 1) (u := .slice A5 (k + 1) c5))
          go_wp2_with fail
          go_roundw
          case rel =>
            refine ⟨k + 1, l' ++ [⟨⟨xn, xlv, xfs⟩, .slice A8 fn' k8, fn'⟩], A5, c5, by go_num, by omega, ⟨?_, by rw [List.length_append, HC.out.2]; rfl⟩, ?_, ⟨HK4.out.1.apart _ _ (show w.heap.size + 1 + 1 + 1 ≠ w.heap.size by omega), HK4.out.2.apart _ _ (show w.heap.size + 1 + 1 + 1 ≠ w.heap.size + 1 by omega)⟩, HB4.out.setCell (show w.heap.size ≤ w.heap.size + 1 + 1 + 1 by omega) _⟩
            · unfold hsOf at HC ⊢
              rw [List.map_append, HC.out.1, List.take_add_one, HX.out, List.map_append]; rfl
            · rw [List.flatMap_append]
              have h7 := HR5.out.perm (perm_hand _ _ _ _)
              exact h7
          case measure => simp [intOf]; omega
        · refine hK.out _ _ hSa (fun _ => ?_)
          refine wpAnyH_ready (rs := [1]) (by kernel_rfl) (by simp) ?_
          refine AllReadyH.cons (o := ?oi118) ?hi118 (fun K hK => ?step118) AllReadyH.nil
          case hi118 => simp only [List.getElem?_toArray, List.getElem?_cons_succ, List.getElem?_cons_zero]; rfl
          rw [if_pos (by rfl)]
          go_simp
          refine hK.out _ _ hSa (fun _ => ?_)
          refine wpAnyH_ready (rs := [9]) (by kernel_rfl) (by simp) ?_
          refine AllReadyH.cons (o := ?oi119) ?hi119 (fun K hK => ?step119) AllReadyH.nil
          case hi119 => simp only [List.getElem?_toArray, List.getElem?_cons_succ, List.getElem?_cons_zero]; rfl
          rw [if_pos (by rfl)]
          refine wp_app rfl (by rfl) (by rfl) HRun.out ?_
          refine hK.out _ _ S4 (fun _ => ?_)
          simp only [Act.put, List.setIfInBounds_toArray, List.set_cons_zero, List.set_cons_succ]
          refine wpAnyH_take (i := 10) (oi := ?oi120) (v := ?v120) ?hi120 (by kernel_rfl) ?hf120 ?hr120 ?hQ120 (Or.inl ⟨?hw120, ?hy120⟩) (by assumption) ?rest120
          case hi120 => simp only [List.getElem?_toArray, List.getElem?_cons_succ, List.getElem?_cons_zero]; rfl
          case hf120 => kernel_rfl
          case hr120 => kernel_rfl
          case hw120 => rfl
          case hy120 => (intro w hSw; (try dsimp only at hSw); go_simp; all_goals (first | done | with_reducible rfl))
          case hQ120 => exact fun _ _ _ h => h
          simp only [Act.put, List.setIfInBounds_toArray, List.set_cons_zero, List.set_cons_succ]
          refine wpAnyH_ready (rs := [11]) (by kernel_rfl) (by simp) ?_
          refine AllReadyH.cons (o := ?oi121) ?hi121 (fun K hK => ?step121) AllReadyH.nil
          case hi121 => simp only [List.getElem?_toArray, List.getElem?_cons_succ, List.getElem?_cons_zero]; rfl
          rw [if_pos (by rfl)]
          go_simp
          refine hK.out _ _ ⟨(World.cell?_setCell_far _ _ _ _ (show w.heap.size + 1 + 1 + 1 ≠ w.heap.size by omega)).trans S4.1, (World.cell?_setCell_far _ _ _ _ (show w.heap.size + 1 + 1 + 1 ≠ b by omega)).trans S4.2.1, (World.cell?_setCell_far _ _ _ _ (show w.heap.size + 1 + 1 + 1 ≠ b by omega)).trans S4.2.2.1, (World.cell?_setCell_far _ _ _ _ (show w.heap.size + 1 + 1 + 1 ≠ b by omega)).trans S4.2.2.2⟩ (fun _ => ?_)
          refine wpAnyH_done (by kernel_rfl) ?_ _
          clear hS9 hSa S4 o9 oa o4 o4f o1 d1 c0 c1 c2
          have HR5 := hid (HR4.out.boxset (j := 1) (u := .slice A5 (k + 1) c5))
          go_wp2_with fail
          go_roundw
          case rel =>
            refine ⟨k + 1, l' ++ [⟨⟨xn, xlv, xfs⟩, .slice A8 fn' k8, fn'⟩], A5, c5, by go_num, by omega, ⟨?_, by rw [List.length_append, HC.out.2]; rfl⟩, ?_, ⟨HK4.out.1.apart _ _ (show w.heap.size + 1 + 1 + 1 ≠ w.heap.size by omega), HK4.out.2.apart _ _ (show w.heap.size + 1 + 1 + 1 ≠ w.heap.size + 1 by omega)⟩, HB4.out.setCell (show w.heap.size ≤ w.heap.size + 1 + 1 + 1 by omega) _⟩
            · unfold hsOf at HC ⊢
              rw [List.map_append, HC.out.1, List.take_add_one, HX.out, List.map_append]; rfl
            · rw [List.flatMap_append]
              have h7 := HR5.out.perm (perm_hand _ _ _ _)
              exact h7
          case measure => simp [intOf]; omega
    · obtain rfl : k = n2 := by omega
      obtain ⟨iS, hSi, hSz0, hSz1, hSz2⟩ := info_parts Try.infoStr
      obtain ⟨iF, hFi, hFz0, hFz1, hFz2⟩ := info_parts Try.infoFlt
      obtain ⟨iL, hLi, hLz0, hLz1, hLz2⟩ := info_parts Try.infoLogger
      have d1 := (HKx.out.1.2 1 _ rfl).1
      have HCh := hid (show hsOf l' = hsOf hs by rw [HC.out.1, List.take_of_length_le (by rw [HV.out.2.1.count]; exact Nat.le_refl _)])
      have HCn := hid HC.out.2
      have HRy := hid (show Rows wr (w.heap.size + 2) ([] ++ [bxRow 32 3 (w.heap.size + 3) [.slice none 0 0, .slice A4 k c4, .int .i64 q]] ++ (⟨65, 6, 0, .slice none 0 0, ([] : List LgrV).flatMap lcells⟩ :: (([] : List LgrV).flatMap lrows ++ two 49 3 k (.slice A4 k c4) hcells hrows l'))) from by
        have h1 : Rows wr (w.heap.size + 2) ([] ++ [bxRow 32 3 (w.heap.size + 3) [.slice none 0 0, .slice A4 k c4, .int .i64 q]] ++ two 49 3 k (.slice A4 k c4) hcells hrows l') := by
          have := HRx.out
          simpa [two, flat_nil] using this
        have h2 := h1.newer (rs' := [⟨65, 6, 0, .slice none 0 0, []⟩]) (Below.refl _ _) (Rows.one (World.ownsRow_nil _ _ _ _)) (by omega)
        refine h2.perm ?_
        simp only [List.nil_append, List.flatMap_nil, List.cons_append]
        exact List.Perm.swap _ _ _)
      clear HC
      go_wp2_with fail
      clear d1
      go_loopw [5] (fun iv wx => ∃ (j : Nat) (ls' : List LgrV) (A3 : Option Addr) (c3 : Nat), iv = .int .i64 j ∧ j ≤ n1 ∧ Hid (lsOf ls' = lsOf (ls.take j) ∧ ls'.length = j) ∧ Hid (Rows wx (w.heap.size + 2) ([] ++ [bxRow 32 3 (w.heap.size + 3) [.slice A3 j c3, .slice A4 k c4, .int .i64 q]] ++ (⟨65, 6, j, .slice A3 j c3, ls'.flatMap lcells⟩ :: (ls'.flatMap lrows ++ two 49 3 k (.slice A4 k c4) hcells hrows l')))) ∧
        Hid (Blk wx w.heap.size [.slice A1 n1 k1, .slice A2 k k2, .int .i64 q] ∧ Blk wx (w.heap.size + 1) [.slice none 0 0, .slice none 0 0, .int .i64 0]) ∧ Hid (Below w.heap.size w wx)) (fun iv _ => n1 - (intOf iv).toNat)
      case atStart => exact ⟨0, [], none, 0, rfl, by omega, ⟨rfl, rfl⟩, HRy.out, HKx.out, HBx.out⟩
      case round =>
        obtain ⟨j, ls', A3, c3, rfl, hj, HCl, HRl, HKl, HBl⟩ := hrel
        have hszl := (HRl.out.bcell2 (q := 0) rfl).2.2
        have d0 := (HKl.out.1.2 0 _ rfl).1
        by_cases hlt2 : j < n1
        · obtain ⟨b, o, x, p, rfl, hbB, hx, hp, hps, hts, hfs, g0, g1, g2, g3, g4, g5⟩ := HV.out.1.at_ hlt2
          have hxn := HV.out.2.2 x (List.mem_of_getElem? hx)
          have hxf := HF1.out x (List.mem_of_getElem? hx)
          obtain ⟨A5, k5, e5, _, _⟩ := hts.1.form
          obtain ⟨A6, k6, e6, _, _⟩ := hfs.1.form
          obtain ⟨⟨xn, xlv, xhs, xfs, xst, xof⟩, xhv, hn', xfv, fn'⟩ := x
          simp only at e5 e6 hts hfs hxf hxn hp g1 g2 g3 g4 g5
          subst e5 e6
          have hbw : b < w.heap.size := by omega
          have c0 := (HBl.out.cell (p := ⟨b, o + j * 6, none⟩) hbw).trans g0
          have c1 := (HBl.out.cell (p := ⟨b, o + j * 6 + 1, none⟩) hbw).trans g1
          have c2 := (HBl.out.cell (p := ⟨b, o + j * 6 + 2, none⟩) hbw).trans g2
          have c3' := (HBl.out.cell (p := ⟨b, o + j * 6 + 3, none⟩) hbw).trans g3
          have c4' := (HBl.out.cell (p := ⟨b, o + j * 6 + 4, none⟩) hbw).trans g4
          have c5' := (HBl.out.cell (p := ⟨b, o + j * 6 + 5, none⟩) hbw).trans g5
          have hwr : w.heap.size < wr.heap.size := by omega
          have hbx : b < wr.heap.size := by omega
          have hb1 : Below wr.heap.size wr (wr.alloc (.cells #[.string p, .int .i64 xlv, .slice A5 hn' k5, .slice A6 fn' k6, .bool xst, .bool xof] 65)) := (Below.refl _ _).alloc (Nat.le_refl _) _
          have HRa := hid (HRl.out.newer hb1 (Rows.box wr #[.string p, .int .i64 xlv, .slice A5 hn' k5, .slice A6 fn' k6, .bool xst, .bool xof] 65 6 rfl) (by omega))
          have HSt := hid (hts.1.below (HBl.out.trans (hb1.mono HBl.out.size)) hB)
          have HSf := hid hfs.1
          have HX := hid hx
          have HP := hid hp
          have HB1 := hid (HBl.out.trans (hb1.mono HBl.out.size))
          have HK1 := hid (And.intro (HKl.out.1.to hb1) (HKl.out.2.to hb1))
          clear hx hp hps hts hfs g0 g1 g2 g3 g4 g5 hb1
          go_wp2_with (at_builtin; refine wpList_appSl _ rfl _ _ 27 rfl (wr.heap.size + 1) 9 iS _ 1 16 Try.underlying27 hSi hSz0 hSz1 hSz2 rfl (by decide) (.slice (some ⟨wr.heap.size + 1, 0, none⟩) 0 0) 0 [] (by rfl) (by have := World.ownsRow_lit (e := 9) (size := 1) (base := wr.heap.size + 1) (wr.alloc (.cells #[.string p, .int .i64 xlv, .slice A5 hn' k5, .slice A6 fn' k6, .bool xst, .bool xof] 65)) #[] 0 (by simp) (by unfold maxLen; omega) (by simp); simpa using this) B hn' _ _ (by rfl) (HSt.out.below ((Below.refl _ _).alloc (Nat.le_refl _) _) (Nat.le_trans hB HB1.out.size)) (txts_one xhs) (by unfold maxLen; omega) (by omega) (by simp) ?_)
          intro v3 w3 ho3 hb3
          have ho3' : w3.ownsRow (wr.heap.size + 1) 9 1 v3 hn' (xhs.map txt) := by simpa using ho3
          obtain ⟨A7, k7, rfl, _, _⟩ := (Sl.of_own ho3').form
          have hb13 : Below (wr.alloc (.cells #[.string p, .int .i64 xlv, .slice A5 hn' k5, .slice A6 fn' k6, .bool xst, .bool xof] 65)).heap.size (wr.alloc (.cells #[.string p, .int .i64 xlv, .slice A5 hn' k5, .slice A6 fn' k6, .bool xst, .bool xof] 65)) w3 := ((Below.refl _ _).alloc (Nat.le_refl _) _).trans (by simpa using hb3)
          have HRb := hid (show Rows w3 (w.heap.size + 2) ([⟨9, 1, hn', .slice A7 hn' k7, xhs.map txt⟩] ++ [bxRow 65 6 wr.heap.size [.string p, .int .i64 xlv, .slice A5 hn' k5, .slice A6 fn' k6, .bool xst, .bool xof]] ++ ([bxRow 32 3 (w.heap.size + 3) [.slice A3 j c3, .slice A4 k c4, .int .i64 q]] ++ (⟨65, 6, j, .slice A3 j c3, ls'.flatMap lcells⟩ :: (ls'.flatMap lrows ++ two 49 3 k (.slice A4 k c4) hcells hrows l')))) from by
            have := HRa.out.newer hb13 (Rows.one (r := ⟨9, 1, hn', .slice A7 hn' k7, xhs.map txt⟩) (by have := ho3'; simpa [Row.own] using this)) (by simp; omega)
            simpa [List.append_assoc] using this)
          have HRc := hid (HRb.out.boxset (j := 2) (u := .slice A7 hn' k7))
          have HB3 := hid (HB1.out.trans (hb13.mono HB1.out.size))
          have HK3 := hid (And.intro (HK1.out.1.to hb13) (HK1.out.2.to hb13))
          have m2 := (HRb.out.bcell2 (q := 2) rfl)
          have m2a := m2.1
          have m2b := m2.2.1
          have m3 := (HRb.out.bcell2 (q := 3) rfl).1
          have hz3 : wr.heap.size < w3.heap.size := m2.2.2
          have hz3b : w.heap.size + 3 < w3.heap.size := by omega
          have HB3s := hid (HB3.out.setCell (p := ⟨wr.heap.size, 2, none⟩) (show w.heap.size ≤ wr.heap.size by omega) (.slice A7 hn' k7))
          have hsfx : Sl (w3.setCell ⟨wr.heap.size, 2, none⟩ (.slice A7 hn' k7)) B 3 fn' (.slice A6 fn' k6) (fsCells xfs) := HSf.out.below HB3s.out hB
          have HSfx := hid hsfx
          clear ho3 ho3' hb3 hb13 hsfx c0 c1 c2 c3' c4' c5' m2 d0
          go_wp2_with (at_builtin; refine wpList_appSl _ rfl _ _ 47 rfl w3.heap.size 83 iF _ 3 32 Try.underlying47 hFi hFz0 hFz1 hFz2 rfl (by decide) (.slice (some ⟨w3.heap.size, 0, none⟩) 0 0) 0 [] (by rfl) (by have := World.ownsRow_lit (e := 83) (size := 3) (base := w3.heap.size) (w3.setCell ⟨wr.heap.size, 2, none⟩ (.slice A7 hn' k7)) #[] 0 (by simp) (by unfold maxLen; omega) (by simp); simpa using this) B fn' _ _ (by rfl) (HSfx.out.below ((Below.refl _ _).alloc (Nat.le_refl _) _) (by simp; exact Nat.le_trans hB HB3.out.size)) (flts_one xfs) (by unfold maxLen; omega) (by omega) (by simp) ?_)
          intro v4 w4 ho4 hb4
          have ho4' : w4.ownsRow w3.heap.size 83 3 v4 fn' (fsCells xfs) := by simpa using ho4
          obtain ⟨A8, k8, rfl, _, _⟩ := (Sl.of_own ho4').form
          have hb14 : Below (w3.setCell ⟨wr.heap.size, 2, none⟩ (.slice A7 hn' k7)).heap.size (w3.setCell ⟨wr.heap.size, 2, none⟩ (.slice A7 hn' k7)) w4 := ((Below.refl _ _).alloc (Nat.le_refl _) _).trans (by simpa using hb4)
          have HRd := hid (show Rows w4 (w.heap.size + 2) (([⟨83, 3, fn', .slice A8 fn' k8, fsCells xfs⟩] ++ [⟨9, 1, hn', .slice A7 hn' k7, xhs.map txt⟩]) ++ [bxRow 65 6 wr.heap.size [.string p, .int .i64 xlv, .slice A7 hn' k7, .slice A6 fn' k6, .bool xst, .bool xof]] ++ ([bxRow 32 3 (w.heap.size + 3) [.slice A3 j c3, .slice A4 k c4, .int .i64 q]] ++ (⟨65, 6, j, .slice A3 j c3, ls'.flatMap lcells⟩ :: (ls'.flatMap lrows ++ two 49 3 k (.slice A4 k c4) hcells hrows l')))) from by
            have := HRc.out.newer hb14 (Rows.one (r := ⟨83, 3, fn', .slice A8 fn' k8, fsCells xfs⟩) (by have := ho4'; simpa [Row.own] using this)) (by simp; omega)
            simpa [List.append_assoc] using this)
          have HRe := hid (HRd.out.boxset (j := 3) (u := .slice A8 fn' k8))
          have HB4 := hid (HB3s.out.trans (hb14.mono HB3s.out.size))
          have HK4 := hid (And.intro ((HK3.out.1.apart ⟨wr.heap.size, 2, none⟩ (.slice A7 hn' k7) (show wr.heap.size ≠ w.heap.size by omega)).to hb14) ((HK3.out.2.apart ⟨wr.heap.size, 2, none⟩ (.slice A7 hn' k7) (show wr.heap.size ≠ w.heap.size + 1 by omega)).to hb14))
          have y0 := (HRd.out.bcell2 (q := 0) rfl).1
          have y1 := (HRd.out.bcell2 (q := 1) rfl).1
          have y2 := (HRd.out.bcell2 (q := 2) rfl).1
          have y3 := (HRd.out.bcell2 (q := 3) rfl)
          have y3a := y3.1
          have y3b := y3.2.1
          have y4 := (HRd.out.bcell2 (q := 4) rfl).1
          have y5 := (HRd.out.bcell2 (q := 5) rfl).1
          have hz4 : wr.heap.size < w4.heap.size := y3.2.2
          have HRd2 := hid (show Rows w4 (w.heap.size + 2) ([⟨83, 3, fn', .slice A8 fn' k8, fsCells xfs⟩, ⟨9, 1, hn', .slice A7 hn' k7, xhs.map txt⟩, bxRow 65 6 wr.heap.size [.string p, .int .i64 xlv, .slice A7 hn' k7, .slice A6 fn' k6, .bool xst, .bool xof]] ++ [bxRow 32 3 (w.heap.size + 3) [.slice A3 j c3, .slice A4 k c4, .int .i64 q]] ++ (⟨65, 6, j, .slice A3 j c3, ls'.flatMap lcells⟩ :: (ls'.flatMap lrows ++ two 49 3 k (.slice A4 k c4) hcells hrows l'))) from by
            have := HRd.out
            simpa [List.append_assoc] using this)
          have o0 := (HRd2.out.bcell2 (q := 0) rfl).1
          have htop : (w4.setCell ⟨wr.heap.size, 3, none⟩ (.slice A8 fn' k8)).ownsRow (w.heap.size + 2) 65 6 (.slice A3 j c3) j (ls'.flatMap lcells) := HRe.out.1 ⟨65, 6, j, .slice A3 j c3, ls'.flatMap lcells⟩ (by simp)
          have HT := hid htop
          have hone : ∀ u ∈ [.string p, .int .i64 xlv, .slice A7 hn' k7, .slice A8 fn' k8, .bool xst, .bool xof], Value.oneCell' u = true := by
            intro u hu
            simp only [List.mem_cons, List.not_mem_nil, or_false] at hu
            rcases hu with rfl | rfl | rfl | rfl | rfl | rfl <;> rfl
          have HOne := hid hone
          have hz4b : w.heap.size + 3 < w4.heap.size := by omega
          have hszc : (w4.setCell ⟨wr.heap.size, 3, none⟩ (.slice A8 fn' k8)).heap.size = w4.heap.size := by simp
          clear ho4 ho4' hb4 hb14 htop hone y3 m2a m2b m3
          go_wp2_with (at_builtin; go_loud (refine wpList_app1L _ rfl (.tmp 52) (.tmp 54) 29 rfl (w.heap.size + 2) 65 iL _ 6 80 Try.underlying29 hLi hLz0 hLz1 hLz2 rfl (by decide) _ j _ (by rfl) HT.out [.string p, .int .i64 xlv, .slice A7 hn' k7, .slice A8 fn' k8, .bool xst, .bool xof] 1 _ (by rw [hszc]; rfl) rfl HOne.out (by unfold maxLen; omega) (by omega) (by simp; omega) ?_))
          intro v5 w5 ho5 hg5 hloc
          obtain ⟨A9, c9, rfl, _, _⟩ := (Sl.of_own ho5).form
          have HRf := hid (Rows.app (pre := [⟨83, 3, fn', .slice A8 fn' k8, fsCells xfs⟩, ⟨9, 1, hn', .slice A7 hn' k7, xhs.map txt⟩, bxRow 65 6 wr.heap.size [.string p, .int .i64 xlv, .slice A7 hn' k7, .slice A8 fn' k8, .bool xst, .bool xof], bxRow 32 3 (w.heap.size + 3) [.slice A3 j c3, .slice A4 k c4, .int .i64 q]]) (r := ⟨65, 6, j, .slice A3 j c3, ls'.flatMap lcells⟩) (post := ls'.flatMap lrows ++ two 49 3 k (.slice A4 k c4) hcells hrows l') (by have := HRe.out; simpa [List.append_assoc] using this) hg5 ho5 (by rw [hszc]; exact hloc))
          have HRg := hid (show Rows w5 (w.heap.size + 2) ([⟨83, 3, fn', .slice A8 fn' k8, fsCells xfs⟩, ⟨9, 1, hn', .slice A7 hn' k7, xhs.map txt⟩, bxRow 65 6 wr.heap.size [.string p, .int .i64 xlv, .slice A7 hn' k7, .slice A8 fn' k8, .bool xst, .bool xof]] ++ [bxRow 32 3 (w.heap.size + 3) [.slice A3 j c3, .slice A4 k c4, .int .i64 q]] ++ (⟨65, 6, j + 1, .slice A9 (j + 1) c9, ls'.flatMap lcells ++ [.string p, .int .i64 xlv, .slice A7 hn' k7, .slice A8 fn' k8, .bool xst, .bool xof]⟩ :: (ls'.flatMap lrows ++ two 49 3 k (.slice A4 k c4) hcells hrows l'))) from by
            have := HRf.out
            simpa [List.append_assoc] using this)
          have HRh := hid (HRg.out.boxset (j := 0) (u := .slice A9 (j + 1) c9))
          have hlo5 : ∀ z, (Value.slice A3 j c3).ownBlock = some z → w.heap.size + 2 ≤ z := own_lt HT.out
          have hne : ∀ z, z < w.heap.size + 2 → some z ≠ (Value.slice A3 j c3).ownBlock := fun z hz e => by have := hlo5 z e.symm; omega
          have HB5 := hid ((HB4.out.setCell (p := ⟨wr.heap.size, 3, none⟩) (show w.heap.size ≤ wr.heap.size by omega) (.slice A8 fn' k8)).grown hg5 (by simp; omega) (fun z hz => by have := hlo5 z hz; omega))
          have HK5 := hid (And.intro ((HK4.out.1.apart ⟨wr.heap.size, 3, none⟩ (.slice A8 fn' k8) (show wr.heap.size ≠ w.heap.size by omega)).kept hg5 (hne _ (by omega))) ((HK4.out.2.apart ⟨wr.heap.size, 3, none⟩ (.slice A8 fn' k8) (show wr.heap.size ≠ w.heap.size + 1 by omega)).kept hg5 (hne _ (by omega))))
          have z0 := (HRg.out.bcell2 (q := 0) rfl)
          have z0a := z0.1
          have z0b := z0.2.1
          clear ho5 hg5 hloc hlo5 hne z0 y0 y1 y2 y3a y3b y4 y5 o0
          go_wp2_with fail
          go_roundw
          case rel =>
            refine ⟨j + 1, ls' ++ [⟨⟨xn, xlv, xhs, xfs, xst, xof⟩, .slice A7 hn' k7, hn', .slice A8 fn' k8, fn'⟩], A9, c9, by go_num, by omega, ⟨?_, by rw [List.length_append, HCl.out.2]; rfl⟩, ?_, ⟨HK5.out.1.apart _ _ (show w.heap.size + 1 + 1 + 1 ≠ w.heap.size by omega), HK5.out.2.apart _ _ (show w.heap.size + 1 + 1 + 1 ≠ w.heap.size + 1 by omega)⟩, HB5.out.setCell (show w.heap.size ≤ w.heap.size + 1 + 1 + 1 by omega) _⟩
            · unfold lsOf at HCl ⊢
              rw [List.map_append, HCl.out.1, List.take_add_one, HX.out, List.map_append]; rfl
            · have e0 : txt xn = .string p := by rw [← HP.out, txt_data]
              have e1 : (ls' ++ [(⟨⟨xn, xlv, xhs, xfs, xst, xof⟩, .slice A7 hn' k7, hn', .slice A8 fn' k8, fn'⟩ : LgrV)]).flatMap lcells = ls'.flatMap lcells ++ [.string p, .int .i64 xlv, .slice A7 hn' k7, .slice A8 fn' k8, .bool xst, .bool xof] := by simp [lcells, e0]
              have e2 : (ls' ++ [(⟨⟨xn, xlv, xhs, xfs, xst, xof⟩, .slice A7 hn' k7, hn', .slice A8 fn' k8, fn'⟩ : LgrV)]).flatMap lrows = ls'.flatMap lrows ++ [⟨9, 1, hn', .slice A7 hn' k7, xhs.map txt⟩, ⟨83, 3, fn', .slice A8 fn' k8, fsCells xfs⟩] := by simp [lrows]
              rw [e1, e2]
              have h7 := HRh.out.perm (perm_lgr _ _ _ _ _ _ _)
              exact (h7.sub (List.sublist_append_left _ _))
          case measure => simp [intOf]; omega
        · obtain rfl : j = n1 := by omega
          have o0 := (HRl.out.bcell2 (q := 0) rfl).1
          have o1 := (HRl.out.bcell2 (q := 1) rfl).1
          have o2 := (HRl.out.bcell2 (q := 2) rfl).1
          obtain ⟨q0c, q0f⟩ := HKl.out.2.2 0 _ rfl
          obtain ⟨q1c, q1f⟩ := HKl.out.2.2 1 _ rfl
          obtain ⟨q2c, q2f⟩ := HKl.out.2.2 2 _ rfl
          have HCe := hid (show lsOf ls' = lsOf ls by rw [HCl.out.1, List.take_of_length_le (by rw [HV.out.1.count]; exact Nat.le_refl _)])
          have HCm := hid HCl.out.2
          clear HCl
          go_wp2_with fail
          have RB := ((HKl.out.2.set 0 (.slice A3 j c3)).set 1 (.slice A4 k c4)).set 2 (.int .i64 q)
          have f0 := (RB.2 0 _ rfl).1
          have f1 := (RB.2 1 _ rfl).1
          have f2 := (RB.2 2 _ rfl).1
          refine bodyPost_ret (v := .agg #[.slice A3 j c3, .slice A4 k c4, .int .i64 q]) (by simp [results, Try.results54, go_sem, f0, f1, f2]) rfl ?_
          refine ⟨_, _, rfl, ⟨_, _, ls', l', rfl, HCe.out, HCh.out, rfl⟩, ?_, ?_⟩
          · refine Rows.base ?_ (show w.heap.size ≤ w.heap.size + 2 by omega)
            iterate 3 refine Rows.low ?_ (by omega)
            have h9 := HRl.out.sub (List.sublist_append_right _ _)
            rw [treeRows_eq, HCm.out, HCn.out]
            simp only [two, flat_nil, List.append_assoc, List.cons_append, List.nil_append] at h9 ⊢
            exact h9
          · iterate 3 refine Below.setCell ?_ (by simp) _
            exact HBl.out
end Go.Proofs.Ytbidlmejonpadaa
