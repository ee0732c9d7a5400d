/-
  WARNINGS SHOWN: what an action compares, of the program; its set; the action for a warning.
-/
import Derived.Test.YtlifaeleoiodkaaGreatDoorSW1
import Derived.Test.YtlifaeleoiodkaaGreatDoorApp
namespace Go.Proofs.YtlifaeleoiodkaaGreatDoor
open Go.RowKit Go.Proofs.YtlifaeleoiodkaaGreatDoor.Nm
open Go.WideMaps
set_option linter.unusedSimpArgs false
set_option linter.unusedVariables false

set_option maxHeartbeats 1000000 in
set_option maxRecDepth 100000 in
theorem sightOf_c (a ln : Int) (tx md : ByteArray) (w : World) (ha : a = 2 ∨ a = 3 ∨ a = 4) :
    Calls Tryz.prog 81 #[.int .i64 a, .agg #[.string tx, .string md, .int .i64 ln]] w (fun e w' => e = .returned (sgV (sgt a ⟨tx.data.toList, md.data.toList, ln⟩)) ∧ Below w.heap.size w w') := by
  rcases ha with rfl | rfl | rfl
  · go_enter Tryz.func81, Tryz.ntmps81
    go_wp2_with fail
    have K := Blk.new (w.alloc (.cells #[.string tx, .string ⟨#[]⟩, .int .i64 0] 59)) #[.int .i64 2, .string tx, .string ⟨#[]⟩, .int .i64 0] 133
    simp only [World.size_alloc] at K
    have f0 := (K.2 0 _ rfl).1
    have f1 := (K.2 1 _ rfl).1
    have f2 := (K.2 2 _ rfl).1
    have f3 := (K.2 3 _ rfl).1
    refine bodyPost_ret (v := .agg #[.int .i64 2, .string tx, .string ⟨#[]⟩, .int .i64 0]) (by simp [results, Tryz.results81, go_sem, f0, f1, f2, f3]) rfl ?_
    exact ⟨by simp [sgV, sgt, txt_data]; try rfl, ((Below.refl _ _).alloc (Nat.le_refl _) _).alloc (by simp) _⟩
  · go_enter Tryz.func81, Tryz.ntmps81
    go_wp2_with fail
    have K := Blk.new (w.alloc (.cells #[.string tx, .string md, .int .i64 0] 59)) #[.int .i64 3, .string tx, .string md, .int .i64 0] 133
    simp only [World.size_alloc] at K
    have f0 := (K.2 0 _ rfl).1
    have f1 := (K.2 1 _ rfl).1
    have f2 := (K.2 2 _ rfl).1
    have f3 := (K.2 3 _ rfl).1
    refine bodyPost_ret (v := .agg #[.int .i64 3, .string tx, .string md, .int .i64 0]) (by simp [results, Tryz.results81, go_sem, f0, f1, f2, f3]) rfl ?_
    exact ⟨by simp [sgV, sgt, txt_data]; try rfl, ((Below.refl _ _).alloc (Nat.le_refl _) _).alloc (by simp) _⟩
  · go_enter Tryz.func81, Tryz.ntmps81
    go_wp2_with fail
    have K := Blk.new (w.alloc (.cells #[.string tx, .string md, .int .i64 ln] 59)) #[.int .i64 4, .string tx, .string md, .int .i64 ln] 133
    simp only [World.size_alloc] at K
    have f0 := (K.2 0 _ rfl).1
    have f1 := (K.2 1 _ rfl).1
    have f2 := (K.2 2 _ rfl).1
    have f3 := (K.2 3 _ rfl).1
    refine bodyPost_ret (v := .agg #[.int .i64 4, .string tx, .string md, .int .i64 ln]) (by simp [results, Tryz.results81, go_sem, f0, f1, f2, f3]) rfl ?_
    exact ⟨by simp [sgV, sgt, txt_data]; try rfl, ((Below.refl _ _).alloc (Nat.le_refl _) _).alloc (by simp) _⟩

set_option maxHeartbeats 4000000 in
set_option maxRecDepth 100000 in
theorem putAll_c (ss : List Sgt) (M m n g c base : Nat) (f : Sgt → Bool) (w : World) (hM : SetK w M m f) (ho : w.ownsRow base 133 4 (.slice (some ⟨g, 0, none⟩) n c) n (ss.flatMap sgcells)) (hg : g ≠ M) (hn : m + n ≤ 1000) (hf : ∀ s ∈ ss, sgFit s) :
    Calls Tryz.prog 82 #[.map (some M), .slice (some ⟨g, 0, none⟩) n c] w (fun e w' => e = .returned (.tuple #[]) ∧ SetK w' M (m + n) (fun s => decide (s ∈ ss) || f s) ∧ w.grownBy w' (some M)) := by
  obtain ⟨A, c9, e9, hnc, hcm⟩ := (Sl.of_own ho).form
  obtain rfl : c9 = c := by injection e9 with _ _ h; exact h.symm
  clear e9
  unfold maxLen at hcm
  have hl : ss.length = n := Sl.count sgcells_len (Sl.of_own ho) (by omega)
  have HO := hid (And.intro ho (And.intro hf hl))
  have HM0 := hid hM
  clear ho hf hM hl
  go_enter Tryz.func82, Tryz.ntmps82
  go_wp2_with fail
  go_loopw [8] (fun iv wr => ∃ (k : Nat), iv = .int .i64 k ∧ k ≤ n ∧ Hid (SetK wr M (m + k) (fun s => decide (s ∈ ss.take k) || f s)) ∧ Hid (w.grownBy wr (some M))) (fun iv _ => n - (intOf iv).toNat)
  case atStart => exact ⟨0, rfl, Nat.zero_le _, HM0.out.congr (fun s => by simp), World.grownBy.refl _ _⟩
  case round =>
    obtain ⟨k, rfl, hk, HM, HG⟩ := hrel
    by_cases hlt : k < n
    · obtain ⟨b, o, s, hA, hbB, hx, c0, c1, c2, c3⟩ := Sl.sgt_at (Sl.of_own (HO.out.1.kept HG.out (by right; intro e; exact hg (Option.some.inj e)))) hlt
      obtain ⟨rfl, rfl⟩ : g = b ∧ 0 = o := by simpa using hA
      have hs := HO.out.2.1 s (List.mem_of_getElem? hx)
      have HX := hid hx
      have HM2 := hid (HM.out.alloc' (.cells #[.int .i64 s.ac, .string ⟨s.tx.toArray⟩, .string ⟨s.md.toArray⟩, .int .i64 s.ln] 133))
      have HG2 := hid (grown_tr HG.out (World.grownBy_alloc wr (.cells #[.int .i64 s.ac, .string ⟨s.tx.toArray⟩, .string ⟨s.md.toArray⟩, .int .i64 s.ln] 133) (some M)))
      simp only [Nat.zero_add] at c0 c1 c2 c3
      have HS := hid hs
      clear hx hA hs
      go_wp2_with (at_mapUpdate; refine wpList_setK _ HM2.out rfl _ _ _ rfl rfl (by unfold maxLen; omega) s HS.out true (by rfl) rfl ?_)
      intro w9 hM9 hg9
      have HM9 := hid hM9
      have HG9 := hid (grown_tr HG2.out hg9)
      clear hM9 hg9 c0 c1 c2 c3
      go_wp2_with fail
      go_roundw
      case rel =>
        refine ⟨k + 1, by go_num, by omega, HM9.out.congr fun t => ?_, HG9.out⟩
        rw [List.take_add_one, HX.out]
        by_cases ht : t = s <;> simp [ht]
      case measure => simp [intOf]; omega
    · obtain rfl : k = n := by omega
      go_wp2_with fail
      go_end0
      exact ⟨rfl, HM.out.congr (fun s => by rw [List.take_of_length_le (by rw [HO.out.2.2]; exact Nat.le_refl _)]), HG.out⟩

set_option maxHeartbeats 2000000 in
set_option maxRecDepth 100000 in
theorem implAction_c (v : Value) (n B : Nat) (rs : List Rul) (tx md : ByteArray) (ln : Int) (w : World) (hv : Ruls w B n v rs) (hB : B ≤ w.heap.size) (h1 : tx.size ≤ maxTxt) (h2 : md.size ≤ maxTxt) (hr : rulsOk rs = true) (hw : wrnOk ⟨tx.data.toList, md.data.toList, ln⟩ = true) :
    Calls Tryz.prog 80 #[v, .agg #[.string tx, .string md, .int .i64 ln]] w (fun e w' => e = .returned (.int .i64 (actX rs ⟨tx.data.toList, md.data.toList, ln⟩)) ∧ Below w.heap.size w w') := by
  have HB0 := hid (show Below w.heap.size w (w.alloc (.cells #[.string tx, .string md, .int .i64 ln] 59)) from (Below.refl _ _).alloc (Nat.le_refl _) _)
  have C := hid (fun (W : World) (hW : Below w.heap.size w W) => (show Calls Tryz.prog 116 #[v, .agg #[.string tx, .string md, .int .i64 ln]] W (fun e w' => e = .returned (.int .i64 (ruleIx rs ⟨tx.data.toList, md.data.toList, ln⟩)) ∧ Below W.heap.size W w') by have h9 := implRuleOf_c v n B rs tx md ln W (hv.below hW hB) (Nat.le_trans hB hW.size) h1 h2; unfold ruleX at h9; rw [hr, hw] at h9; exact h9))
  have hln := hv.count
  have HV := hid hv
  have hc := act_cases rs ⟨tx.data.toList, md.data.toList, ln⟩
  obtain ⟨A, c, rfl, hnc, hcm⟩ := hv.1.form
  unfold maxLen at hcm
  generalize actX rs ⟨tx.data.toList, md.data.toList, ln⟩ = X at *
  generalize ruleIx rs ⟨tx.data.toList, md.data.toList, ln⟩ = ix at *
  generalize hnn : rs.length = n1 at *
  obtain rfl : n1 = n := hln
  replace hnn := hid hnn
  clear hv
  rcases hc with ⟨rfl, rfl⟩ | ⟨k, x, rfl, hx, hk, rfl⟩
  · go_enter Tryz.func80, Tryz.ntmps80
    go_wp2_with fail
    refine (C.out _ HB0.out).mono ?_
    rintro e w1 ⟨rfl, hb⟩
    have HB1 := hid (HB0.out.trans (hb.mono HB0.out.size))
    clear hb
    go_wp2_with fail
    go_ret
    exact ⟨rfl, HB1.out⟩
  · go_enter Tryz.func80, Tryz.ntmps80
    go_wp2_with fail
    refine (C.out _ HB0.out).mono ?_
    rintro e w1 ⟨rfl, hb⟩
    have HB1 := hid (HB0.out.trans (hb.mono HB0.out.size))
    clear hb
    obtain ⟨b, o, ac, wd, md', ln', rfl, hbB, hx', c0, c1, c2, c3⟩ := rucells_at (HV.out.below HB1.out hB).1 hk
    obtain rfl : x = ⟨ac, wd.data.toList, md'.data.toList, ln'⟩ := by rw [hx] at hx'; exact Option.some.inj hx'
    have k0 : ¬ ((k : Int) < 0) := by omega
    have k1 : (k : Int) < (n1 : Int) := by omega
    clear hx hx' c1 c2 c3
    go_wp2_with fail
    go_ret
    exact ⟨rfl, HB1.out⟩

set_option maxHeartbeats 2000000 in
set_option maxRecDepth 100000 in
theorem specAction_c (v : Value) (n B : Nat) (rs : List Rul) (tx md : ByteArray) (ln : Int) (w : World) (hv : Ruls w B n v rs) (hB : B ≤ w.heap.size) (h1 : tx.size ≤ maxTxt) (h2 : md.size ≤ maxTxt) :
    Calls Tryz.prog 71 #[v, .agg #[.string tx, .string md, .int .i64 ln]] w (fun e w' => e = .returned (.int .i64 (actX rs ⟨tx.data.toList, md.data.toList, ln⟩)) ∧ Below w.heap.size w w') := by
  have HB0 := hid (show Below w.heap.size w (w.alloc (.cells #[.string tx, .string md, .int .i64 ln] 59)) from (Below.refl _ _).alloc (Nat.le_refl _) _)
  have C := hid (fun (W : World) (hW : Below w.heap.size w W) => specRuleIx_c v n B rs tx md ln W (hv.below hW hB) (Nat.le_trans hB hW.size) (by unfold maxTxt at h1; omega) (by unfold maxTxt at h2; omega))
  have hln := hv.count
  have HV := hid hv
  have hc := act_cases rs ⟨tx.data.toList, md.data.toList, ln⟩
  obtain ⟨A, c, rfl, hnc, hcm⟩ := hv.1.form
  unfold maxLen at hcm
  generalize actX rs ⟨tx.data.toList, md.data.toList, ln⟩ = X at *
  generalize ruleIx rs ⟨tx.data.toList, md.data.toList, ln⟩ = ix at *
  generalize hnn : rs.length = n1 at *
  obtain rfl : n1 = n := hln
  replace hnn := hid hnn
  clear hv
  rcases hc with ⟨rfl, rfl⟩ | ⟨k, x, rfl, hx, hk, rfl⟩
  · go_enter Tryz.func71, Tryz.ntmps71
    go_wp2_with fail
    refine (C.out _ HB0.out).mono ?_
    rintro e w1 ⟨rfl, hb⟩
    have HB1 := hid (HB0.out.trans (hb.mono HB0.out.size))
    clear hb
    go_wp2_with fail
    go_ret
    exact ⟨rfl, HB1.out⟩
  · go_enter Tryz.func71, Tryz.ntmps71
    go_wp2_with fail
    refine (C.out _ HB0.out).mono ?_
    rintro e w1 ⟨rfl, hb⟩
    have HB1 := hid (HB0.out.trans (hb.mono HB0.out.size))
    clear hb
    obtain ⟨b, o, ac, wd, md', ln', rfl, hbB, hx', c0, c1, c2, c3⟩ := rucells_at (HV.out.below HB1.out hB).1 hk
    obtain rfl : x = ⟨ac, wd.data.toList, md'.data.toList, ln'⟩ := by rw [hx] at hx'; exact Option.some.inj hx'
    have k0 : ¬ ((k : Int) < 0) := by omega
    have k1 : (k : Int) < (n1 : Int) := by omega
    clear hx hx' c1 c2 c3
    go_wp2_with fail
    go_ret
    exact ⟨rfl, HB1.out⟩
end Go.Proofs.YtlifaeleoiodkaaGreatDoor
