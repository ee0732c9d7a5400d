/-
  A TREE PATCHED WITH LEVELS OF ANOTHER ONE: PatchTree of the program and of the model. By gen_pt3.py.
-/
import Derived.Test.YtbidlmejonpadaaPT2
namespace Go.Proofs.Ytbidlmejonpadaa
open Go.RowKit Nm
set_option linter.unusedSimpArgs false
set_option linter.unusedVariables false

theorem post_none {w w' : World} {e : Ending} {L : List Lgr} {H : List Hnd} {q : Int} (hL : L = []) (hH : H = []) (hq : q = 0) (he : e = .returned (.agg #[.slice none 0 0, .slice none 0 0, .int .i64 0])) (hb : Below w.heap.size w w') : TreePost w L H q e w' := by
  subst hL hH hq
  exact ⟨_, _, he, ⟨_, _, [], [], rfl, rfl, rfl, rfl⟩, Rows.none2 _ _, hb⟩

set_option maxHeartbeats 8000000 in
set_option maxRecDepth 100000 in
theorem implPatchTree_c {w : World} {B B' : Nat} {v vb : Value} {L : List Lgr} {H : List Hnd} {q : Int} {Lb : List Lgr} {Hb : List Hnd} {qb : Int} (h : TreeIn w B v L H q) (hB : B ≤ w.heap.size) (h' : TreeIn w B' vb Lb Hb qb) (hB' : B' ≤ w.heap.size) :
    Calls Try.prog 34 #[v, vb] w (TreePost w (resL (patX L H q Lb Hb qb)) (resH (patX L H q Lb Hb qb)) (resQ (patX L H q Lb Hb qb))) := by
  obtain ⟨A1, n1, k1, A2, n2, k2, rfl⟩ := h.form
  obtain ⟨B1, m1, j1, B2, m2, j2, rfl⟩ := h'.form
  have HW := hid (show Below w.heap.size w (((w.alloc (.cells #[.slice A1 n1 k1, .slice A2 n2 k2, .int .i64 q] 32)).alloc (.cells #[.slice B1 m1 j1, .slice B2 m2 j2, .int .i64 qb] 32)).alloc (.cells #[.slice none 0 0, .slice none 0 0, .int .i64 0] 32)) from (((Below.refl _ _).alloc (Nat.le_refl _) _).alloc (by simp) _).alloc (by simp; omega) _)
  have KA := hid (((Blk.new w #[.slice A1 n1 k1, .slice A2 n2 k2, .int .i64 q] 32).alloc (.cells #[.slice B1 m1 j1, .slice B2 m2 j2, .int .i64 qb] 32)).alloc (.cells #[.slice none 0 0, .slice none 0 0, .int .i64 0] 32))
  have KB := hid ((Blk.new (w.alloc (.cells #[.slice A1 n1 k1, .slice A2 n2 k2, .int .i64 q] 32)) #[.slice B1 m1 j1, .slice B2 m2 j2, .int .i64 qb] 32).alloc (.cells #[.slice none 0 0, .slice none 0 0, .int .i64 0] 32))
  have KR := hid (Blk.new ((w.alloc (.cells #[.slice A1 n1 k1, .slice A2 n2 k2, .int .i64 q] 32)).alloc (.cells #[.slice B1 m1 j1, .slice B2 m2 j2, .int .i64 qb] 32)) #[.slice none 0 0, .slice none 0 0, .int .i64 0] 32)
  simp only [World.size_alloc] at KB KR
  have hsz3 : (((w.alloc (.cells #[.slice A1 n1 k1, .slice A2 n2 k2, .int .i64 q] 32)).alloc (.cells #[.slice B1 m1 j1, .slice B2 m2 j2, .int .i64 qb] 32)).alloc (.cells #[.slice none 0 0, .slice none 0 0, .int .i64 0] 32)).heap.size = w.heap.size + 3 := by simp
  have CV := implValidTreeX_c (h'.below HW.out hB') (Nat.le_trans hB' HW.out.size)
  have hmf : ∀ (fn : Fn) (first cap : Array Value) (w : World), (Instr.makeFunc fn first cap).run Try.prog w = .ok (.func fn first cap) w := fun _ _ _ _ => rfl
  have HT := hid h
  have HT' := hid h'
  clear h h'
  have d0 := (KB.out.2 0 _ rfl).1
  have d1 := (KB.out.2 1 _ rfl).1
  have d2 := (KB.out.2 2 _ rfl).1
  cases hz : treeOk Lb Hb qb with
  | false =>
    have HX := hid (show patX L H q Lb Hb qb = none by unfold patX; rw [hz]; rfl)
    rw [hz] at CV
    generalize patX L H q Lb Hb qb = X at *
    replace CV := hid CV
    clear hz
    go_enter Try.func34, Try.ntmps34
    go_wp2_with fail
    refine (CV.out).mono ?_
    rintro e w4 ⟨rfl, hb4⟩
    have HW4 := hid (HW.out.trans (hb4.mono HW.out.size))
    have KR4 := hid (KR.out.to hb4)
    clear hb4 d0 d1 d2 hsz3
    obtain ⟨q0c, q0f⟩ := KR4.out.2 0 _ rfl
    obtain ⟨q1c, q1f⟩ := KR4.out.2 1 _ rfl
    obtain ⟨q2c, q2f⟩ := KR4.out.2 2 _ rfl
    go_wp2_with fail
    have RB := ((KR4.out.set 0 (.slice none 0 0)).set 1 (.slice none 0 0)).set 2 (.int .i64 0)
    have f0 := (RB.2 0 _ rfl).1
    have f1 := (RB.2 1 _ rfl).1
    have f2 := (RB.2 2 _ rfl).1
    refine bodyPost_ret (v := .agg #[.slice none 0 0, .slice none 0 0, .int .i64 0]) (by simp [results, Try.results34, go_sem, f0, f1, f2]) rfl ?_
    refine post_none (by rw [HX.out]; rfl) (by rw [HX.out]; rfl) (by rw [HX.out]; rfl) rfl ?_
    iterate 3 refine Below.setCell ?_ (by simp; try omega) _
    exact HW4.out
  | true =>
    have HX := hid (show patX L H q Lb Hb qb = changedO L H q (some (L.map (patL Lb), H.map (patH Hb), qb)) by unfold patX; rw [hz]; rfl)
    rw [hz] at CV
    generalize patX L H q Lb Hb qb = X at *
    replace CV := hid CV
    have HZ := hid hz
    clear hz
    go_enter Try.func34, Try.ntmps34
    go_wp2_with fail
    refine (CV.out).mono ?_
    rintro e w4 ⟨rfl, hb4⟩
    have HW4 := hid (HW.out.trans (hb4.mono HW.out.size))
    have KA4 := hid (KA.out.to hb4)
    have KB4 := hid (KB.out.to hb4)
    have KR4 := hid (KR.out.to hb4)
    have hw4 : w.heap.size + 3 ≤ w4.heap.size := by have := hb4.size; rw [hsz3] at this; exact this
    have CQ := hid (implChanged1_c 73 (.pointer (some ⟨w.heap.size + 1, 0, none⟩)) (some (L.map (patL Lb), H.map (patH Hb), qb)) (HT.out.below HW4.out hB) (Nat.le_trans hB HW4.out.size) (fun args w => enters rfl (by kernel_rfl) rfl args w)
      (fun W lo bc v1 v2 rs hok hp => patClo_c (HT'.out.below HW4.out hB') (Nat.le_trans hB' HW4.out.size) KB4.out HZ.out hok W lo bc v1 v2 rs hp))
    clear hb4 d0 d1 d2 hsz3
    have d0 := (KA4.out.2 0 _ rfl).1
    have d1 := (KA4.out.2 1 _ rfl).1
    have d2 := (KA4.out.2 2 _ rfl).1
    go_wp2_with fail
    refine (CQ.out).mono ?_
    rintro e w5 ⟨v', rs, rfl, hs, hr, hb5⟩
    have HX' := hid (show changedO L H q (some (L.map (patL Lb), H.map (patH Hb), qb)) = X from HX.out.symm)
    rw [HX'.out] at hs
    obtain ⟨u1, u2, ls, hs', rfl, hL, hH, rfl⟩ := hs
    have HB5 := hid (HW4.out.trans (hb5.mono HW4.out.size))
    have HS5 := hid (show TreeS (treeRows ls.length u1 ls hs'.length u2 hs') (.agg #[u1, u2, .int .i64 (resQ X)]) (resL X) (resH X) (resQ X) from ⟨u1, u2, ls, hs', rfl, hL, hH, rfl⟩)
    obtain ⟨hl, hh⟩ := hr.lsIn
    obtain ⟨A3, c3, rfl, _, _⟩ := hl.1.form
    obtain ⟨A4, c4, rfl, _, _⟩ := hh.1.form
    have HR5 := hid hr
    have KR5 := hid ((KR4.out.to hb5).alloc (.cells #[.slice A3 ls.length c3, .slice A4 hs'.length c4, .int .i64 (resQ X)] 32))
    have HBa := hid (show Below w5.heap.size w5 (w5.alloc (.cells #[.slice A3 ls.length c3, .slice A4 hs'.length c4, .int .i64 (resQ X)] 32)) from (Below.refl _ _).alloc (Nat.le_refl _) _)
    generalize hq0 : resQ X = q0 at *
    generalize hi0 : (changedO L H q (some (L.map (patL Lb), H.map (patH Hb), qb))).isSome = i0 at *
    clear hq0 hi0 hb5 hr hl hh hL hH d0 d1 d2
    obtain ⟨q0c, q0f⟩ := KR5.out.2 0 _ rfl
    obtain ⟨q1c, q1f⟩ := KR5.out.2 1 _ rfl
    obtain ⟨q2c, q2f⟩ := KR5.out.2 2 _ rfl
    go_wp2_with fail
    have RB := ((KR5.out.set 0 (.slice A3 ls.length c3)).set 1 (.slice A4 hs'.length c4)).set 2 (.int .i64 q0)
    have f0 := (RB.2 0 _ rfl).1
    have f1 := (RB.2 1 _ rfl).1
    have f2 := (RB.2 2 _ rfl).1
    refine bodyPost_ret (v := .agg #[.slice A3 ls.length c3, .slice A4 hs'.length c4, .int .i64 q0]) (by simp [results, Try.results34, go_sem, f0, f1, f2]) rfl ?_
    refine ⟨_, _, rfl, HS5.out, ?_, ?_⟩
    · refine Rows.base ?_ (show w.heap.size ≤ w4.heap.size by omega)
      iterate 3 refine Rows.low ?_ (by omega)
      exact HR5.out.below HBa.out
    · iterate 3 refine Below.setCell ?_ (by simp; try omega) _
      exact HB5.out.trans (HBa.out.mono HB5.out.size)

set_option maxHeartbeats 16000000 in
set_option maxRecDepth 100000 in
theorem specPatchTree_c {w : World} {B B' : Nat} {v vb : Value} {L : List Lgr} {H : List Hnd} {q : Int} {Lb : List Lgr} {Hb : List Hnd} {qb : Int} (h : TreeIn w B v L H q) (hB : B ≤ w.heap.size) (h' : TreeIn w B' vb Lb Hb qb) (hB' : B' ≤ w.heap.size) :
    Calls Try.prog 33 #[v, vb] w (TreePost w (resL (patX L H q Lb Hb qb)) (resH (patX L H q Lb Hb qb)) (resQ (patX L H q Lb Hb qb))) := by
  obtain ⟨A1, n1, k1, A2, n2, k2, rfl⟩ := h.form
  obtain ⟨B1, m1, j1, B2, m2, j2, rfl⟩ := h'.form
  have HW := hid (show Below w.heap.size w (((w.alloc (.cells #[.slice A1 n1 k1, .slice A2 n2 k2, .int .i64 q] 32)).alloc (.cells #[.slice B1 m1 j1, .slice B2 m2 j2, .int .i64 qb] 32)).alloc (.cells #[.slice none 0 0, .slice none 0 0, .int .i64 0] 32)) from (((Below.refl _ _).alloc (Nat.le_refl _) _).alloc (by simp) _).alloc (by simp; omega) _)
  have KA := hid (((Blk.new w #[.slice A1 n1 k1, .slice A2 n2 k2, .int .i64 q] 32).alloc (.cells #[.slice B1 m1 j1, .slice B2 m2 j2, .int .i64 qb] 32)).alloc (.cells #[.slice none 0 0, .slice none 0 0, .int .i64 0] 32))
  have KB := hid ((Blk.new (w.alloc (.cells #[.slice A1 n1 k1, .slice A2 n2 k2, .int .i64 q] 32)) #[.slice B1 m1 j1, .slice B2 m2 j2, .int .i64 qb] 32).alloc (.cells #[.slice none 0 0, .slice none 0 0, .int .i64 0] 32))
  have KR := hid (Blk.new ((w.alloc (.cells #[.slice A1 n1 k1, .slice A2 n2 k2, .int .i64 q] 32)).alloc (.cells #[.slice B1 m1 j1, .slice B2 m2 j2, .int .i64 qb] 32)) #[.slice none 0 0, .slice none 0 0, .int .i64 0] 32)
  simp only [World.size_alloc] at KB KR
  have hsz3 : (((w.alloc (.cells #[.slice A1 n1 k1, .slice A2 n2 k2, .int .i64 q] 32)).alloc (.cells #[.slice B1 m1 j1, .slice B2 m2 j2, .int .i64 qb] 32)).alloc (.cells #[.slice none 0 0, .slice none 0 0, .int .i64 0] 32)).heap.size = w.heap.size + 3 := by simp
  have CV := specTreeX_c (h.below HW.out hB) (Nat.le_trans hB HW.out.size)
  have CV' := fun (W : World) (hW : Below w.heap.size w W) => specTreeX_c (h'.below hW hB') (Nat.le_trans hB' hW.size)
  have CC := fun (hz : treeOk L H q = true) (W : World) (hW : Below w.heap.size w W) => specCopy_c (h.below hW hB) hz (Nat.le_trans hB hW.size)
  have HHB := hid (fun (k : Nat) (hk : k < Hb.length) => h'.hndP hk)
  have HLB := hid (fun (k : Nat) (hk : k < Lb.length) => h'.lgrP hk)
  obtain ⟨lb, hlb, hLb⟩ := h'.loggers
  have ATL := hid (fun (s : ByteArray) (W : World) (hW : Below w.heap.size w W) => (show Calls Try.prog 69 #[.slice B1 m1 j1, .string s] W (fun e w' => e = .returned (.int .i64 (idxL (namesOf Lb) s.data.toList)) ∧ w' = W) from by
    have h9 := loggerAt_c (.slice B1 m1 j1) m1 B' lb s W (hlb.below hW hB'); rw [show lnames lb = namesOf Lb by rw [← hLb, namesOf_ls]] at h9; exact h9))
  have HX0 : ∀ {X}, patX L H q Lb Hb qb = X → Hid (patX L H q Lb Hb qb = X) := fun h => h
  obtain ⟨lsb, hsb, ⟨B1', m1', j1', B2', m2', j2', eb, _, hhb, _⟩, _, hHb⟩ := h'
  simp at eb
  obtain ⟨⟨rfl, rfl, rfl⟩, ⟨rfl, rfl, rfl⟩⟩ := eb
  have ATH := hid (fun (s : ByteArray) (W : World) (hW : Below w.heap.size w W) => (show Calls Try.prog 65 #[.slice B2 m2 j2, .string s] W (fun e w' => e = .returned (.int .i64 (idxL (hnm Hb) s.data.toList)) ∧ w' = W) from by
    have h9 := handlerAt_c (.slice B2 m2 j2) m2 B' hsb s W (hhb.below hW hB'); rw [show hnames hsb = hnm Hb by rw [hnames_hnm, hHb]] at h9; exact h9))
  clear h hhb hHb hlb hLb HX0
  have d0 := (KA.out.2 0 _ rfl).1
  have d1 := (KA.out.2 1 _ rfl).1
  have d2 := (KA.out.2 2 _ rfl).1
  cases hza : treeOk L H q with
  | false =>
    have HX := hid (show patX L H q Lb Hb qb = none by unfold patX changedO; rw [hza]; split <;> rfl)
    rw [hza] at CV
    generalize patX L H q Lb Hb qb = X at *
    replace CV := hid CV
    clear hza CV' CC
    go_enter Try.func33, Try.ntmps33
    go_wp2_with fail
    refine (CV.out).mono ?_
    rintro e w4 ⟨rfl, hb4⟩
    have HW4 := hid (HW.out.trans (hb4.mono HW.out.size))
    have KR4 := hid (KR.out.to hb4)
    clear hb4 d0 d1 d2 hsz3
    obtain ⟨q0c, q0f⟩ := KR4.out.2 0 _ rfl
    obtain ⟨q1c, q1f⟩ := KR4.out.2 1 _ rfl
    obtain ⟨q2c, q2f⟩ := KR4.out.2 2 _ rfl
    go_wp2_with fail
    have RB := ((KR4.out.set 0 (.slice none 0 0)).set 1 (.slice none 0 0)).set 2 (.int .i64 0)
    have f0 := (RB.2 0 _ rfl).1
    have f1 := (RB.2 1 _ rfl).1
    have f2 := (RB.2 2 _ rfl).1
    refine bodyPost_ret (v := .agg #[.slice none 0 0, .slice none 0 0, .int .i64 0]) (by simp [results, Try.results33, go_sem, f0, f1, f2]) rfl ?_
    refine post_none (by rw [HX.out]; rfl) (by rw [HX.out]; rfl) (by rw [HX.out]; rfl) rfl ?_
    iterate 3 refine Below.setCell ?_ (by simp; try omega) _
    exact HW4.out
  | true =>
    rw [hza] at CV
    replace CV := hid CV
    replace CC := hid (CC hza)
    cases hzb : treeOk Lb Hb qb with
    | false =>
      have HX := hid (show patX L H q Lb Hb qb = none by unfold patX; rw [hzb]; rfl)
      rw [hzb] at CV'
      generalize patX L H q Lb Hb qb = X at *
      replace CV' := hid CV'
      clear hza hzb CC
      go_enter Try.func33, Try.ntmps33
      go_wp2_with fail
      refine (CV.out).mono ?_
      rintro e w4 ⟨rfl, hb4⟩
      have HW4 := hid (HW.out.trans (hb4.mono HW.out.size))
      have KB4 := hid (KB.out.to hb4)
      have KR4 := hid (KR.out.to hb4)
      clear hb4 d0 d1 d2 hsz3
      have d0 := (KB4.out.2 0 _ rfl).1
      have d1 := (KB4.out.2 1 _ rfl).1
      have d2 := (KB4.out.2 2 _ rfl).1
      go_wp2_with fail
      refine (CV'.out _ HW4.out).mono ?_
      rintro e w5 ⟨rfl, hb5⟩
      have HW5 := hid (HW4.out.trans (hb5.mono HW4.out.size))
      have KR5 := hid (KR4.out.to hb5)
      clear hb5 d0 d1 d2
      obtain ⟨q0c, q0f⟩ := KR5.out.2 0 _ rfl
      obtain ⟨q1c, q1f⟩ := KR5.out.2 1 _ rfl
      obtain ⟨q2c, q2f⟩ := KR5.out.2 2 _ rfl
      go_wp2_with fail
      have RB := ((KR5.out.set 0 (.slice none 0 0)).set 1 (.slice none 0 0)).set 2 (.int .i64 0)
      have f0 := (RB.2 0 _ rfl).1
      have f1 := (RB.2 1 _ rfl).1
      have f2 := (RB.2 2 _ rfl).1
      refine bodyPost_ret (v := .agg #[.slice none 0 0, .slice none 0 0, .int .i64 0]) (by simp [results, Try.results33, go_sem, f0, f1, f2]) rfl ?_
      refine post_none (by rw [HX.out]; rfl) (by rw [HX.out]; rfl) (by rw [HX.out]; rfl) rfl ?_
      iterate 3 refine Below.setCell ?_ (by simp; try omega) _
      exact HW5.out
    | true =>
      have HX := hid (show patX L H q Lb Hb qb = some (L.map (patL Lb), H.map (patH Hb), qb) by
        unfold patX changedO; rw [hza, hzb]; simp only [if_true, Option.bind_some]; unfold ifOk; rw [pat_ok hza hzb]; rfl)
      rw [hzb] at CV'
      generalize patX L H q Lb Hb qb = X at *
      replace CV' := hid CV'
      obtain ⟨_, _, _, h8, h1l, _⟩ := tree_names hza
      have h6 := tree_hlen hza
      clear hza hzb
      go_enter Try.func33, Try.ntmps33
      go_wp2_with fail
      refine (CV.out).mono ?_
      rintro e w4 ⟨rfl, hb4⟩
      have HW4 := hid (HW.out.trans (hb4.mono HW.out.size))
      have KA4 := hid (KA.out.to hb4)
      have KB4 := hid (KB.out.to hb4)
      have KR4 := hid (KR.out.to hb4)
      have hw4 : w.heap.size + 3 ≤ w4.heap.size := by have := hb4.size; rw [hsz3] at this; exact this
      clear hb4 d0 d1 d2 hsz3
      have d0 := (KB4.out.2 0 _ rfl).1
      have d1 := (KB4.out.2 1 _ rfl).1
      have d2 := (KB4.out.2 2 _ rfl).1
      go_wp2_with fail
      refine (CV'.out _ HW4.out).mono ?_
      rintro e w1 ⟨rfl, hb5⟩
      have HW1 := hid (HW4.out.trans (hb5.mono HW4.out.size))
      have KA1 := hid (KA4.out.to hb5)
      have KB1 := hid (KB4.out.to hb5)
      have KR1 := hid (KR4.out.to hb5)
      have hw1 : w.heap.size + 3 ≤ w1.heap.size := by have := hb5.size; omega
      clear hb5 d0 d1 d2 hw4 HW4 KA4 KB4 KR4
      have d0 := (KA1.out.2 0 _ rfl).1
      have d1 := (KA1.out.2 1 _ rfl).1
      have d2 := (KA1.out.2 2 _ rfl).1
      go_wp2_with fail
      refine (CC.out _ HW1.out).mono ?_
      rintro e w2 ⟨v', rs, rfl, hs, hr, hb2⟩
      obtain ⟨u1, u2, ls, hs', rfl, hL, hH, rfl⟩ := hs
      have hll : ls.length = L.length := by rw [← hL]; simp [lsOf]
      have hlh : hs'.length = H.length := by rw [← hH]; simp [hsOf]
      obtain ⟨hl, hh⟩ := hr.lsIn
      obtain ⟨A, c, rfl, hnc, hcm⟩ := hl.1.form
      obtain ⟨A4, c4, rfl, hnc4, hcm4⟩ := hh.1.form
      clear hl hh
      have hr0 : Rows w2 w1.heap.size ([] ++ two 65 6 ls.length (.slice A ls.length c) lcells lrows ls ++ two 49 3 hs'.length (.slice A4 hs'.length c4) hcells hrows hs') := by rw [treeRows_eq] at hr; simpa using hr
      obtain ⟨g, rfl, hglt⟩ := own_some hr0.top (by omega)
      have hgl : w1.heap.size ≤ g := (hr0.top.lt g rfl).1
      have hrh : Rows w2 w1.heap.size (two 65 6 ls.length (.slice (some ⟨g, 0, none⟩) ls.length c) lcells lrows ls ++ two 49 3 hs'.length (.slice A4 hs'.length c4) hcells hrows hs' ++ []) := by simpa using hr0
      have HHN := hid (fun (z : Nat) (hz : (Value.slice A4 hs'.length c4).ownBlock = some z) => hrh.top.lt z hz)
      generalize hN : ls.length = n at *
      generalize hN2 : hs'.length = nh at *
      have hn8 : n ≤ 8 := by omega
      have hn6 : nh ≤ 6 := by omega
      unfold maxLen at hcm hcm4
      have HBA := hid (show Below w2.heap.size w2 (w2.alloc (.cells #[.slice (some ⟨g, 0, none⟩) n c, .slice A4 nh c4, .int .i64 qb] 32)) from (Below.refl _ _).alloc (Nat.le_refl _) _)
      have HB3 := hid ((show Below w1.heap.size w1 w2 from hb2).trans (HBA.out.mono hb2.size))
      have KO := hid (Blk.new w2 #[.slice (some ⟨g, 0, none⟩) n c, .slice A4 nh c4, .int .i64 qb] 32)
      have HR3 := hid (hr0.below HBA.out)
      have HH := hid hH
      have HL := hid hL
      have HLn := hid hll
      have HLh := hid hlh
      have e2 := ((KB1.out.to hb2).alloc (.cells #[.slice (some ⟨g, 0, none⟩) n c, .slice A4 nh c4, .int .i64 q] 32)).2 2 _ rfl |>.1
      have hgo : g ≠ w2.heap.size := by omega
      have hbo1 : w1.heap.size ≤ w2.heap.size := hb2.size
      clear hr hr0 hrh hb2 hL hH hll hlh hN hN2 h8 h1l h6 d0 d1 d2
      go_wp2_with fail
      generalize hw3 : w2.alloc (.cells #[.slice (some ⟨g, 0, none⟩) n c, .slice A4 nh c4, .int .i64 qb] 32) = w3 at *
      generalize hbo : w2.heap.size = bo at *
      clear hw3 hbo e2 HBA
      go_loopw [6, 7] (fun iv av wr => ∃ (k : Nat) (cur : List HndV) (u7 : Value), iv = .int .i64 k ∧ av = u7 ∧ k ≤ nh ∧ Hid (hsOf cur = (H.take k).map (patH Hb) ++ H.drop k) ∧
        Hid (Rows wr w1.heap.size ([] ++ two 65 6 n (.slice (some ⟨g, 0, none⟩) n c) lcells lrows ls ++ two 49 3 nh (.slice A4 nh c4) hcells hrows cur)) ∧ Hid (Blk wr bo [.slice (some ⟨g, 0, none⟩) n c, .slice A4 nh c4, .int .i64 qb]) ∧ Hid (Below w1.heap.size w1 wr)) (fun iv _ _ => nh - (intOf iv).toNat)
      case atStart => exact ⟨0, hs', _, rfl, rfl, by omega, by simpa [Hid] using HH.out, HR3.out, KO.out, HB3.out⟩
      case round =>
        obtain ⟨k, cur, u7, rfl, rfl, hk, HC, HRx, HKx, HBx⟩ := hrel
        have HWx := hid (HW1.out.trans (HBx.out.mono HW1.out.size))
        have f1 := (HKx.out.2 1 _ rfl).1
        by_cases hlt : k < nh
        · have hkH : k < H.length := by have := HLh.out; omega
          obtain ⟨h0, hh0⟩ : ∃ l, H[k]? = some l := ⟨_, List.getElem?_eq_getElem hkH⟩
          obtain ⟨x, hx, hxl⟩ := hsOf_at HC.out hh0
          subst hxl
          have hrh : Rows wr w1.heap.size (two 65 6 n (.slice (some ⟨g, 0, none⟩) n c) lcells lrows ls ++ two 49 3 nh (.slice A4 nh c4) hcells hrows cur ++ []) := by simpa using HRx.out
          obtain ⟨g4, rfl, _⟩ := own_some hrh.top (by omega)
          have hg4 : w1.heap.size ≤ g4 := (hrh.top.lt g4 rfl).1
          have hg4b : g4 ≠ bo := by have := (HHN.out g4 rfl).2; omega
          have hg4x : g4 ≠ w.heap.size + 1 := by omega
          have ho := hrh.cell_at (j := 0) hcells_len hx (u := txt x.h.nm) rfl
          have o1 := hrh.cell_at (j := 1) hcells_len hx (u := .int .i64 x.h.lv) rfl
          obtain ⟨p, hpt, hp2⟩ := txt_mk x.h.nm
          rw [hpt] at ho
          have c0 : wr.cell? ⟨g4, k * 3, none⟩ = some (.string p) := ho.1
          have oc : wr.cell? ⟨g4, k * 3 + 1, none⟩ = some (.int .i64 x.h.lv) := o1.1
          have of : wr.frozen? ⟨g4, k * 3 + 1, none⟩ = false := o1.2
          have e1 := ((KB1.out.to HBx.out).2 1 _ rfl).1
          have s0 : (0 : Int) ≤ (k : Int) := by omega
          have s1 : (k : Int) < (nh : Int) := by omega
          have s2 : ((k : Int)).toNat = k := by simp
          have CH := hid (ATH.out p wr.drew (HWx.out.drew))
          rw [hp2] at CH
          have HX1 := hid (And.intro hx hh0)
          have HRd := hid (HRx.out.below ((Below.refl wr.heap.size wr).drew))
          have HKd := hid (HKx.out.dr 1)
          have HBd := hid (HBx.out.drew)
          clear hx hh0 hrh ho o1 hpt hp2
          go_wp2_with fail
          refine wp_region_held_drew (S := (fun w' : World => w'.cell? ⟨w.heap.size + 1, 1, none⟩ = some (.slice B2 m2 j2) ∧ w'.cell? ⟨bo, 1, none⟩ = some (.slice (some ⟨g4, 0, none⟩) nh c4) ∧ w'.cell? ⟨g4, k * 3, none⟩ = some (.string p))) (by kernel_rfl) ⟨e1, f1, c0⟩ (fun hS => ?_)
          refine wpAnyH_take (i := 0) (oi := ?oi101) (v := ?v101) ?hi101 (by kernel_rfl) ?hf101 ?hr101 ?hQ101 (Or.inl ⟨?hw101, ?hy101⟩) (by assumption) ?rest101
          case hi101 => simp only [List.getElem?_toArray, List.getElem?_cons_succ, List.getElem?_cons_zero]; rfl
          case hf101 => kernel_rfl
          case hr101 => kernel_rfl
          case hw101 => rfl
          case hy101 => (intro w hSw; (try dsimp only at hSw); go_simp; all_goals (first | done | with_reducible rfl))
          case hQ101 => exact fun _ _ _ h => h
          simp only [Act.put, List.setIfInBounds_toArray, List.set_cons_zero, List.set_cons_succ]
          refine wpAnyH_take (i := 1) (oi := ?oi102) (v := ?v102) ?hi102 (by kernel_rfl) ?hf102 ?hr102 ?hQ102 (Or.inl ⟨?hw102, ?hy102⟩) (by assumption) ?rest102
          case hi102 => simp only [List.getElem?_toArray, List.getElem?_cons_succ, List.getElem?_cons_zero]; rfl
          case hf102 => kernel_rfl
          case hr102 => kernel_rfl
          case hw102 => rfl
          case hy102 => (intro w hSw; (try dsimp only at hSw); go_simp; all_goals (first | done | with_reducible rfl))
          case hQ102 => exact fun _ _ _ h => h
          simp only [Act.put, List.setIfInBounds_toArray, List.set_cons_zero, List.set_cons_succ]
          refine wpAnyH_take (i := 2) (oi := ?oi103) (v := ?v103) ?hi103 (by kernel_rfl) ?hf103 ?hr103 ?hQ103 (Or.inl ⟨?hw103, ?hy103⟩) (by assumption) ?rest103
          case hi103 => simp only [List.getElem?_toArray, List.getElem?_cons_succ, List.getElem?_cons_zero]; rfl
          case hf103 => kernel_rfl
          case hr103 => kernel_rfl
          case hw103 => rfl
          case hy103 => (intro w hSw; (try dsimp only at hSw); go_simp; all_goals (first | done | with_reducible rfl))
          case hQ103 => exact fun _ _ _ h => h
          simp only [Act.put, List.setIfInBounds_toArray, List.set_cons_zero, List.set_cons_succ]
          refine wpAnyH_take (i := 3) (oi := ?oi104) (v := ?v104) ?hi104 (by kernel_rfl) ?hf104 ?hr104 ?hQ104 (Or.inl ⟨?hw104, ?hy104⟩) (by assumption) ?rest104
          case hi104 => simp only [List.getElem?_toArray, List.getElem?_cons_succ, List.getElem?_cons_zero]; rfl
          case hf104 => kernel_rfl
          case hr104 => kernel_rfl
          case hw104 => rfl
          case hy104 => (intro w hSw; (try dsimp only at hSw); go_simp; all_goals (first | done | with_reducible rfl))
          case hQ104 => exact fun _ _ _ h => h
          simp only [Act.put, List.setIfInBounds_toArray, List.set_cons_zero, List.set_cons_succ]
          refine wpAnyH_take (i := 4) (oi := ?oi105) (v := ?v105) ?hi105 (by kernel_rfl) ?hf105 ?hr105 ?hQ105 (Or.inl ⟨?hw105, ?hy105⟩) (by assumption) ?rest105
          case hi105 => simp only [List.getElem?_toArray, List.getElem?_cons_succ, List.getElem?_cons_zero]; rfl
          case hf105 => kernel_rfl
          case hr105 => kernel_rfl
          case hw105 => rfl
          case hy105 => (intro w hSw; (try dsimp only at hSw); go_simp; all_goals (first | done | with_reducible rfl))
          case hQ105 => exact fun _ _ _ h => h
          simp only [Act.put, List.setIfInBounds_toArray, List.set_cons_zero, List.set_cons_succ]
          refine wpAnyH_take (i := 5) (oi := ?oi106) (v := ?v106) ?hi106 (by kernel_rfl) ?hf106 ?hr106 ?hQ106 (Or.inl ⟨?hw106, ?hy106⟩) (by assumption) ?rest106
          case hi106 => simp only [List.getElem?_toArray, List.getElem?_cons_succ, List.getElem?_cons_zero]; rfl
          case hf106 => kernel_rfl
          case hr106 => kernel_rfl
          case hw106 => rfl
          case hy106 => (intro w hSw; (try dsimp only at hSw); go_simp; all_goals (first | done | with_reducible rfl))
          case hQ106 => exact fun _ _ _ h => h
          simp only [Act.put, List.setIfInBounds_toArray, List.set_cons_zero, List.set_cons_succ]
          refine wpAnyH_take (i := 6) (oi := ?oi107) (v := ?v107) ?hi107 (by kernel_rfl) ?hf107 ?hr107 ?hQ107 (Or.inl ⟨?hw107, ?hy107⟩) (by assumption) ?rest107
          case hi107 => simp only [List.getElem?_toArray, List.getElem?_cons_succ, List.getElem?_cons_zero]; rfl
          case hf107 => kernel_rfl
          case hr107 => kernel_rfl
          case hw107 => rfl
          case hy107 => (intro w hSw; (try dsimp only at hSw); go_simp; all_goals (first | done | with_reducible rfl))
          case hQ107 => exact fun _ _ _ h => h
          simp only [Act.put, List.setIfInBounds_toArray, List.set_cons_zero, List.set_cons_succ]
          refine wpAnyH_take (i := 7) (oi := ?oi108) (v := ?v108) ?hi108 (by kernel_rfl) ?hf108 ?hr108 ?hQ108 (Or.inl ⟨?hw108, ?hy108⟩) (by assumption) ?rest108
          case hi108 => simp only [List.getElem?_toArray, List.getElem?_cons_succ, List.getElem?_cons_zero]; rfl
          case hf108 => kernel_rfl
          case hr108 => kernel_rfl
          case hw108 => rfl
          case hy108 => (intro w hSw; (try dsimp only at hSw); go_simp; all_goals (first | done | with_reducible rfl))
          case hQ108 => exact fun _ _ _ h => h
          simp only [Act.put, List.setIfInBounds_toArray, List.set_cons_zero, List.set_cons_succ]
          refine wpAnyH_ready (rs := [8]) (by kernel_rfl) (by simp) ?_
          refine AllReadyH.cons (o := ?oi109) ?hi109 (fun K hK => ?step109) AllReadyH.nil
          case hi109 => simp only [List.getElem?_toArray, List.getElem?_cons_succ, List.getElem?_cons_zero]; rfl
          rw [if_pos (by rfl)]
          go_simp
          go_at_call 65
          refine (CH.out).mono ?_
          rintro e w9 ⟨rfl, rfl⟩
          refine hK.out _ _ hS (fun hS => ?_)
          refine wpAnyH_take (i := 9) (oi := ?oi110) (v := ?v110) ?hi110 (by kernel_rfl) ?hf110 ?hr110 ?hQ110 (Or.inl ⟨?hw110, ?hy110⟩) (by assumption) ?rest110
          case hi110 => simp only [List.getElem?_toArray, List.getElem?_cons_succ, List.getElem?_cons_zero]; rfl
          case hf110 => kernel_rfl
          case hr110 => kernel_rfl
          case hw110 => rfl
          case hy110 => (intro w hSw; (try dsimp only at hSw); go_simp; all_goals (first | done | with_reducible rfl))
          case hQ110 => exact fun _ _ _ h => h
          simp only [Act.put, List.setIfInBounds_toArray, List.set_cons_zero, List.set_cons_succ]
          refine wpAnyH_done (by kernel_rfl) ?_ _
          clear hS
          by_cases hneg : idxL (hnm Hb) x.h.nm < 0
          · have HN := hid (patH_no hneg)
            generalize idxL (hnm Hb) x.h.nm = ix at *
            clear oc of f1 e1 c0
            go_wp2_with fail
            go_roundw
            case rel =>
              refine ⟨k + 1, cur, _, by go_num, rfl, by omega, ?_, HRd.out, HKd.out, HBd.out⟩
              show hsOf cur = _
              rw [mapk_same _ HX1.out.2 HN.out]; exact HC.out
            case measure => simp [intOf]; omega
          · obtain ⟨kk, hkk, hkl, _⟩ := idx_natN hneg
            have hkb : kk < Hb.length := by unfold hnm at hkl; rw [List.length_map] at hkl; exact hkl
            have HN := hid (patH_hit hkk)
            rw [hkk]
            obtain ⟨gb, ob, hB2, hgbB, hkm, hj2, hmj, hcl⟩ := HHB.out kk hkb
            subst hB2
            unfold maxLen at hj2
            generalize (Hb.map (·.lv)).getD kk 0 = lvb at *
            have cl : wr.cell? ⟨gb, ob + kk * 3 + 1, none⟩ = some (.int .i64 lvb) := (HWx.out.cell (p := ⟨gb, ob + kk * 3 + 1, none⟩) (show gb < w.heap.size by omega)).trans hcl
            have t0 : (0 : Int) ≤ (kk : Int) := by omega
            have t1 : (kk : Int) < (m2 : Int) := by omega
            have t2 : ((kk : Int)).toNat = kk := by simp
            have hg4g : g4 ≠ gb := by omega
            have hrh1 : Rows wr.drew.drew w1.heap.size (two 65 6 n (.slice (some ⟨g, 0, none⟩) n c) lcells lrows ls ++ two 49 3 nh (.slice (some ⟨g4, 0, none⟩) nh c4) hcells hrows cur ++ []) := by simpa using HRd.out.below ((Below.refl _ _).drew)
            have hrs0 := hrh1.cellset (j := 1) (e := 1) (x := x) (y := { x with h := patH Hb x.h }) (u := .int .i64 lvb) hcells_len hrows_len HX1.out.1 (by omega) (by rw [HN.out]; rfl) (by rw [HN.out]; rfl)
            have HRs := hid (show Rows (wr.drew.drew.setCell ⟨g4, k * 3 + 1, none⟩ (.int .i64 lvb)) w1.heap.size ([] ++ two 65 6 n (.slice (some ⟨g, 0, none⟩) n c) lcells lrows ls ++ two 49 3 nh (.slice (some ⟨g4, 0, none⟩) nh c4) hcells hrows (cur.set k { x with h := patH Hb x.h })) by simpa using hrs0)
            have HKs := hid ((HKd.out.dr 1).apart ⟨g4, k * 3 + 1, none⟩ (.int .i64 lvb) hg4b)
            have HBs := hid (HBd.out.drew.setCell (p := ⟨g4, k * 3 + 1, none⟩) hg4 (.int .i64 lvb))
            clear hneg hkk hkl hkb hcl hrs0 hrh1 c0
            go_wp2_with fail
            refine wp_region_held_drew (S := (fun w' : World => w'.cell? ⟨w.heap.size + 1, 1, none⟩ = some (.slice (some ⟨gb, ob, none⟩) m2 j2) ∧ w'.cell? ⟨bo, 1, none⟩ = some (.slice (some ⟨g4, 0, none⟩) nh c4) ∧ w'.cell? ⟨gb, ob + kk * 3 + 1, none⟩ = some (.int .i64 lvb))) (by kernel_rfl) ⟨e1, f1, cl⟩ (fun hS => ?_)
            refine wpAnyH_take (i := 0) (oi := ?oi111) (v := ?v111) ?hi111 (by kernel_rfl) ?hf111 ?hr111 ?hQ111 (Or.inl ⟨?hw111, ?hy111⟩) (by assumption) ?rest111
            case hi111 => simp only [List.getElem?_toArray, List.getElem?_cons_succ, List.getElem?_cons_zero]; rfl
            case hf111 => kernel_rfl
            case hr111 => kernel_rfl
            case hw111 => rfl
            case hy111 => (intro w hSw; (try dsimp only at hSw); go_simp; all_goals (first | done | with_reducible rfl))
            case hQ111 => exact fun _ _ _ h => h
            simp only [Act.put, List.setIfInBounds_toArray, List.set_cons_zero, List.set_cons_succ]
            refine wpAnyH_take (i := 1) (oi := ?oi112) (v := ?v112) ?hi112 (by kernel_rfl) ?hf112 ?hr112 ?hQ112 (Or.inl ⟨?hw112, ?hy112⟩) (by assumption) ?rest112
            case hi112 => simp only [List.getElem?_toArray, List.getElem?_cons_succ, List.getElem?_cons_zero]; rfl
            case hf112 => kernel_rfl
            case hr112 => kernel_rfl
            case hw112 => rfl
            case hy112 => (intro w hSw; (try dsimp only at hSw); go_simp; all_goals (first | done | with_reducible rfl))
            case hQ112 => exact fun _ _ _ h => h
            simp only [Act.put, List.setIfInBounds_toArray, List.set_cons_zero, List.set_cons_succ]
            refine wpAnyH_take (i := 2) (oi := ?oi113) (v := ?v113) ?hi113 (by kernel_rfl) ?hf113 ?hr113 ?hQ113 (Or.inl ⟨?hw113, ?hy113⟩) (by assumption) ?rest113
            case hi113 => simp only [List.getElem?_toArray, List.getElem?_cons_succ, List.getElem?_cons_zero]; rfl
            case hf113 => kernel_rfl
            case hr113 => kernel_rfl
            case hw113 => rfl
            case hy113 => (intro w hSw; (try dsimp only at hSw); go_simp; all_goals (first | done | with_reducible rfl))
            case hQ113 => exact fun _ _ _ h => h
            simp only [Act.put, List.setIfInBounds_toArray, List.set_cons_zero, List.set_cons_succ]
            refine wpAnyH_take (i := 3) (oi := ?oi114) (v := ?v114) ?hi114 (by kernel_rfl) ?hf114 ?hr114 ?hQ114 (Or.inl ⟨?hw114, ?hy114⟩) (by assumption) ?rest114
            case hi114 => simp only [List.getElem?_toArray, List.getElem?_cons_succ, List.getElem?_cons_zero]; rfl
            case hf114 => kernel_rfl
            case hr114 => kernel_rfl
            case hw114 => rfl
            case hy114 => (intro w hSw; (try dsimp only at hSw); go_simp; all_goals (first | done | with_reducible rfl))
            case hQ114 => exact fun _ _ _ h => h
            simp only [Act.put, List.setIfInBounds_toArray, List.set_cons_zero, List.set_cons_succ]
            refine wpAnyH_take (i := 4) (oi := ?oi115) (v := ?v115) ?hi115 (by kernel_rfl) ?hf115 ?hr115 ?hQ115 (Or.inl ⟨?hw115, ?hy115⟩) (by assumption) ?rest115
            case hi115 => simp only [List.getElem?_toArray, List.getElem?_cons_succ, List.getElem?_cons_zero]; rfl
            case hf115 => kernel_rfl
            case hr115 => kernel_rfl
            case hw115 => rfl
            case hy115 => (intro w hSw; (try dsimp only at hSw); go_simp; all_goals (first | done | with_reducible rfl))
            case hQ115 => exact fun _ _ _ h => h
            simp only [Act.put, List.setIfInBounds_toArray, List.set_cons_zero, List.set_cons_succ]
            refine wpAnyH_take (i := 5) (oi := ?oi116) (v := ?v116) ?hi116 (by kernel_rfl) ?hf116 ?hr116 ?hQ116 (Or.inl ⟨?hw116, ?hy116⟩) (by assumption) ?rest116
            case hi116 => simp only [List.getElem?_toArray, List.getElem?_cons_succ, List.getElem?_cons_zero]; rfl
            case hf116 => kernel_rfl
            case hr116 => kernel_rfl
            case hw116 => rfl
            case hy116 => (intro w hSw; (try dsimp only at hSw); go_simp; all_goals (first | done | with_reducible rfl))
            case hQ116 => exact fun _ _ _ h => h
            simp only [Act.put, List.setIfInBounds_toArray, List.set_cons_zero, List.set_cons_succ]
            refine wpAnyH_take (i := 6) (oi := ?oi117) (v := ?v117) ?hi117 (by kernel_rfl) ?hf117 ?hr117 ?hQ117 (Or.inl ⟨?hw117, ?hy117⟩) (by assumption) ?rest117
            case hi117 => simp only [List.getElem?_toArray, List.getElem?_cons_succ, List.getElem?_cons_zero]; rfl
            case hf117 => kernel_rfl
            case hr117 => kernel_rfl
            case hw117 => rfl
            case hy117 => (intro w hSw; (try dsimp only at hSw); go_simp; all_goals (first | done | with_reducible rfl))
            case hQ117 => exact fun _ _ _ h => h
            simp only [Act.put, List.setIfInBounds_toArray, List.set_cons_zero, List.set_cons_succ]
            refine wpAnyH_take (i := 7) (oi := ?oi118) (v := ?v118) ?hi118 (by kernel_rfl) ?hf118 ?hr118 ?hQ118 (Or.inl ⟨?hw118, ?hy118⟩) (by assumption) ?rest118
            case hi118 => simp only [List.getElem?_toArray, List.getElem?_cons_succ, List.getElem?_cons_zero]; rfl
            case hf118 => kernel_rfl
            case hr118 => kernel_rfl
            case hw118 => rfl
            case hy118 => (intro w hSw; (try dsimp only at hSw); go_simp; all_goals (first | done | with_reducible rfl))
            case hQ118 => exact fun _ _ _ h => h
            simp only [Act.put, List.setIfInBounds_toArray, List.set_cons_zero, List.set_cons_succ]
            refine wpAnyH_take (i := 8) (oi := ?oi119) (v := ?v119) ?hi119 (by kernel_rfl) ?hf119 ?hr119 ?hQ119 (Or.inl ⟨?hw119, ?hy119⟩) (by assumption) ?rest119
            case hi119 => simp only [List.getElem?_toArray, List.getElem?_cons_succ, List.getElem?_cons_zero]; rfl
            case hf119 => kernel_rfl
            case hr119 => kernel_rfl
            case hw119 => rfl
            case hy119 => (intro w hSw; (try dsimp only at hSw); go_simp; all_goals (first | done | with_reducible rfl))
            case hQ119 => exact fun _ _ _ h => h
            simp only [Act.put, List.setIfInBounds_toArray, List.set_cons_zero, List.set_cons_succ]
            refine wpAnyH_take (i := 9) (oi := ?oi120) (v := ?v120) ?hi120 (by kernel_rfl) ?hf120 ?hr120 ?hQ120 (Or.inl ⟨?hw120, ?hy120⟩) (by assumption) ?rest120
            case hi120 => simp only [List.getElem?_toArray, List.getElem?_cons_succ, List.getElem?_cons_zero]; rfl
            case hf120 => kernel_rfl
            case hr120 => kernel_rfl
            case hw120 => rfl
            case hy120 => (intro w hSw; (try dsimp only at hSw); go_simp; all_goals (first | done | with_reducible rfl))
            case hQ120 => exact fun _ _ _ h => h
            simp only [Act.put, List.setIfInBounds_toArray, List.set_cons_zero, List.set_cons_succ]
            refine wpAnyH_take (i := 10) (oi := ?oi121) (v := ?v121) ?hi121 (by kernel_rfl) ?hf121 ?hr121 ?hQ121 (Or.inl ⟨?hw121, ?hy121⟩) (by assumption) ?rest121
            case hi121 => simp only [List.getElem?_toArray, List.getElem?_cons_succ, List.getElem?_cons_zero]; rfl
            case hf121 => kernel_rfl
            case hr121 => kernel_rfl
            case hw121 => rfl
            case hy121 => (intro w hSw; (try dsimp only at hSw); go_simp; all_goals (first | done | with_reducible rfl))
            case hQ121 => exact fun _ _ _ h => h
            simp only [Act.put, List.setIfInBounds_toArray, List.set_cons_zero, List.set_cons_succ]
            refine wpAnyH_ready (rs := [11]) (by kernel_rfl) (by simp) ?_
            refine AllReadyH.cons (o := ?oi122) ?hi122 (fun K hK => ?step122) AllReadyH.nil
            case hi122 => simp only [List.getElem?_toArray, List.getElem?_cons_succ, List.getElem?_cons_zero]; rfl
            rw [if_pos (by rfl)]
            go_simp
            refine hK.out _ _ ⟨(World.cell?_setCell_far _ _ _ _ hg4x).trans hS.1, (World.cell?_setCell_far _ _ _ _ hg4b).trans hS.2.1, (World.cell?_setCell_far _ _ _ _ hg4g).trans hS.2.2⟩ (fun hS => ?_)
            refine wpAnyH_done (by kernel_rfl) ?_ _
            clear oc of f1 e1 cl hS
            go_wp2_with fail
            go_roundw
            case rel =>
              refine ⟨k + 1, _, _, by go_num, rfl, by omega, ?_, HRs.out, HKs.out, HBs.out⟩
              show hsOf (cur.set k _) = _
              rw [mapk_step _ HX1.out.2, ← HC.out]
              unfold hsOf
              rw [List.map_set]
            case measure => simp [intOf]; omega
        · obtain rfl : k = nh := by omega
          have HCH := hid (show hsOf cur = H.map (patH Hb) by
            have hkL := HLh.out
            have h := HC.out
            rw [List.take_of_length_le (by omega), List.drop_eq_nil_of_le (by omega), List.append_nil] at h
            exact h)
          have hcl : cur.length = k := by have h := congrArg List.length HCH.out; have := HLh.out; simp [hsOf] at h; omega
          have HCL := hid hcl
          clear hcl HC
          go_wp2_with fail
          clear f1
          go_loopw [8, 9] (fun iv av wr => ∃ (j : Nat) (cul : List LgrV) (u9 : Value), iv = .int .i64 j ∧ av = u9 ∧ j ≤ n ∧ Hid (lsOf cul = (L.take j).map (patL Lb) ++ L.drop j) ∧
            Hid (Rows wr w1.heap.size ([] ++ two 65 6 n (.slice (some ⟨g, 0, none⟩) n c) lcells lrows cul ++ two 49 3 k (.slice A4 k c4) hcells hrows cur)) ∧ Hid (Blk wr bo [.slice (some ⟨g, 0, none⟩) n c, .slice A4 k c4, .int .i64 qb]) ∧ Hid (Below w1.heap.size w1 wr)) (fun iv _ _ => n - (intOf iv).toNat)
          case atStart => exact ⟨0, ls, _, rfl, rfl, by omega, by simpa [Hid] using HL.out, HRx.out, HKx.out, HBx.out⟩
          case round =>
            clear HRx HKx HBx HWx
            obtain ⟨j, cul, u9, rfl, rfl, hj, HC, HRx, HKx, HBx⟩ := hrel
            have HWx := hid (HW1.out.trans (HBx.out.mono HW1.out.size))
            have f0 := (HKx.out.2 0 _ rfl).1
            by_cases hlt : j < n
            · have hkL : j < L.length := by have := HLn.out; omega
              obtain ⟨l0, hl0⟩ : ∃ l, L[j]? = some l := ⟨_, List.getElem?_eq_getElem hkL⟩
              obtain ⟨x, hx, hxl⟩ := lsOf_at HC.out hl0
              subst hxl
              have ho := HRx.out.cell_at (j := 0) lcells_len hx (u := txt x.l.nm) rfl
              have o1 := HRx.out.cell_at (j := 1) lcells_len hx (u := .int .i64 x.l.lv) rfl
              have o4 := HRx.out.cell_at (j := 4) lcells_len hx (u := .bool x.l.stop) rfl
              obtain ⟨p, hpt, hp2⟩ := txt_mk x.l.nm
              rw [hpt] at ho
              have c0 : wr.cell? ⟨g, j * 6, none⟩ = some (.string p) := ho.1
              have oc : wr.cell? ⟨g, j * 6 + 1, none⟩ = some (.int .i64 x.l.lv) := o1.1
              have of : wr.frozen? ⟨g, j * 6 + 1, none⟩ = false := o1.2
              have oc4 : wr.cell? ⟨g, j * 6 + 4, none⟩ = some (.bool x.l.stop) := o4.1
              have of4 : wr.frozen? ⟨g, j * 6 + 4, none⟩ = false := o4.2
              have e0 := ((KB1.out.to HBx.out).2 0 _ rfl).1
              have hgx : g ≠ w.heap.size + 1 := by omega
              have s0 : (0 : Int) ≤ (j : Int) := by omega
              have s1 : (j : Int) < (n : Int) := by omega
              have s2 : ((j : Int)).toNat = j := by simp
              have CH := hid (ATL.out p wr.drew (HWx.out.drew))
              rw [hp2] at CH
              have HX1 := hid (And.intro hx hl0)
              have HRd := hid (HRx.out.below ((Below.refl wr.heap.size wr).drew))
              have HKd := hid (HKx.out.dr 1)
              have HBd := hid (HBx.out.drew)
              clear hx hl0 ho o1 o4 hpt hp2
              go_wp2_with fail
              refine wp_region_held_drew (S := (fun w' : World => w'.cell? ⟨w.heap.size + 1, 0, none⟩ = some (.slice B1 m1 j1) ∧ w'.cell? ⟨bo, 0, none⟩ = some (.slice (some ⟨g, 0, none⟩) n c) ∧ w'.cell? ⟨g, j * 6, none⟩ = some (.string p))) (by kernel_rfl) ⟨e0, f0, c0⟩ (fun hS => ?_)
              refine wpAnyH_take (i := 0) (oi := ?oi123) (v := ?v123) ?hi123 (by kernel_rfl) ?hf123 ?hr123 ?hQ123 (Or.inl ⟨?hw123, ?hy123⟩) (by assumption) ?rest123
              case hi123 => simp only [List.getElem?_toArray, List.getElem?_cons_succ, List.getElem?_cons_zero]; rfl
              case hf123 => kernel_rfl
              case hr123 => kernel_rfl
              case hw123 => rfl
              case hy123 => (intro w hSw; (try dsimp only at hSw); go_simp; all_goals (first | done | with_reducible rfl))
              case hQ123 => exact fun _ _ _ h => h
              simp only [Act.put, List.setIfInBounds_toArray, List.set_cons_zero, List.set_cons_succ]
              refine wpAnyH_take (i := 1) (oi := ?oi124) (v := ?v124) ?hi124 (by kernel_rfl) ?hf124 ?hr124 ?hQ124 (Or.inl ⟨?hw124, ?hy124⟩) (by assumption) ?rest124
              case hi124 => simp only [List.getElem?_toArray, List.getElem?_cons_succ, List.getElem?_cons_zero]; rfl
              case hf124 => kernel_rfl
              case hr124 => kernel_rfl
              case hw124 => rfl
              case hy124 => (intro w hSw; (try dsimp only at hSw); go_simp; all_goals (first | done | with_reducible rfl))
              case hQ124 => exact fun _ _ _ h => h
              simp only [Act.put, List.setIfInBounds_toArray, List.set_cons_zero, List.set_cons_succ]
              refine wpAnyH_take (i := 2) (oi := ?oi125) (v := ?v125) ?hi125 (by kernel_rfl) ?hf125 ?hr125 ?hQ125 (Or.inl ⟨?hw125, ?hy125⟩) (by assumption) ?rest125
              case hi125 => simp only [List.getElem?_toArray, List.getElem?_cons_succ, List.getElem?_cons_zero]; rfl
              case hf125 => kernel_rfl
              case hr125 => kernel_rfl
              case hw125 => rfl
              case hy125 => (intro w hSw; (try dsimp only at hSw); go_simp; all_goals (first | done | with_reducible rfl))
              case hQ125 => exact fun _ _ _ h => h
              simp only [Act.put, List.setIfInBounds_toArray, List.set_cons_zero, List.set_cons_succ]
              refine wpAnyH_take (i := 3) (oi := ?oi126) (v := ?v126) ?hi126 (by kernel_rfl) ?hf126 ?hr126 ?hQ126 (Or.inl ⟨?hw126, ?hy126⟩) (by assumption) ?rest126
              case hi126 => simp only [List.getElem?_toArray, List.getElem?_cons_succ, List.getElem?_cons_zero]; rfl
              case hf126 => kernel_rfl
              case hr126 => kernel_rfl
              case hw126 => rfl
              case hy126 => (intro w hSw; (try dsimp only at hSw); go_simp; all_goals (first | done | with_reducible rfl))
              case hQ126 => exact fun _ _ _ h => h
              simp only [Act.put, List.setIfInBounds_toArray, List.set_cons_zero, List.set_cons_succ]
              refine wpAnyH_take (i := 4) (oi := ?oi127) (v := ?v127) ?hi127 (by kernel_rfl) ?hf127 ?hr127 ?hQ127 (Or.inl ⟨?hw127, ?hy127⟩) (by assumption) ?rest127
              case hi127 => simp only [List.getElem?_toArray, List.getElem?_cons_succ, List.getElem?_cons_zero]; rfl
              case hf127 => kernel_rfl
              case hr127 => kernel_rfl
              case hw127 => rfl
              case hy127 => (intro w hSw; (try dsimp only at hSw); go_simp; all_goals (first | done | with_reducible rfl))
              case hQ127 => exact fun _ _ _ h => h
              simp only [Act.put, List.setIfInBounds_toArray, List.set_cons_zero, List.set_cons_succ]
              refine wpAnyH_take (i := 5) (oi := ?oi128) (v := ?v128) ?hi128 (by kernel_rfl) ?hf128 ?hr128 ?hQ128 (Or.inl ⟨?hw128, ?hy128⟩) (by assumption) ?rest128
              case hi128 => simp only [List.getElem?_toArray, List.getElem?_cons_succ, List.getElem?_cons_zero]; rfl
              case hf128 => kernel_rfl
              case hr128 => kernel_rfl
              case hw128 => rfl
              case hy128 => (intro w hSw; (try dsimp only at hSw); go_simp; all_goals (first | done | with_reducible rfl))
              case hQ128 => exact fun _ _ _ h => h
              simp only [Act.put, List.setIfInBounds_toArray, List.set_cons_zero, List.set_cons_succ]
              refine wpAnyH_take (i := 6) (oi := ?oi129) (v := ?v129) ?hi129 (by kernel_rfl) ?hf129 ?hr129 ?hQ129 (Or.inl ⟨?hw129, ?hy129⟩) (by assumption) ?rest129
              case hi129 => simp only [List.getElem?_toArray, List.getElem?_cons_succ, List.getElem?_cons_zero]; rfl
              case hf129 => kernel_rfl
              case hr129 => kernel_rfl
              case hw129 => rfl
              case hy129 => (intro w hSw; (try dsimp only at hSw); go_simp; all_goals (first | done | with_reducible rfl))
              case hQ129 => exact fun _ _ _ h => h
              simp only [Act.put, List.setIfInBounds_toArray, List.set_cons_zero, List.set_cons_succ]
              refine wpAnyH_take (i := 7) (oi := ?oi130) (v := ?v130) ?hi130 (by kernel_rfl) ?hf130 ?hr130 ?hQ130 (Or.inl ⟨?hw130, ?hy130⟩) (by assumption) ?rest130
              case hi130 => simp only [List.getElem?_toArray, List.getElem?_cons_succ, List.getElem?_cons_zero]; rfl
              case hf130 => kernel_rfl
              case hr130 => kernel_rfl
              case hw130 => rfl
              case hy130 => (intro w hSw; (try dsimp only at hSw); go_simp; all_goals (first | done | with_reducible rfl))
              case hQ130 => exact fun _ _ _ h => h
              simp only [Act.put, List.setIfInBounds_toArray, List.set_cons_zero, List.set_cons_succ]
              refine wpAnyH_ready (rs := [8]) (by kernel_rfl) (by simp) ?_
              refine AllReadyH.cons (o := ?oi131) ?hi131 (fun K hK => ?step131) AllReadyH.nil
              case hi131 => simp only [List.getElem?_toArray, List.getElem?_cons_succ, List.getElem?_cons_zero]; rfl
              rw [if_pos (by rfl)]
              go_simp
              go_at_call 69
              refine (CH.out).mono ?_
              rintro e w9 ⟨rfl, rfl⟩
              refine hK.out _ _ hS (fun hS => ?_)
              refine wpAnyH_take (i := 9) (oi := ?oi132) (v := ?v132) ?hi132 (by kernel_rfl) ?hf132 ?hr132 ?hQ132 (Or.inl ⟨?hw132, ?hy132⟩) (by assumption) ?rest132
              case hi132 => simp only [List.getElem?_toArray, List.getElem?_cons_succ, List.getElem?_cons_zero]; rfl
              case hf132 => kernel_rfl
              case hr132 => kernel_rfl
              case hw132 => rfl
              case hy132 => (intro w hSw; (try dsimp only at hSw); go_simp; all_goals (first | done | with_reducible rfl))
              case hQ132 => exact fun _ _ _ h => h
              simp only [Act.put, List.setIfInBounds_toArray, List.set_cons_zero, List.set_cons_succ]
              refine wpAnyH_done (by kernel_rfl) ?_ _
              clear hS
              by_cases hneg : idxL (namesOf Lb) x.l.nm < 0
              · have HN := hid (patL_no hneg)
                generalize idxL (namesOf Lb) x.l.nm = ix at *
                clear oc of oc4 of4 f0 e0 c0
                go_wp2_with fail
                go_roundw
                case rel =>
                  refine ⟨j + 1, cul, _, by go_num, rfl, by omega, ?_, HRd.out, HKd.out, HBd.out⟩
                  show lsOf cul = _
                  rw [mapk_same _ HX1.out.2 HN.out]; exact HC.out
                case measure => simp [intOf]; omega
              · obtain ⟨kk, hkk, hkl, _⟩ := idx_natN hneg
                have hkb : kk < Lb.length := by unfold namesOf at hkl; rw [List.length_map] at hkl; exact hkl
                have HN := hid (patL_hit hkk)
                rw [hkk]
                obtain ⟨gb, ob, hB1, hgbB, hkm, hj2, hmj, hcl, hcs⟩ := HLB.out kk hkb
                subst hB1
                unfold maxLen at hj2
                generalize (Lb.map (·.lv)).getD kk 0 = lvb at *
                generalize (Lb.map (·.stop)).getD kk false = stb at *
                have hgbw : gb < w.heap.size := by omega
                have cl : wr.cell? ⟨gb, ob + kk * 6 + 1, none⟩ = some (.int .i64 lvb) := (HWx.out.cell (p := ⟨gb, ob + kk * 6 + 1, none⟩) hgbw).trans hcl
                have cs : wr.cell? ⟨gb, ob + kk * 6 + 4, none⟩ = some (.bool stb) := (HWx.out.cell (p := ⟨gb, ob + kk * 6 + 4, none⟩) hgbw).trans hcs
                have hgg : g ≠ gb := by omega
                have t0 : (0 : Int) ≤ (kk : Int) := by omega
                have t1 : (kk : Int) < (m1 : Int) := by omega
                have t2 : ((kk : Int)).toNat = kk := by simp
                have hrd : Rows wr.drew.drew w1.heap.size ([] ++ two 65 6 n (.slice (some ⟨g, 0, none⟩) n c) lcells lrows cul ++ two 49 3 k (.slice A4 k c4) hcells hrows cur) := HRd.out.below ((Below.refl _ _).drew)
                have hrs0 := hrd.cellset (j := 1) (e := 2) (x := x) (y := { x with l := { x.l with lv := lvb } }) (u := .int .i64 lvb) lcells_len lrows_len HX1.out.1 (by omega) rfl rfl
                have hrs2 : Rows (wr.drew.drew.setCell ⟨g, j * 6 + 1, none⟩ (.int .i64 lvb)).drew _ _ := hrs0.below ((Below.refl _ _).drew)
                have hx1 : (cul.set j { x with l := { x.l with lv := lvb } })[j]? = some { x with l := { x.l with lv := lvb } } := List.getElem?_set_self (List.getElem?_eq_some_iff.1 HX1.out.1).1
                have hrs1 := hrs2.cellset (j := 4) (e := 2) (x := { x with l := { x.l with lv := lvb } }) (y := { x with l := patL Lb x.l }) (u := .bool stb) lcells_len lrows_len hx1 (by omega) (by rw [HN.out]; rfl) (by rw [HN.out]; rfl)
                rw [List.set_set] at hrs1
                have HRs := hid hrs1
                have HKs := hid ((((HKd.out.dr 1).apart ⟨g, j * 6 + 1, none⟩ (.int .i64 lvb) hgo).dr 1).apart ⟨g, j * 6 + 4, none⟩ (.bool stb) hgo)
                have HBs := hid (((HBd.out.drew.setCell (p := ⟨g, j * 6 + 1, none⟩) hgl (.int .i64 lvb)).drew).setCell (p := ⟨g, j * 6 + 4, none⟩) hgl (.bool stb))
                clear hneg hkk hkl hkb hcl hcs hrs0 hrs1 hrs2 hrd hx1 c0
                go_wp2_with fail
                refine wp_region_held_drew (S := (fun w' : World => w'.cell? ⟨w.heap.size + 1, 0, none⟩ = some (.slice (some ⟨gb, ob, none⟩) m1 j1) ∧ w'.cell? ⟨bo, 0, none⟩ = some (.slice (some ⟨g, 0, none⟩) n c) ∧ w'.cell? ⟨gb, ob + kk * 6 + 1, none⟩ = some (.int .i64 lvb))) (by kernel_rfl) ⟨e0, f0, cl⟩ (fun hS => ?_)
                refine wpAnyH_take (i := 0) (oi := ?oi133) (v := ?v133) ?hi133 (by kernel_rfl) ?hf133 ?hr133 ?hQ133 (Or.inl ⟨?hw133, ?hy133⟩) (by assumption) ?rest133
                case hi133 => simp only [List.getElem?_toArray, List.getElem?_cons_succ, List.getElem?_cons_zero]; rfl
                case hf133 => kernel_rfl
                case hr133 => kernel_rfl
                case hw133 => rfl
                case hy133 => (intro w hSw; (try dsimp only at hSw); go_simp; all_goals (first | done | with_reducible rfl))
                case hQ133 => exact fun _ _ _ h => h
                simp only [Act.put, List.setIfInBounds_toArray, List.set_cons_zero, List.set_cons_succ]
                refine wpAnyH_take (i := 1) (oi := ?oi134) (v := ?v134) ?hi134 (by kernel_rfl) ?hf134 ?hr134 ?hQ134 (Or.inl ⟨?hw134, ?hy134⟩) (by assumption) ?rest134
                case hi134 => simp only [List.getElem?_toArray, List.getElem?_cons_succ, List.getElem?_cons_zero]; rfl
                case hf134 => kernel_rfl
                case hr134 => kernel_rfl
                case hw134 => rfl
                case hy134 => (intro w hSw; (try dsimp only at hSw); go_simp; all_goals (first | done | with_reducible rfl))
                case hQ134 => exact fun _ _ _ h => h
                simp only [Act.put, List.setIfInBounds_toArray, List.set_cons_zero, List.set_cons_succ]
                refine wpAnyH_take (i := 2) (oi := ?oi135) (v := ?v135) ?hi135 (by kernel_rfl) ?hf135 ?hr135 ?hQ135 (Or.inl ⟨?hw135, ?hy135⟩) (by assumption) ?rest135
                case hi135 => simp only [List.getElem?_toArray, List.getElem?_cons_succ, List.getElem?_cons_zero]; rfl
                case hf135 => kernel_rfl
                case hr135 => kernel_rfl
                case hw135 => rfl
                case hy135 => (intro w hSw; (try dsimp only at hSw); go_simp; all_goals (first | done | with_reducible rfl))
                case hQ135 => exact fun _ _ _ h => h
                simp only [Act.put, List.setIfInBounds_toArray, List.set_cons_zero, List.set_cons_succ]
                refine wpAnyH_take (i := 3) (oi := ?oi136) (v := ?v136) ?hi136 (by kernel_rfl) ?hf136 ?hr136 ?hQ136 (Or.inl ⟨?hw136, ?hy136⟩) (by assumption) ?rest136
                case hi136 => simp only [List.getElem?_toArray, List.getElem?_cons_succ, List.getElem?_cons_zero]; rfl
                case hf136 => kernel_rfl
                case hr136 => kernel_rfl
                case hw136 => rfl
                case hy136 => (intro w hSw; (try dsimp only at hSw); go_simp; all_goals (first | done | with_reducible rfl))
                case hQ136 => exact fun _ _ _ h => h
                simp only [Act.put, List.setIfInBounds_toArray, List.set_cons_zero, List.set_cons_succ]
                refine wpAnyH_take (i := 4) (oi := ?oi137) (v := ?v137) ?hi137 (by kernel_rfl) ?hf137 ?hr137 ?hQ137 (Or.inl ⟨?hw137, ?hy137⟩) (by assumption) ?rest137
                case hi137 => simp only [List.getElem?_toArray, List.getElem?_cons_succ, List.getElem?_cons_zero]; rfl
                case hf137 => kernel_rfl
                case hr137 => kernel_rfl
                case hw137 => rfl
                case hy137 => (intro w hSw; (try dsimp only at hSw); go_simp; all_goals (first | done | with_reducible rfl))
                case hQ137 => exact fun _ _ _ h => h
                simp only [Act.put, List.setIfInBounds_toArray, List.set_cons_zero, List.set_cons_succ]
                refine wpAnyH_take (i := 5) (oi := ?oi138) (v := ?v138) ?hi138 (by kernel_rfl) ?hf138 ?hr138 ?hQ138 (Or.inl ⟨?hw138, ?hy138⟩) (by assumption) ?rest138
                case hi138 => simp only [List.getElem?_toArray, List.getElem?_cons_succ, List.getElem?_cons_zero]; rfl
                case hf138 => kernel_rfl
                case hr138 => kernel_rfl
                case hw138 => rfl
                case hy138 => (intro w hSw; (try dsimp only at hSw); go_simp; all_goals (first | done | with_reducible rfl))
                case hQ138 => exact fun _ _ _ h => h
                simp only [Act.put, List.setIfInBounds_toArray, List.set_cons_zero, List.set_cons_succ]
                refine wpAnyH_take (i := 6) (oi := ?oi139) (v := ?v139) ?hi139 (by kernel_rfl) ?hf139 ?hr139 ?hQ139 (Or.inl ⟨?hw139, ?hy139⟩) (by assumption) ?rest139
                case hi139 => simp only [List.getElem?_toArray, List.getElem?_cons_succ, List.getElem?_cons_zero]; rfl
                case hf139 => kernel_rfl
                case hr139 => kernel_rfl
                case hw139 => rfl
                case hy139 => (intro w hSw; (try dsimp only at hSw); go_simp; all_goals (first | done | with_reducible rfl))
                case hQ139 => exact fun _ _ _ h => h
                simp only [Act.put, List.setIfInBounds_toArray, List.set_cons_zero, List.set_cons_succ]
                refine wpAnyH_take (i := 7) (oi := ?oi140) (v := ?v140) ?hi140 (by kernel_rfl) ?hf140 ?hr140 ?hQ140 (Or.inl ⟨?hw140, ?hy140⟩) (by assumption) ?rest140
                case hi140 => simp only [List.getElem?_toArray, List.getElem?_cons_succ, List.getElem?_cons_zero]; rfl
                case hf140 => kernel_rfl
                case hr140 => kernel_rfl
                case hw140 => rfl
                case hy140 => (intro w hSw; (try dsimp only at hSw); go_simp; all_goals (first | done | with_reducible rfl))
                case hQ140 => exact fun _ _ _ h => h
                simp only [Act.put, List.setIfInBounds_toArray, List.set_cons_zero, List.set_cons_succ]
                refine wpAnyH_take (i := 8) (oi := ?oi141) (v := ?v141) ?hi141 (by kernel_rfl) ?hf141 ?hr141 ?hQ141 (Or.inl ⟨?hw141, ?hy141⟩) (by assumption) ?rest141
                case hi141 => simp only [List.getElem?_toArray, List.getElem?_cons_succ, List.getElem?_cons_zero]; rfl
                case hf141 => kernel_rfl
                case hr141 => kernel_rfl
                case hw141 => rfl
                case hy141 => (intro w hSw; (try dsimp only at hSw); go_simp; all_goals (first | done | with_reducible rfl))
                case hQ141 => exact fun _ _ _ h => h
                simp only [Act.put, List.setIfInBounds_toArray, List.set_cons_zero, List.set_cons_succ]
                refine wpAnyH_take (i := 9) (oi := ?oi142) (v := ?v142) ?hi142 (by kernel_rfl) ?hf142 ?hr142 ?hQ142 (Or.inl ⟨?hw142, ?hy142⟩) (by assumption) ?rest142
                case hi142 => simp only [List.getElem?_toArray, List.getElem?_cons_succ, List.getElem?_cons_zero]; rfl
                case hf142 => kernel_rfl
                case hr142 => kernel_rfl
                case hw142 => rfl
                case hy142 => (intro w hSw; (try dsimp only at hSw); go_simp; all_goals (first | done | with_reducible rfl))
                case hQ142 => exact fun _ _ _ h => h
                simp only [Act.put, List.setIfInBounds_toArray, List.set_cons_zero, List.set_cons_succ]
                refine wpAnyH_take (i := 10) (oi := ?oi143) (v := ?v143) ?hi143 (by kernel_rfl) ?hf143 ?hr143 ?hQ143 (Or.inl ⟨?hw143, ?hy143⟩) (by assumption) ?rest143
                case hi143 => simp only [List.getElem?_toArray, List.getElem?_cons_succ, List.getElem?_cons_zero]; rfl
                case hf143 => kernel_rfl
                case hr143 => kernel_rfl
                case hw143 => rfl
                case hy143 => (intro w hSw; (try dsimp only at hSw); go_simp; all_goals (first | done | with_reducible rfl))
                case hQ143 => exact fun _ _ _ h => h
                simp only [Act.put, List.setIfInBounds_toArray, List.set_cons_zero, List.set_cons_succ]
                refine wpAnyH_ready (rs := [11]) (by kernel_rfl) (by simp) ?_
                refine AllReadyH.cons (o := ?oi144) ?hi144 (fun K hK => ?step144) AllReadyH.nil
                case hi144 => simp only [List.getElem?_toArray, List.getElem?_cons_succ, List.getElem?_cons_zero]; rfl
                rw [if_pos (by rfl)]
                go_simp
                refine hK.out _ _ ⟨(World.cell?_setCell_far _ _ _ _ hgx).trans hS.1, (World.cell?_setCell_far _ _ _ _ hgo).trans hS.2.1, (World.cell?_setCell_far _ _ _ _ hgg).trans hS.2.2⟩ (fun hS => ?_)
                refine wpAnyH_done (by kernel_rfl) ?_ _
                have e0' := hS.1
                have f0' := hS.2.1
                have cs' := (World.cell?_setCell_far (wr.drew.drew) ⟨g, j * 6 + 1, none⟩ ⟨gb, ob + kk * 6 + 4, none⟩ (.int .i64 lvb) hgg).trans cs
                clear hS e0 f0 cl cs
                go_wp2_with fail
                refine wp_region_held_drew (S := (fun w' : World => w'.cell? ⟨w.heap.size + 1, 0, none⟩ = some (.slice (some ⟨gb, ob, none⟩) m1 j1) ∧ w'.cell? ⟨bo, 0, none⟩ = some (.slice (some ⟨g, 0, none⟩) n c) ∧ w'.cell? ⟨gb, ob + kk * 6 + 4, none⟩ = some (.bool stb))) (by kernel_rfl) ⟨e0', f0', cs'⟩ (fun hS => ?_)
                refine wpAnyH_take (i := 0) (oi := ?oi145) (v := ?v145) ?hi145 (by kernel_rfl) ?hf145 ?hr145 ?hQ145 (Or.inl ⟨?hw145, ?hy145⟩) (by assumption) ?rest145
                case hi145 => simp only [List.getElem?_toArray, List.getElem?_cons_succ, List.getElem?_cons_zero]; rfl
                case hf145 => kernel_rfl
                case hr145 => kernel_rfl
                case hw145 => rfl
                case hy145 => (intro w hSw; (try dsimp only at hSw); go_simp; all_goals (first | done | with_reducible rfl))
                case hQ145 => exact fun _ _ _ h => h
                simp only [Act.put, List.setIfInBounds_toArray, List.set_cons_zero, List.set_cons_succ]
                refine wpAnyH_take (i := 1) (oi := ?oi146) (v := ?v146) ?hi146 (by kernel_rfl) ?hf146 ?hr146 ?hQ146 (Or.inl ⟨?hw146, ?hy146⟩) (by assumption) ?rest146
                case hi146 => simp only [List.getElem?_toArray, List.getElem?_cons_succ, List.getElem?_cons_zero]; rfl
                case hf146 => kernel_rfl
                case hr146 => kernel_rfl
                case hw146 => rfl
                case hy146 => (intro w hSw; (try dsimp only at hSw); go_simp; all_goals (first | done | with_reducible rfl))
                case hQ146 => exact fun _ _ _ h => h
                simp only [Act.put, List.setIfInBounds_toArray, List.set_cons_zero, List.set_cons_succ]
                refine wpAnyH_take (i := 2) (oi := ?oi147) (v := ?v147) ?hi147 (by kernel_rfl) ?hf147 ?hr147 ?hQ147 (Or.inl ⟨?hw147, ?hy147⟩) (by assumption) ?rest147
                case hi147 => simp only [List.getElem?_toArray, List.getElem?_cons_succ, List.getElem?_cons_zero]; rfl
                case hf147 => kernel_rfl
                case hr147 => kernel_rfl
                case hw147 => rfl
                case hy147 => (intro w hSw; (try dsimp only at hSw); go_simp; all_goals (first | done | with_reducible rfl))
                case hQ147 => exact fun _ _ _ h => h
                simp only [Act.put, List.setIfInBounds_toArray, List.set_cons_zero, List.set_cons_succ]
                refine wpAnyH_take (i := 3) (oi := ?oi148) (v := ?v148) ?hi148 (by kernel_rfl) ?hf148 ?hr148 ?hQ148 (Or.inl ⟨?hw148, ?hy148⟩) (by assumption) ?rest148
                case hi148 => simp only [List.getElem?_toArray, List.getElem?_cons_succ, List.getElem?_cons_zero]; rfl
                case hf148 => kernel_rfl
                case hr148 => kernel_rfl
                case hw148 => rfl
                case hy148 => (intro w hSw; (try dsimp only at hSw); go_simp; all_goals (first | done | with_reducible rfl))
                case hQ148 => exact fun _ _ _ h => h
                simp only [Act.put, List.setIfInBounds_toArray, List.set_cons_zero, List.set_cons_succ]
                refine wpAnyH_take (i := 4) (oi := ?oi149) (v := ?v149) ?hi149 (by kernel_rfl) ?hf149 ?hr149 ?hQ149 (Or.inl ⟨?hw149, ?hy149⟩) (by assumption) ?rest149
                case hi149 => simp only [List.getElem?_toArray, List.getElem?_cons_succ, List.getElem?_cons_zero]; rfl
                case hf149 => kernel_rfl
                case hr149 => kernel_rfl
                case hw149 => rfl
                case hy149 => (intro w hSw; (try dsimp only at hSw); go_simp; all_goals (first | done | with_reducible rfl))
                case hQ149 => exact fun _ _ _ h => h
                simp only [Act.put, List.setIfInBounds_toArray, List.set_cons_zero, List.set_cons_succ]
                refine wpAnyH_take (i := 5) (oi := ?oi150) (v := ?v150) ?hi150 (by kernel_rfl) ?hf150 ?hr150 ?hQ150 (Or.inl ⟨?hw150, ?hy150⟩) (by assumption) ?rest150
                case hi150 => simp only [List.getElem?_toArray, List.getElem?_cons_succ, List.getElem?_cons_zero]; rfl
                case hf150 => kernel_rfl
                case hr150 => kernel_rfl
                case hw150 => rfl
                case hy150 => (intro w hSw; (try dsimp only at hSw); go_simp; all_goals (first | done | with_reducible rfl))
                case hQ150 => exact fun _ _ _ h => h
                simp only [Act.put, List.setIfInBounds_toArray, List.set_cons_zero, List.set_cons_succ]
                refine wpAnyH_take (i := 6) (oi := ?oi151) (v := ?v151) ?hi151 (by kernel_rfl) ?hf151 ?hr151 ?hQ151 (Or.inl ⟨?hw151, ?hy151⟩) (by assumption) ?rest151
                case hi151 => simp only [List.getElem?_toArray, List.getElem?_cons_succ, List.getElem?_cons_zero]; rfl
                case hf151 => kernel_rfl
                case hr151 => kernel_rfl
                case hw151 => rfl
                case hy151 => (intro w hSw; (try dsimp only at hSw); go_simp; all_goals (first | done | with_reducible rfl))
                case hQ151 => exact fun _ _ _ h => h
                simp only [Act.put, List.setIfInBounds_toArray, List.set_cons_zero, List.set_cons_succ]
                refine wpAnyH_take (i := 7) (oi := ?oi152) (v := ?v152) ?hi152 (by kernel_rfl) ?hf152 ?hr152 ?hQ152 (Or.inl ⟨?hw152, ?hy152⟩) (by assumption) ?rest152
                case hi152 => simp only [List.getElem?_toArray, List.getElem?_cons_succ, List.getElem?_cons_zero]; rfl
                case hf152 => kernel_rfl
                case hr152 => kernel_rfl
                case hw152 => rfl
                case hy152 => (intro w hSw; (try dsimp only at hSw); go_simp; all_goals (first | done | with_reducible rfl))
                case hQ152 => exact fun _ _ _ h => h
                simp only [Act.put, List.setIfInBounds_toArray, List.set_cons_zero, List.set_cons_succ]
                refine wpAnyH_take (i := 8) (oi := ?oi153) (v := ?v153) ?hi153 (by kernel_rfl) ?hf153 ?hr153 ?hQ153 (Or.inl ⟨?hw153, ?hy153⟩) (by assumption) ?rest153
                case hi153 => simp only [List.getElem?_toArray, List.getElem?_cons_succ, List.getElem?_cons_zero]; rfl
                case hf153 => kernel_rfl
                case hr153 => kernel_rfl
                case hw153 => rfl
                case hy153 => (intro w hSw; (try dsimp only at hSw); go_simp; all_goals (first | done | with_reducible rfl))
                case hQ153 => exact fun _ _ _ h => h
                simp only [Act.put, List.setIfInBounds_toArray, List.set_cons_zero, List.set_cons_succ]
                refine wpAnyH_take (i := 9) (oi := ?oi154) (v := ?v154) ?hi154 (by kernel_rfl) ?hf154 ?hr154 ?hQ154 (Or.inl ⟨?hw154, ?hy154⟩) (by assumption) ?rest154
                case hi154 => simp only [List.getElem?_toArray, List.getElem?_cons_succ, List.getElem?_cons_zero]; rfl
                case hf154 => kernel_rfl
                case hr154 => kernel_rfl
                case hw154 => rfl
                case hy154 => (intro w hSw; (try dsimp only at hSw); go_simp; all_goals (first | done | with_reducible rfl))
                case hQ154 => exact fun _ _ _ h => h
                simp only [Act.put, List.setIfInBounds_toArray, List.set_cons_zero, List.set_cons_succ]
                refine wpAnyH_take (i := 10) (oi := ?oi155) (v := ?v155) ?hi155 (by kernel_rfl) ?hf155 ?hr155 ?hQ155 (Or.inl ⟨?hw155, ?hy155⟩) (by assumption) ?rest155
                case hi155 => simp only [List.getElem?_toArray, List.getElem?_cons_succ, List.getElem?_cons_zero]; rfl
                case hf155 => kernel_rfl
                case hr155 => kernel_rfl
                case hw155 => rfl
                case hy155 => (intro w hSw; (try dsimp only at hSw); go_simp; all_goals (first | done | with_reducible rfl))
                case hQ155 => exact fun _ _ _ h => h
                simp only [Act.put, List.setIfInBounds_toArray, List.set_cons_zero, List.set_cons_succ]
                refine wpAnyH_ready (rs := [11]) (by kernel_rfl) (by simp) ?_
                refine AllReadyH.cons (o := ?oi156) ?hi156 (fun K hK => ?step156) AllReadyH.nil
                case hi156 => simp only [List.getElem?_toArray, List.getElem?_cons_succ, List.getElem?_cons_zero]; rfl
                rw [if_pos (by rfl)]
                go_simp
                refine hK.out _ _ ⟨(World.cell?_setCell_far _ _ _ _ hgx).trans hS.1, (World.cell?_setCell_far _ _ _ _ hgo).trans hS.2.1, (World.cell?_setCell_far _ _ _ _ hgg).trans hS.2.2⟩ (fun hS => ?_)
                refine wpAnyH_done (by kernel_rfl) ?_ _
                clear oc of oc4 of4 e0' f0' cs' hS
                go_wp2_with fail
                go_roundw
                case rel =>
                  refine ⟨j + 1, _, _, by go_num, rfl, by omega, ?_, HRs.out, HKs.out, HBs.out⟩
                  show lsOf (cul.set j _) = _
                  rw [mapk_step _ HX1.out.2, ← HC.out]
                  unfold lsOf
                  rw [List.map_set]
                case measure => simp [intOf]; omega
            · obtain rfl : j = n := by omega
              have HCC := hid (show lsOf cul = L.map (patL Lb) by
                have hkL := HLn.out
                have h := HC.out
                rw [List.take_of_length_le (by omega), List.drop_eq_nil_of_le (by omega), List.append_nil] at h
                exact h)
              have hcll : cul.length = j := by have h := congrArg List.length HCC.out; have := HLn.out; simp [lsOf] at h; omega
              have HCLL := hid hcll
              have f1 := (HKx.out.2 1 _ rfl).1
              have f2 := (HKx.out.2 2 _ rfl).1
              have KR9 := hid (KR1.out.to HBx.out)
              clear hcll HC
              obtain ⟨q0c, q0f⟩ := KR9.out.2 0 _ rfl
              obtain ⟨q1c, q1f⟩ := KR9.out.2 1 _ rfl
              obtain ⟨q2c, q2f⟩ := KR9.out.2 2 _ rfl
              go_wp2_with fail
              have RB := ((KR9.out.set 0 (.slice (some ⟨g, 0, none⟩) j c)).set 1 (.slice A4 k c4)).set 2 (.int .i64 qb)
              have f0 := (RB.2 0 _ rfl).1
              have f1 := (RB.2 1 _ rfl).1
              have f2 := (RB.2 2 _ rfl).1
              refine bodyPost_ret (v := .agg #[.slice (some ⟨g, 0, none⟩) j c, .slice A4 k c4, .int .i64 qb]) (by simp [results, Try.results33, go_sem, f0, f1, f2]) rfl ?_
              refine ⟨_, treeRows cul.length (.slice (some ⟨g, 0, none⟩) j c) cul cur.length (.slice A4 k c4) cur, rfl, ?_, ?_, ?_⟩
              · rw [HX.out]
                exact ⟨_, _, cul, cur, rfl, HCC.out, HCH.out, rfl⟩
              · refine Rows.base ?_ (show w.heap.size ≤ w1.heap.size by omega)
                iterate 3 refine Rows.low ?_ (by omega)
                rw [treeRows_eq, HCLL.out, HCL.out]
                simpa using HRx.out
              · iterate 3 refine Below.setCell ?_ (by simp; try omega) _
                exact HWx.out
end Go.Proofs.Ytbidlmejonpadaa
