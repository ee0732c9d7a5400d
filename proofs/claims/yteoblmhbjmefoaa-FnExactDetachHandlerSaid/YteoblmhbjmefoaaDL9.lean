/-
  A HANDLER TAKEN AWAY FROM A LOGGER: DetachHandler of the program and of the model. By gen_dl9.py.
-/
import Derived.Test.YteoblmhbjmefoaaDL8
import Derived.Test.YteoblmhbjmefoaaU2
namespace Go.Proofs.Yteoblmhbjmefoaa
open Go.RowKit Nm
set_option linter.unusedSimpArgs false
set_option linter.unusedVariables false

theorem pick_allD {α : Type} (l : List α) (p : α → Bool) (n : Nat) : rounds (pickIf l fun _ y => p y) n = (l.take n).filter p := by
  induction n with
  | zero => simp [rounds]
  | succ n ih =>
    rw [rounds_succ', ih, List.take_add_one, List.filter_append]
    congr 1
    unfold pickIf
    cases l[n]? with
    | none => rfl
    | some x => simp only [Option.toList]; by_cases hp : p x = true <;> simp [hp]
theorem usersT_iff {L : List Lgr} {H : List Hnd} {q : Int} (h : treeOk L H q = true) (s t : Name) : s ∈ usersT L H q t ↔ ∃ l ∈ L, t ∈ l.hs ∧ l.nm = s := by
  unfold usersT usersN usersK
  rw [h, if_pos rfl, pick_allD, List.take_length, List.mem_map]
  exact ⟨fun ⟨l, hl, e⟩ => ⟨l, (List.mem_filter.1 hl).1, of_decide_eq_true (List.mem_filter.1 hl).2, e⟩, fun ⟨l, hl, ht, e⟩ => ⟨l, List.mem_filter.2 ⟨hl, decide_eq_true ht⟩, e⟩⟩
def detX (L : List Lgr) (H : List Hnd) (q : Int) (s t : Name) : Option TreeD := if s ∈ usersT L H q t then lgrX L H q s (woL t) else none
theorem lgr_fit' (L : List Lgr) (H : List Hnd) (q : Int) (s : Name) (f : Lgr → Lgr) : dataFit (resL (lgrX L H q s f)) (resH (lgrX L H q s f)) := by
  unfold lgrX
  split
  · exact none_fit
  · exact changed_fit _ _ _ _
theorem det_res_fit (L : List Lgr) (H : List Hnd) (q : Int) (s t : Name) : dataFit (resL (detX L H q s t)) (resH (detX L H q s t)) := by
  unfold detX
  split
  · exact lgr_fit' _ _ _ _ _
  · exact none_fit
theorem det_bad {L : List Lgr} {H : List Hnd} {q : Int} (s t : Name) (h : treeOk L H q = false) : detX L H q s t = none := by
  unfold detX usersT
  rw [h]; simp
theorem det_noname {L : List Lgr} {H : List Hnd} {q : Int} {s : Name} (t : Name) (h : treeOk L H q = true) (hn : idxL (namesOf L) s < 0) : detX L H q s t = none := by
  unfold detX
  rw [if_neg]
  intro hm
  obtain ⟨l, hl, _, e⟩ := (usersT_iff h s t).1 hm
  exact (idx_neg _ _).1 hn (List.mem_map.2 ⟨l, hl, e⟩)
theorem names_nodup {L : List Lgr} {H : List Hnd} {q : Int} (h : treeOk L H q = true) : (namesOf L).Nodup := by
  unfold treeOk lgrsOk at h
  simp only [Bool.and_eq_true, decide_eq_true_eq] at h
  exact h.2.2.2.1
theorem det_at {L : List Lgr} {H : List Hnd} {q : Int} {s t : Name} {k : Nat} {l : Lgr} (h : treeOk L H q = true) (hk : idxL (namesOf L) s = (k : Int)) (hl : L[k]? = some l) : detX L H q s t = if t ∈ l.hs then some (updL L k (woL t), H, q) else none := by
  have hks := (idx_nat hk).2
  have hnm : l.nm = s := by unfold namesOf at hks; rw [List.getElem?_map, hl] at hks; exact Option.some.inj hks
  have hiff : s ∈ usersT L H q t ↔ t ∈ l.hs := by
    rw [usersT_iff h]
    refine ⟨fun ⟨l', hl', ht, e⟩ => ?_, fun ht => ⟨l, List.mem_of_getElem? hl, ht, hnm⟩⟩
    obtain ⟨j, hj⟩ := List.getElem?_of_mem hl'
    have hjl := (List.getElem?_eq_some_iff.1 hj).1
    have hkl := (List.getElem?_eq_some_iff.1 hl).1
    have hjk : j = k := nodup_at (names_nodup h) (by unfold namesOf; rw [List.length_map]; exact hjl) (by unfold namesOf; rw [List.length_map]; exact hkl) (by unfold namesOf; simp [List.getD, hj, hl, e, hnm])
    subst hjk
    rw [hl] at hj
    rw [Option.some.inj hj]; exact ht
  unfold detX
  by_cases ht : t ∈ l.hs
  · rw [if_pos (hiff.2 ht), if_pos ht]
    unfold lgrX changedO
    have e : ¬ ((k : Int) < 0) := by omega
    simp only [hk, h, if_neg e, Int.toNat_natCast, if_true, Option.bind_some]
    unfold ifOk
    rw [wo_ok k t h]; rfl
  · rw [if_neg (fun hm => ht (hiff.1 hm)), if_neg ht]

set_option maxHeartbeats 4000000 in
set_option maxRecDepth 100000 in
theorem implChangedLoggerG_c {w : World} {B : Nat} {v : Value} {L : List Lgr} {H : List Hnd} {q : Int} (s : ByteArray) (G : Nat) (cg : Value) {f : Lgr → Lgr} (h : TreeIn w B v L H q) (hB : B ≤ w.heap.size)
    (hC : ∀ (w1 : World) (k bf ba : Nat), Below w.heap.size w w1 → k < L.length → treeOk L H q = true → idxL (namesOf L) s.data.toList = (k : Int) → w1.cell? ⟨bf, 0, none⟩ = some (.func (.func G) #[] #[cg]) → w1.cell? ⟨ba, 0, none⟩ = some (.int .i64 k) → ∀ (W : World) (lo bc : Nat) (v1 v2 : Value) (rs : List Row), CloPre w1 lo bc W v1 v2 rs L H q →
      Calls Try.prog 112 #[.pointer (some ⟨bc, 0, none⟩), .pointer (some ⟨bf, 0, none⟩), .pointer (some ⟨ba, 0, none⟩)] W (CloPost lo bc W (some (updL L k f, H, q)))) :
    Calls Try.prog 68 #[v, .string s, .func (.func G) #[] #[cg]] w (TreePostO w (lgrX L H q s.data.toList f)) := by
  have C := fun (W : World) (hW : Below w.heap.size w W) => implLoggerAtX_c s (h.below hW hB) (Nat.le_trans hB hW.size)
  have CH := hid (fun (W : World) (hW : Below w.heap.size w W) => h.below hW hB)
  obtain ⟨A1, n1, k1, A2, n2, k2, rfl⟩ := h.form
  have hmf : ∀ (fn : Fn) (first cap : Array Value) (w : World), (Instr.makeFunc fn first cap).run Try.prog w = .ok (.func fn first cap) w := fun _ _ _ _ => rfl
  clear h
  by_cases hneg : (if treeOk L H q then idxL (namesOf L) s.data.toList else -1) < 0
  · have HE := hid (show lgrX L H q s.data.toList f = none by
      unfold lgrX
      by_cases hz : treeOk L H q = true
      · rw [if_pos hz] at hneg; rw [if_pos hneg]
      · unfold changedO; rw [if_neg hz]; split <;> rfl)
    generalize (if treeOk L H q then idxL (namesOf L) s.data.toList else -1) = z at C hneg
    replace C := hid C
    clear hC CH
    go_enter Try.func68, Try.ntmps68
    go_wp2_with fail
    refine (C.out _ ?_).mono ?_
    case refine_1 => go_grown
    rintro e w1 ⟨rfl, hb1⟩
    have K1 := ((Blk.new _ _ _).to hb1)
    simp only [World.size_alloc] at K1
    have HK1 := hid K1
    have HB1 := hid (Below.trans (by go_grown) (hb1.mono (by simp; try omega)) : Below w.heap.size w w1)
    have HK2 := hid (HK1.out.alloc (.cells #[.int .i64 z] 3))
    have HB2 := hid (HB1.out.alloc HB1.out.size (.cells #[.int .i64 z] 3))
    obtain ⟨q0c, q0f⟩ := HK2.out.2 0 _ rfl
    obtain ⟨q1c, q1f⟩ := HK2.out.2 1 _ rfl
    obtain ⟨q2c, q2f⟩ := HK2.out.2 2 _ rfl
    clear hb1 K1
    go_wp2_with fail
    have RB := ((HK2.out.set 0 (.slice none 0 0)).set 1 (.slice none 0 0)).set 2 (.int .i64 0)
    have f0 := (RB.2 0 _ rfl).1
    have f1 := (RB.2 1 _ rfl).1
    have f2 := (RB.2 2 _ rfl).1
    refine bodyPost_ret (v := .tuple #[.agg #[.slice none 0 0, .slice none 0 0, .int .i64 0], .bool false]) (by simp [results, Try.results68, go_sem, f0, f1, f2]) rfl ?_
    refine postO_none HE.out rfl ?_
    iterate 3 refine Below.setCell ?_ (by simp; try omega) _
    exact HB2.out
  · obtain ⟨k, hzk⟩ : ∃ k : Nat, (if treeOk L H q then idxL (namesOf L) s.data.toList else -1) = (k : Int) := ⟨_, (Int.toNat_of_nonneg (by omega)).symm⟩
    have hzt : treeOk L H q = true := by
      by_cases hz : treeOk L H q = true
      · exact hz
      · rw [if_neg hz] at hneg; omega
    rw [hzk] at C
    rw [if_pos hzt] at hzk
    have hkl : k < L.length := by have := (idx_nat hzk).1; simpa [namesOf] using this
    have HE := hid (show lgrX L H q s.data.toList f = changedO L H q (some (updL L k f, H, q)) by unfold lgrX; rw [hzk, if_neg (by omega)]; rfl)
    replace C := hid C
    have HC := hid hC
    have HZ := hid (And.intro hzt hzk)
    clear hC hneg hzk hzt
    generalize hX : lgrX L H q s.data.toList f = X at HE ⊢
    clear hX
    go_enter Try.func68, Try.ntmps68
    go_wp2_with fail
    refine (C.out _ ?_).mono ?_
    case refine_1 => go_grown
    rintro e w1 ⟨rfl, hb1⟩
    have K0 := ((((Blk.new _ _ _).alloc _).alloc _).to hb1)
    have KF := (((Blk.new _ _ _).alloc _).to hb1)
    have K1 := ((Blk.new _ _ _).to hb1)
    simp only [World.size_alloc] at K0 KF K1
    have HB1 := hid (Below.trans (by go_grown) (hb1.mono (by simp; try omega)) : Below w.heap.size w w1)
    have hw1 : w.heap.size + 3 ≤ w1.heap.size := by have := hb1.size; simp at this; omega
    have HK1 := hid K1
    have HW := hid (show Below w.heap.size w (w1.alloc (.cells #[.int .i64 k] 3)) from HB1.out.alloc HB1.out.size _)
    have HKF := hid (KF.alloc (.cells #[.int .i64 k] 3))
    have HKA := hid (Blk.new w1 #[.int .i64 k] 3)
    have HK2 := hid (K1.alloc (.cells #[.int .i64 k] 3))
    have CQ := hid (implChanged2_c 112 (.pointer (some ⟨w.heap.size + 1, 0, none⟩)) (.pointer (some ⟨w1.heap.size, 0, none⟩)) (some (updL L k f, H, q)) (CH.out _ HW.out) (Nat.le_trans hB HW.out.size) (fun args w => enters rfl (by kernel_rfl) rfl args w)
      (fun W lo bc v1 v2 rs _ hp => HC.out _ k _ _ HW.out hkl HZ.out.1 HZ.out.2 (HKF.out.2 0 _ rfl).1 (HKA.out.2 0 _ rfl).1 W lo bc v1 v2 rs hp))
    have K0' := K0.alloc (.cells #[.int .i64 k] 3)
    have d0 := (K0'.2 0 _ rfl).1
    have d1 := (K0'.2 1 _ rfl).1
    have d2 := (K0'.2 2 _ rfl).1
    clear hb1 K0 K0' K1 KF
    go_wp2_with fail
    refine (CQ.out).mono ?_
    rintro e w2 ⟨v', rs, rfl, hs, hr, hb2⟩
    have HX' := hid (show changedO L H q (some (updL L k f, H, q)) = X from HE.out.symm)
    rw [HX'.out] at hs
    obtain ⟨u1, u2, ls, hs', rfl, hL, hH, rfl⟩ := hs
    have KR1 := hid (HK2.out.to hb2)
    have HB2 := hid (HW.out.trans (hb2.mono HW.out.size))
    have HR1 := hid (hr.base (show w.heap.size + 3 ≤ _ by simp; omega))
    have HS1 := hid (show TreeS (treeRows ls.length u1 ls hs'.length u2 hs') (.agg #[u1, u2, .int .i64 (resQ X)]) (resL X) (resH X) (resQ X) from ⟨u1, u2, ls, hs', rfl, hL, hH, rfl⟩)
    obtain ⟨hl, hh⟩ := hr.lsIn
    obtain ⟨A3, c3, rfl, _, _⟩ := hl.1.form
    obtain ⟨A4, c4, rfl, _, _⟩ := hh.1.form
    obtain ⟨q0c, q0f⟩ := KR1.out.2 0 _ rfl
    obtain ⟨q1c, q1f⟩ := KR1.out.2 1 _ rfl
    obtain ⟨q2c, q2f⟩ := KR1.out.2 2 _ rfl
    generalize hq0 : resQ X = q0 at *
    generalize hi0 : (changedO L H q (some (updL L k f, H, q))).isSome = i0 at *
    have HI := hid (show X.isSome = i0 by rw [← HX'.out]; exact hi0)
    have HQ0 := hid hq0
    clear hq0 hi0 hb2 hr hl hh hL hH
    go_wp2_with fail
    have RB := ((KR1.out.set 0 (.slice A3 ls.length c3)).set 1 (.slice A4 hs'.length c4)).set 2 (.int .i64 q0)
    have f0 := (RB.2 0 _ rfl).1
    have f1 := (RB.2 1 _ rfl).1
    have f2 := (RB.2 2 _ rfl).1
    refine bodyPost_ret (v := .tuple #[.agg #[.slice A3 ls.length c3, .slice A4 hs'.length c4, .int .i64 q0], .bool i0]) (by simp [results, Try.results68, go_sem, f0, f1, f2]) rfl ?_
    refine ⟨_, _, by rw [HI.out], (by rw [HQ0.out]; exact HS1.out), ?_, ?_⟩
    · refine Rows.base ?_ (show w.heap.size ≤ w.heap.size + 3 by omega)
      iterate 3 refine Rows.low ?_ (by omega)
      exact HR1.out
    · iterate 3 refine Below.setCell ?_ (by simp; try omega) _
      exact HB2.out

set_option maxHeartbeats 4000000 in
set_option maxRecDepth 100000 in
theorem detachFn2_c {W : World} {lo n c g k bl : Nat} {ls : List LgrV} {post : List Row} {x : LgrV} (s : ByteArray) (hR : Rows W lo ([] ++ two 49 6 n (.slice (some ⟨g, 0, none⟩) n c) lcells lrows ls ++ post)) (hx : ls[k]? = some x) (hn : x.l.hs.length ≤ 64) (hlo : lo ≤ W.heap.size) (hbl : W.cell? ⟨bl, 0, none⟩ = some (.string s)) :
    Calls Try.prog 69 #[.pointer (some ⟨g, k * 6, none⟩), .pointer (some ⟨bl, 0, none⟩)] W (fun e w' => e = .returned (.tuple #[]) ∧ ∃ v', v'.ownBlock = x.hv.ownBlock ∧
      Rows w' lo ([] ++ two 49 6 n (.slice (some ⟨g, 0, none⟩) n c) lcells lrows (ls.set k ⟨woL s.data.toList x.l, v', (x.l.hs.filter (notS s.data.toList)).length, x.fv, x.fn⟩) ++ post) ∧ Below lo W w' ∧ ∀ b cs, b ≠ g → some b ≠ x.hv.ownBlock → Blk W b cs → Blk w' b cs) := by
  have C := hid (detach_c s hR hx hn hlo)
  clear hR hx hn
  go_enter Try.func69, Try.ntmps69
  go_wp2_with fail
  refine (C.out).mono ?_
  rintro e w1 ⟨rfl, hX⟩
  have HX := hid hX
  clear hX
  go_wp2_with fail
  go_end0
  exact ⟨rfl, HX.out⟩

set_option maxHeartbeats 8000000 in
set_option maxRecDepth 100000 in
theorem detClo_c {w : World} {L : List Lgr} {H : List Hnd} {q : Int} {k bf ba bl : Nat} (s : ByteArray) (hk : k < L.length) (hok : treeOk L H q = true) (hbf : w.cell? ⟨bf, 0, none⟩ = some (.func (.func 69) #[] #[.pointer (some ⟨bl, 0, none⟩)])) (hba : w.cell? ⟨ba, 0, none⟩ = some (.int .i64 k)) (hbl : w.cell? ⟨bl, 0, none⟩ = some (.string s))
    (W : World) (lo bc : Nat) (v1 v2 : Value) (rs : List Row) (hp : CloPre w lo bc W v1 v2 rs L H q) :
    Calls Try.prog 112 #[.pointer (some ⟨bc, 0, none⟩), .pointer (some ⟨bf, 0, none⟩), .pointer (some ⟨ba, 0, none⟩)] W (CloPost lo bc W (some (updL L k (woL s.data.toList), H, q))) := by
  obtain ⟨hb, hlo, hbc, hkb, hs, hr, hap, hd⟩ := hp
  obtain ⟨_, _, _, h8, _, _⟩ := tree_names hok
  have HD := hid (updl_fit (k := k) (f := woL s.data.toList) hd (fun l _ hl => wo_lgrFit _ hl))
  obtain ⟨u1, u2, ls, hs', e, h1, h2, h3⟩ := hs
  have e' : v1 = u1 ∧ v2 = u2 := by simpa using e
  obtain ⟨rfl, rfl⟩ := e'
  subst h3
  have hll : ls.length = L.length := by rw [← h1]; simp [lsOf]
  obtain ⟨hl, hh⟩ := hr.lsIn
  obtain ⟨A, c, rfl, hnc, hcm⟩ := hl.1.form
  obtain ⟨A4, c4, rfl, _, _⟩ := hh.1.form
  rw [treeRows_eq] at hr hap
  have hr0 : Rows W lo ([] ++ two 49 6 ls.length (.slice A ls.length c) lcells lrows ls ++ two 83 3 hs'.length (.slice A4 hs'.length c4) hcells hrows hs') := by simpa using hr
  obtain ⟨g, rfl, hglt⟩ := own_some hr0.top (by omega)
  have hgl : lo ≤ g := (hr0.top.lt g rfl).1
  obtain ⟨x, hx⟩ : ∃ x, ls[k]? = some x := ⟨_, List.getElem?_eq_getElem (by omega)⟩
  have hlx : L[k]? = some x.l := by rw [← h1]; unfold lsOf; rw [List.getElem?_map, hx]; rfl
  have hgb : g ≠ bc := fun e => hap ⟨49, 6, ls.length, .slice (some ⟨g, 0, none⟩) ls.length c, ls.flatMap lcells⟩ (by simp [two]) (by rw [← e]; rfl)
  have hxb : x.hv.ownBlock ≠ some bc := hap ⟨9, 1, x.hn, x.hv, x.l.hs.map txt⟩ (by
    rw [List.mem_append]; left
    simp only [two, List.mem_cons, List.mem_flatMap]
    exact .inr ⟨x, List.mem_of_getElem? hx, by simp [lrows]⟩)
  have hbfw : bf < w.heap.size := World.block_lt_of_cell? w _ hbf
  have hbaw : ba < w.heap.size := World.block_lt_of_cell? w _ hba
  have hblw : bl < w.heap.size := World.block_lt_of_cell? w _ hbl
  have hloW : lo ≤ W.heap.size := by have := hkb.1; omega
  have f0 : W.cell? ⟨bf, 0, none⟩ = some (.func (.func 69) #[] #[.pointer (some ⟨bl, 0, none⟩)]) := (hb.cell (p := ⟨bf, 0, none⟩) hbfw).trans hbf
  have a0 : W.cell? ⟨ba, 0, none⟩ = some (.int .i64 k) := (hb.cell (p := ⟨ba, 0, none⟩) hbaw).trans hba
  have l0 : W.cell? ⟨bl, 0, none⟩ = some (.string s) := (hb.cell (p := ⟨bl, 0, none⟩) hblw).trans hbl
  have d0 := (hkb.2 0 _ rfl).1
  have hhs := (tree_nodup hok (List.mem_of_getElem? hlx)).2
  have CG := hid (detachFn2_c (bl := bl) s (hr0.below ((Below.refl _ _).drew)) hx (by omega) hloW l0)
  have s0 : (0 : Int) ≤ (k : Int) := by omega
  have s1 : (k : Int) < (ls.length : Int) := by omega
  have s2 : ((k : Int)).toNat = k := by simp
  unfold maxLen at hcm
  have HKB := hid hkb
  have HX := hid hx
  have HLH := hid (And.intro h1 h2)
  have HN := hid (And.intro hgb hxb)
  have HLO := hid (And.intro hlo hbc)
  clear hl hh hr hr0 hap hkb hd h1 h2 e hb hbf hba hbl hok hll h8 hx hlx hgb hxb l0 hhs hlo hbc
  generalize hN : ls.length = n at *
  have HNn := hid hN
  clear hN
  go_enter Try.func112, Try.ntmps112
  go_wp2_with fail
  refine wp_region_held_drew (S := (fun w' : World => w'.cell? ⟨bf, 0, none⟩ = some (.func (.func 69) #[] #[.pointer (some ⟨bl, 0, none⟩)]) ∧ w'.cell? ⟨bc, 0, none⟩ = some (.slice (some ⟨g, 0, none⟩) n c) ∧ w'.cell? ⟨ba, 0, none⟩ = some (.int .i64 k))) (by kernel_rfl) ⟨f0, d0, a0⟩ (fun hS => ?_)
  refine wpAnyH_take (i := 0) (oi := ?oi101) (v := ?v101) ?hi101 (by kernel_rfl) ?hf101 ?hr101 ?hQ101 (Or.inl ⟨?hw101, ?hy101⟩) (by assumption) ?rest101
  case hi101 => simp only [List.getElem?_toArray, List.getElem?_cons_succ, List.getElem?_cons_zero]; rfl
  case hf101 => kernel_rfl
  case hr101 => kernel_rfl
  case hw101 => rfl
  case hy101 => (intro w hSw; (try dsimp only at hSw); go_simp; all_goals (first | done | with_reducible rfl))
  case hQ101 => exact fun _ _ _ h => h
  simp only [Act.put, List.setIfInBounds_toArray, List.set_cons_zero, List.set_cons_succ]
  refine wpAnyH_take (i := 1) (oi := ?oi102) (v := ?v102) ?hi102 (by kernel_rfl) ?hf102 ?hr102 ?hQ102 (Or.inl ⟨?hw102, ?hy102⟩) (by assumption) ?rest102
  case hi102 => simp only [List.getElem?_toArray, List.getElem?_cons_succ, List.getElem?_cons_zero]; rfl
  case hf102 => kernel_rfl
  case hr102 => kernel_rfl
  case hw102 => rfl
  case hy102 => (intro w hSw; (try dsimp only at hSw); go_simp; all_goals (first | done | with_reducible rfl))
  case hQ102 => exact fun _ _ _ h => h
  simp only [Act.put, List.setIfInBounds_toArray, List.set_cons_zero, List.set_cons_succ]
  refine wpAnyH_take (i := 2) (oi := ?oi103) (v := ?v103) ?hi103 (by kernel_rfl) ?hf103 ?hr103 ?hQ103 (Or.inl ⟨?hw103, ?hy103⟩) (by assumption) ?rest103
  case hi103 => simp only [List.getElem?_toArray, List.getElem?_cons_succ, List.getElem?_cons_zero]; rfl
  case hf103 => kernel_rfl
  case hr103 => kernel_rfl
  case hw103 => rfl
  case hy103 => (intro w hSw; (try dsimp only at hSw); go_simp; all_goals (first | done | with_reducible rfl))
  case hQ103 => exact fun _ _ _ h => h
  simp only [Act.put, List.setIfInBounds_toArray, List.set_cons_zero, List.set_cons_succ]
  refine wpAnyH_take (i := 3) (oi := ?oi104) (v := ?v104) ?hi104 (by kernel_rfl) ?hf104 ?hr104 ?hQ104 (Or.inl ⟨?hw104, ?hy104⟩) (by assumption) ?rest104
  case hi104 => simp only [List.getElem?_toArray, List.getElem?_cons_succ, List.getElem?_cons_zero]; rfl
  case hf104 => kernel_rfl
  case hr104 => kernel_rfl
  case hw104 => rfl
  case hy104 => (intro w hSw; (try dsimp only at hSw); go_simp; all_goals (first | done | with_reducible rfl))
  case hQ104 => exact fun _ _ _ h => h
  simp only [Act.put, List.setIfInBounds_toArray, List.set_cons_zero, List.set_cons_succ]
  refine wpAnyH_take (i := 4) (oi := ?oi105) (v := ?v105) ?hi105 (by kernel_rfl) ?hf105 ?hr105 ?hQ105 (Or.inl ⟨?hw105, ?hy105⟩) (by assumption) ?rest105
  case hi105 => simp only [List.getElem?_toArray, List.getElem?_cons_succ, List.getElem?_cons_zero]; rfl
  case hf105 => kernel_rfl
  case hr105 => kernel_rfl
  case hw105 => rfl
  case hy105 => (intro w hSw; (try dsimp only at hSw); go_simp; all_goals (first | done | with_reducible rfl))
  case hQ105 => exact fun _ _ _ h => h
  simp only [Act.put, List.setIfInBounds_toArray, List.set_cons_zero, List.set_cons_succ]
  refine wpAnyH_take (i := 5) (oi := ?oi106) (v := ?v106) ?hi106 (by kernel_rfl) ?hf106 ?hr106 ?hQ106 (Or.inl ⟨?hw106, ?hy106⟩) (by assumption) ?rest106
  case hi106 => simp only [List.getElem?_toArray, List.getElem?_cons_succ, List.getElem?_cons_zero]; rfl
  case hf106 => kernel_rfl
  case hr106 => kernel_rfl
  case hw106 => rfl
  case hy106 => (intro w hSw; (try dsimp only at hSw); go_simp; all_goals (first | done | with_reducible rfl))
  case hQ106 => exact fun _ _ _ h => h
  simp only [Act.put, List.setIfInBounds_toArray, List.set_cons_zero, List.set_cons_succ]
  refine wpAnyH_take (i := 6) (oi := ?oi107) (v := ?v107) ?hi107 (by kernel_rfl) ?hf107 ?hr107 ?hQ107 (Or.inl ⟨?hw107, ?hy107⟩) (by assumption) ?rest107
  case hi107 => simp only [List.getElem?_toArray, List.getElem?_cons_succ, List.getElem?_cons_zero]; rfl
  case hf107 => kernel_rfl
  case hr107 => kernel_rfl
  case hw107 => rfl
  case hy107 => (intro w hSw; (try dsimp only at hSw); go_simp; all_goals (first | done | with_reducible rfl))
  case hQ107 => exact fun _ _ _ h => h
  simp only [Act.put, List.setIfInBounds_toArray, List.set_cons_zero, List.set_cons_succ]
  refine wpAnyH_ready (rs := [7]) (by kernel_rfl) (by simp) ?_
  refine AllReadyH.cons (o := ?oi108) ?hi108 (fun K hK => ?step108) AllReadyH.nil
  case hi108 => simp only [List.getElem?_toArray, List.getElem?_cons_succ, List.getElem?_cons_zero]; rfl
  rw [if_pos (by rfl)]
  go_simp
  go_at_call 69
  refine (CG.out).mono ?_
  rintro e w9 ⟨rfl, v', hv', hR3, hB3, hK3⟩
  have HR3 := hid hR3
  have HK3 := hid (hK3 bc _ (fun e => HN.out.1 e.symm) (fun e => HN.out.2 e.symm) (HKB.out.dr 1))
  have HB3 := hid (show Below lo W w9 from ((Below.refl lo W).drew).trans hB3)
  refine hK.out _ _ ⟨(HB3.out.cell (p := ⟨bf, 0, none⟩) (show bf < lo by have := HLO.out.1; omega)).trans f0, (HK3.out.2 0 _ rfl).1, (HB3.out.cell (p := ⟨ba, 0, none⟩) (show ba < lo by have := HLO.out.1; omega)).trans a0⟩ (fun hS => ?_)
  refine wpAnyH_done (by kernel_rfl) ?_ _
  clear hv' hR3 hB3 hK3 hS f0 a0 d0
  go_wp2_with fail
  go_ret
  refine ⟨HB3.out, rfl, fun x' hx' => ?_⟩
  obtain rfl := Option.some.inj hx'
  refine ⟨_, _, _, _, _, _, treeRows (ls.set k _).length _ (ls.set k ⟨woL s.data.toList x.l, v', (x.l.hs.filter (notS s.data.toList)).length, x.fv, x.fn⟩) hs'.length _ hs', HK3.out, ⟨_, _, ls.set k ⟨woL s.data.toList x.l, v', (x.l.hs.filter (notS s.data.toList)).length, x.fv, x.fn⟩, hs', rfl, ?_, HLH.out.2, rfl⟩, ?_, HD.out⟩
  · rw [← HLH.out.1]
    have e : (lsOf ls)[k]? = some x.l := by unfold lsOf; rw [List.getElem?_map, HX.out]; rfl
    unfold updL
    rw [e]
    unfold lsOf
    rw [List.map_set]
  · rw [treeRows_eq, List.length_set, HNn.out]
    simpa using HR3.out

set_option maxHeartbeats 4000000 in
set_option maxRecDepth 100000 in
theorem implDetachHandler_c {w : World} {B : Nat} {v : Value} {L : List Lgr} {H : List Hnd} {q : Int} (s t : ByteArray) (h : TreeIn w B v L H q) (hB : B ≤ w.heap.size) :
    Calls Try.prog 22 #[v, .string s, .string t] w (TreePostO w (detX L H q s.data.toList t.data.toList)) := by
  have HT := hid h
  obtain ⟨A1, n1, k1, A2, n2, k2, rfl⟩ := h.form
  have HW := hid (show Below w.heap.size w (((w.alloc (.cells #[.slice A1 n1 k1, .slice A2 n2 k2, .int .i64 q] 30)).alloc (.cells #[.string t] 9)).alloc (.cells #[.slice none 0 0, .slice none 0 0, .int .i64 0] 30)) from (((Below.refl _ _).alloc (Nat.le_refl _) _).alloc (by simp) _).alloc (by simp; omega) _)
  have KT := hid (((Blk.new w #[.slice A1 n1 k1, .slice A2 n2 k2, .int .i64 q] 30).alloc (.cells #[.string t] 9)).alloc (.cells #[.slice none 0 0, .slice none 0 0, .int .i64 0] 30))
  have KQ := hid ((Blk.new (w.alloc (.cells #[.slice A1 n1 k1, .slice A2 n2 k2, .int .i64 q] 30)) #[.string t] 9).alloc (.cells #[.slice none 0 0, .slice none 0 0, .int .i64 0] 30))
  have KR := hid (Blk.new ((w.alloc (.cells #[.slice A1 n1 k1, .slice A2 n2 k2, .int .i64 q] 30)).alloc (.cells #[.string t] 9)) #[.slice none 0 0, .slice none 0 0, .int .i64 0] 30)
  simp only [World.size_alloc] at KQ KR
  have hsz3 : (((w.alloc (.cells #[.slice A1 n1 k1, .slice A2 n2 k2, .int .i64 q] 30)).alloc (.cells #[.string t] 9)).alloc (.cells #[.slice none 0 0, .slice none 0 0, .int .i64 0] 30)).heap.size = w.heap.size + 3 := by simp
  have CU := hid (implUsersOf_c t (h.below HW.out hB) (Nat.le_trans hB HW.out.size))
  have hmf : ∀ (fn : Fn) (first cap : Array Value) (w : World), (Instr.makeFunc fn first cap).run Try.prog w = .ok (.func fn first cap) w := fun _ _ _ _ => rfl
  have hfitU : ∀ x ∈ usersT L H q t.data.toList, x.length ≤ maxTxt := fun x hx => by
    cases hz : treeOk L H q with
    | false => unfold usersT at hx; rw [hz] at hx; cases hx
    | true =>
      obtain ⟨l, hl, _, rfl⟩ := (usersT_iff hz x _).1 hx
      exact ((fit_ok hz).1.2 l hl).1
  have HFU := hid hfitU
  clear h hfitU
  have HE := hid (show detX L H q s.data.toList t.data.toList = if s.data.toList ∈ usersT L H q t.data.toList then lgrX L H q s.data.toList (woL t.data.toList) else none from rfl)
  generalize detX L H q s.data.toList t.data.toList = X at HE ⊢
  generalize usersT L H q t.data.toList = U at *
  have d0 := (KT.out.2 0 _ rfl).1
  have d1 := (KT.out.2 1 _ rfl).1
  have d2 := (KT.out.2 2 _ rfl).1
  have e0 := (KQ.out.2 0 _ rfl).1
  go_enter Try.func22, Try.ntmps22
  go_wp2_with fail
  refine (CU.out).mono ?_
  rintro e w1 ⟨vU, rfl, hoU, hb1⟩
  obtain ⟨A3, c3, rfl, _, _⟩ := (Sl.of_own hoU).form
  have HW1 := hid (HW.out.trans (hb1.mono HW.out.size))
  have KT1 := hid (KT.out.to hb1)
  have KQ1 := hid (KQ.out.to hb1)
  have KR1 := hid (KR.out.to hb1)
  have hw1 : w.heap.size + 3 ≤ w1.heap.size := by have := hb1.size; rw [hsz3] at this; exact this
  have CK := hid (containsTxt_c _ _ w1.heap.size U s w1 ⟨Sl.of_own hoU, HFU.out⟩)
  clear hoU hb1 d0 d1 d2 e0 hsz3
  by_cases hin : s.data.toList ∈ U
  · rw [decide_eq_true hin] at CK
    have HX := hid (show X = lgrX L H q s.data.toList (woL t.data.toList) by rw [HE.out, if_pos hin])
    have CQ := hid (implChangedLoggerG_c s 69 (.pointer (some ⟨w.heap.size + 1, 0, none⟩)) (f := woL t.data.toList) (HT.out.below HW1.out hB) (Nat.le_trans hB HW1.out.size)
      (fun w2 k bf ba hW2 hk hok _ hbf hba W lo bc v1 v2 rs hp => detClo_c (bl := w.heap.size + 1) t hk hok hbf hba ((KQ1.out.to hW2).2 0 _ rfl).1 W lo bc v1 v2 rs hp))
    rw [← HX.out] at CQ
    clear hin
    have d0 := (KT1.out.2 0 _ rfl).1
    have d1 := (KT1.out.2 1 _ rfl).1
    have d2 := (KT1.out.2 2 _ rfl).1
    go_wp2_with fail
    refine (CK.out).mono ?_
    rintro e w2 ⟨rfl, hw2⟩
    subst hw2
    go_wp2_with fail
    refine (CQ.out).mono ?_
    rintro e w3 ⟨v', rs, rfl, hs, hr, hb3⟩
    obtain ⟨u1, u2, ls, hs', rfl, hL, hH, rfl⟩ := hs
    have KR3 := hid (KR1.out.to hb3)
    have HB3 := hid (HW1.out.trans (hb3.mono HW1.out.size))
    have HR3 := hid hr
    have HS3 := hid (show TreeS (treeRows ls.length u1 ls hs'.length u2 hs') (.agg #[u1, u2, .int .i64 (resQ X)]) (resL X) (resH X) (resQ X) from ⟨u1, u2, ls, hs', rfl, hL, hH, rfl⟩)
    obtain ⟨hl, hh⟩ := hr.lsIn
    obtain ⟨A5, c5, rfl, _, _⟩ := hl.1.form
    obtain ⟨A4, c4, rfl, _, _⟩ := hh.1.form
    generalize hq0 : resQ X = q0 at *
    generalize hi0 : X.isSome = i0 at *
    have HI := hid hi0
    have HQ0 := hid hq0
    clear hq0 hi0 hb3 hr hl hh hL hH d0 d1 d2
    obtain ⟨q0c, q0f⟩ := KR3.out.2 0 _ rfl
    obtain ⟨q1c, q1f⟩ := KR3.out.2 1 _ rfl
    obtain ⟨q2c, q2f⟩ := KR3.out.2 2 _ rfl
    go_wp2_with fail
    have RB := ((KR3.out.set 0 (.slice A5 ls.length c5)).set 1 (.slice A4 hs'.length c4)).set 2 (.int .i64 q0)
    have f0 := (RB.2 0 _ rfl).1
    have f1 := (RB.2 1 _ rfl).1
    have f2 := (RB.2 2 _ rfl).1
    refine bodyPost_ret (v := .tuple #[.agg #[.slice A5 ls.length c5, .slice A4 hs'.length c4, .int .i64 q0], .bool i0]) (by simp [results, Try.results22, go_sem, f0, f1, f2]) rfl ?_
    refine ⟨_, _, by rw [HI.out], (by rw [HQ0.out]; exact HS3.out), ?_, ?_⟩
    · refine Rows.base ?_ (show w.heap.size ≤ w1.heap.size by omega)
      iterate 3 refine Rows.low ?_ (by omega)
      exact HR3.out
    · iterate 3 refine Below.setCell ?_ (by simp; try omega) _
      exact HB3.out
  · rw [decide_eq_false hin] at CK
    have HX := hid (show X = none by rw [HE.out, if_neg hin])
    clear hin
    go_wp2_with fail
    refine (CK.out).mono ?_
    rintro e w2 ⟨rfl, hw2⟩
    subst hw2
    obtain ⟨q0c, q0f⟩ := KR1.out.2 0 _ rfl
    obtain ⟨q1c, q1f⟩ := KR1.out.2 1 _ rfl
    obtain ⟨q2c, q2f⟩ := KR1.out.2 2 _ rfl
    go_wp2_with fail
    have RB := ((KR1.out.set 0 (.slice none 0 0)).set 1 (.slice none 0 0)).set 2 (.int .i64 0)
    have f0 := (RB.2 0 _ rfl).1
    have f1 := (RB.2 1 _ rfl).1
    have f2 := (RB.2 2 _ rfl).1
    refine bodyPost_ret (v := .tuple #[.agg #[.slice none 0 0, .slice none 0 0, .int .i64 0], .bool false]) (by simp [results, Try.results22, go_sem, f0, f1, f2]) rfl ?_
    refine postO_none HX.out rfl ?_
    iterate 3 refine Below.setCell ?_ (by simp; try omega) _
    exact HW1.out

set_option maxHeartbeats 8000000 in
set_option maxRecDepth 100000 in
theorem specDetachHandler_c {w : World} {B : Nat} {v : Value} {L : List Lgr} {H : List Hnd} {q : Int} (s t : ByteArray) (h : TreeIn w B v L H q) (hB : B ≤ w.heap.size) :
    Calls Try.prog 21 #[v, .string s, .string t] w (TreePostO w (detX L H q s.data.toList t.data.toList)) := by
  have C := hid (fun (W : World) (hW : Below w.heap.size w W) => specTreeX_c (h.below hW hB) (Nat.le_trans hB hW.size))
  have hBw := hB
  obtain ⟨A1, n1, k1, A2, n2, k2, rfl⟩ := h.form
  obtain ⟨ls, hl, hL⟩ := h.loggers
  have AT := fun (W : World) (hW : Below w.heap.size w W) => loggerAt_c (.slice A1 n1 k1) n1 B ls s W (hl.below hW hB)
  have hN : lnames ls = namesOf L := by rw [← hL, namesOf_ls]
  rw [hN] at AT
  clear hN
  cases hz : treeOk L H q with
  | false =>
    have HE := hid (det_bad s.data.toList t.data.toList hz)
    generalize idxL (namesOf L) s.data.toList = z at AT
    replace AT := hid AT
    rw [hz] at C
    clear h hz hl hL
    go_enter Try.func21, Try.ntmps21
    go_wp2_with (go_at_call 46; refine (AT.out _ (by go_grown)).mono ?_; rintro e w2 ⟨rfl, hw2⟩; have hw2 := hw2.symm; subst hw2)
    refine (C.out _ ?_).mono ?_
    case refine_1 => go_grown
    rintro e w1 ⟨rfl, hb1⟩
    have K1 := ((Blk.new _ _ _).to hb1)
    simp only [World.size_alloc] at K1
    have HK1 := hid K1
    have HB1 := hid (Below.trans (by go_grown) (hb1.mono (by simp; try omega)) : Below w.heap.size w w1)
    clear hb1 K1
    obtain ⟨q0c, q0f⟩ := HK1.out.2 0 _ rfl
    obtain ⟨q1c, q1f⟩ := HK1.out.2 1 _ rfl
    obtain ⟨q2c, q2f⟩ := HK1.out.2 2 _ rfl
    go_wp2_with fail
    have RB := ((HK1.out.set 0 (.slice none 0 0)).set 1 (.slice none 0 0)).set 2 (.int .i64 0)
    have f0 := (RB.2 0 _ rfl).1
    have f1 := (RB.2 1 _ rfl).1
    have f2 := (RB.2 2 _ rfl).1
    refine bodyPost_ret (v := .tuple #[.agg #[.slice none 0 0, .slice none 0 0, .int .i64 0], .bool false]) (by simp [results, Try.results21, go_sem, f0, f1, f2]) rfl ?_
    refine postO_none HE.out rfl ?_
    iterate 3 refine Below.setCell ?_ (by simp) _
    exact HB1.out
  | true =>
   by_cases hneg : idxL (namesOf L) s.data.toList < 0
   · have HE := hid (det_noname t.data.toList hz hneg)
     generalize idxL (namesOf L) s.data.toList = z at AT hneg
     replace AT := hid AT
     rw [hz] at C
     clear h hz hl hL
     go_enter Try.func21, Try.ntmps21
     go_wp2_with (go_at_call 46; refine (AT.out _ (by go_grown)).mono ?_; rintro e w2 ⟨rfl, hw2⟩; have hw2 := hw2.symm; subst hw2)
     refine (C.out _ ?_).mono ?_
     case refine_1 => go_grown
     rintro e w1 ⟨rfl, hb1⟩
     have K1 := ((Blk.new _ _ _).to hb1)
     simp only [World.size_alloc] at K1
     have HK1 := hid K1
     have HB1 := hid (Below.trans (by go_grown) (hb1.mono (by simp; try omega)) : Below w.heap.size w w1)
     clear hb1 K1
     obtain ⟨q0c, q0f⟩ := HK1.out.2 0 _ rfl
     obtain ⟨q1c, q1f⟩ := HK1.out.2 1 _ rfl
     obtain ⟨q2c, q2f⟩ := HK1.out.2 2 _ rfl
     go_wp2_with fail
     have RB := ((HK1.out.set 0 (.slice none 0 0)).set 1 (.slice none 0 0)).set 2 (.int .i64 0)
     have f0 := (RB.2 0 _ rfl).1
     have f1 := (RB.2 1 _ rfl).1
     have f2 := (RB.2 2 _ rfl).1
     refine bodyPost_ret (v := .tuple #[.agg #[.slice none 0 0, .slice none 0 0, .int .i64 0], .bool false]) (by simp [results, Try.results21, go_sem, f0, f1, f2]) rfl ?_
     refine postO_none HE.out rfl ?_
     iterate 3 refine Below.setCell ?_ (by simp) _
     exact HB1.out
   · obtain ⟨k, hzk⟩ : ∃ k : Nat, idxL (namesOf L) s.data.toList = (k : Int) := ⟨_, (Int.toNat_of_nonneg (by omega)).symm⟩
     have hkl : k < L.length := by have := (idx_nat hzk).1; simpa [namesOf] using this
     have hkn : k < n1 := by rw [← hL] at hkl; unfold lsOf at hkl; rw [List.length_map] at hkl; rw [← hl.count]; exact hkl
     obtain ⟨b, o, x0, _, rfl, hbB, hx0, _, _, htx, _, _, _, x2, _, _, _⟩ := hl.at_ hkn
     have hlx : L[k]? = some x0.l := by rw [← hL]; unfold lsOf; rw [List.getElem?_map, hx0]; rfl
     have HE := hid (det_at (t := t.data.toList) hz hzk hlx)
     obtain ⟨A8, c8, e8, _, _⟩ := htx.1.form
     rw [e8] at htx x2
     have CK := hid (fun (W : World) (hW : Below w.heap.size w W) => hasText_c _ _ _ _ t W (htx.below hW hB))
     have X2 := hid (fun (W : World) (hW : Below w.heap.size w W) => (hW.cell (p := ⟨b, o + k * 6 + 2, none⟩) (show b < w.heap.size by omega)).trans x2)
     have hk1m := hl.1.cap.2
     have hn1k := hl.1.cap.1
     unfold maxLen at hk1m
     rw [hzk] at AT
     replace AT := hid AT
     have s0 : (0 : Int) ≤ (k : Int) := by omega
     have s1 : (k : Int) < (n1 : Int) := by omega
     have s2 : ((k : Int)).toNat = k := by simp
     have sk : ¬ (k : Int) < 0 := by omega
     by_cases hin : t.data.toList ∈ x0.l.hs
     · have HN := hid (show detX L H q s.data.toList t.data.toList = some (updL L k (woL t.data.toList), H, q) by rw [HE.out, if_pos hin])
       rw [decide_eq_true hin] at CK
       have CC := hid (fun (W : World) (hW : Below w.heap.size w W) => specCopy_c (h.below hW hB) hz (Nat.le_trans hB hW.size))
       obtain ⟨_, _, _, h8, _, _⟩ := tree_names hz
       have HND := hid (fun (l : Lgr) (hl : l ∈ L) => (tree_nodup hz hl).2)
       rw [hz] at C
       clear h hz hneg hzk hl hx0 htx x2 hin HE
       go_enter Try.func21, Try.ntmps21
       go_wp2_with (go_at_call 46; refine (AT.out _ (by go_grown)).mono ?_; rintro e w2 ⟨rfl, hw2⟩; have hw2 := hw2.symm; subst hw2)
       refine (C.out _ ?_).mono ?_
       case refine_1 => go_grown
       rintro e w1 ⟨rfl, hb1⟩
       have K0 := (((Blk.new _ _ _).alloc _).to hb1)
       have K1 := ((Blk.new _ _ _).to hb1)
       simp only [World.size_alloc] at K0 K1
       have HK0 := hid K0
       have HK1 := hid K1
       have HB1 := hid (Below.trans (by go_grown) (hb1.mono (by simp; try omega)) : Below w.heap.size w w1)
       have hsz1 : w.heap.size + 2 ≤ w1.heap.size := by have := hb1.size; simp at this; omega
       have d0 := (HK0.out.2 0 _ rfl).1
       have d1 := (HK0.out.2 1 _ rfl).1
       have d2 := (HK0.out.2 2 _ rfl).1
       have y2 := X2.out _ HB1.out
       clear hb1 K0 K1
       go_wp2_with fail
       refine (CK.out _ HB1.out).mono ?_
       rintro e w9 ⟨rfl, hw9⟩
       have hw9 := hw9.symm
       subst hw9
       go_wp2_with fail
       refine (CC.out _ HB1.out).mono ?_
       rintro e w2 ⟨v', rs, rfl, hs, hr, hb2⟩
       obtain ⟨u1, u2, ls2, hs', rfl, h1, h2, rfl⟩ := hs
       have hll : ls2.length = L.length := by rw [← h1]; simp [lsOf]
       obtain ⟨hl, hh⟩ := hr.lsIn
       obtain ⟨A3, c3, rfl, hnc3, hcm3⟩ := hl.1.form
       obtain ⟨A4, c, rfl, hnc, hcm⟩ := hh.1.form
       rw [treeRows_eq] at hr
       have hr0 : Rows w2 w1.heap.size ([] ++ two 49 6 ls2.length (.slice A3 ls2.length c3) lcells lrows ls2 ++ two 83 3 hs'.length (.slice A4 hs'.length c) hcells hrows hs') := by simpa using hr
       obtain ⟨g, rfl, hglt⟩ := own_some hr0.top (by omega)
       have hgl : w1.heap.size ≤ g := (hr0.top.lt g rfl).1
       obtain ⟨x, hx⟩ : ∃ x, ls2[k]? = some x := ⟨_, List.getElem?_eq_getElem (by omega)⟩
       have hlx2 : L[k]? = some x.l := by rw [← h1]; unfold lsOf; rw [List.getElem?_map, hx]; rfl
       have HBA := hid (show Below w2.heap.size w2 (w2.alloc (.cells #[.slice (some ⟨g, 0, none⟩) ls2.length c3, .slice A4 hs'.length c, .int .i64 q] 30)) from (Below.refl _ _).alloc (Nat.le_refl _) _)
       have hRd := hr0.below HBA.out.drew
       have hsz12 : w1.heap.size ≤ w2.heap.size := hb2.size
       have hww1 : w.heap.size ≤ w1.heap.size := HB1.out.size
       have hgo : g ≠ w2.heap.size := by omega
       have HKO := hid ((Blk.new w2 #[.slice (some ⟨g, 0, none⟩) ls2.length c3, .slice A4 hs'.length c, .int .i64 q] 30).dr 1)
       have HK2 := hid (((HK1.out.to hb2).alloc (.cells #[.slice (some ⟨g, 0, none⟩) ls2.length c3, .slice A4 hs'.length c, .int .i64 q] 30)).dr 1)
       have HB2 := hid (((show Below w1.heap.size w1 w2 from hb2).trans (HBA.out.mono hb2.size)).drew)
       have HLH := hid (And.intro h1 h2)
       have HX := hid (And.intro hx hlx2)
       have hxn0 := HND.out x.l (List.mem_of_getElem? hlx2)
       generalize hN : ls2.length = n at *
       have HNn := hid hN
       have t1 : (k : Int) < (n : Int) := by omega
       have hn8 : n ≤ 8 := by omega
       unfold maxLen at hcm3
       generalize hw3 : w2.alloc (.cells #[.slice (some ⟨g, 0, none⟩) n c3, .slice A4 hs'.length c, .int .i64 q] 30) = w3 at *
       have own6 : w3.drew.ownsRow w1.heap.size 9 1 x.hv x.hn (x.l.hs.map txt) := hRd.sub_ hx (r := ⟨9, 1, x.hn, x.hv, x.l.hs.map txt⟩) (by simp [lrows])
       have o2 := hRd.cell_at (j := 2) lcells_len hx rfl
       have hxn : x.hn ≤ 6 := by have := own6.1; simp at this; omega
       have CW := hid (without_c x.hv x.hn w3.drew.heap.size x.l.hs t w3.drew (Sl.of_own own6) (Nat.le_refl _) (by omega))
       obtain ⟨A6, c6, e6, _, _⟩ := (Sl.of_own own6).form
       have m0 : w3.drew.cell? ⟨g, k * 6 + 2, none⟩ = some (.slice A6 x.hn c6) := by rw [← e6]; exact o2.1
       rw [e6] at CW
       have HRd := hid hRd
       have HM := hid (And.intro e6 o2.2)
       have hgw : g < w3.drew.heap.size := World.block_lt_of_cell? _ _ m0
       have hszr : w1.heap.size ≤ w3.drew.heap.size := HB2.out.size
       have c0 := (HKO.out.2 0 _ rfl).1
       clear hb2 hr hr0 hl hh h1 h2 hll hx hlx2 hN own6 o2 e6 hRd d0 d1 d2 y2 h8 hxn0 hnc
       go_wp2_with fail

       refine wp_region_held_drew (S := (fun w' : World => w'.cell? ⟨w2.heap.size, 0, none⟩ = some (.slice (some ⟨g, 0, none⟩) n c3))) (by kernel_rfl) c0 (fun hS => ?_)
       refine wpAnyH_take (i := 0) (oi := ?oi109) (v := ?v109) ?hi109 (by kernel_rfl) ?hf109 ?hr109 ?hQ109 (Or.inl ⟨?hw109, ?hy109⟩) (by assumption) ?rest109
       case hi109 => simp only [List.getElem?_toArray, List.getElem?_cons_succ, List.getElem?_cons_zero]; rfl
       case hf109 => kernel_rfl
       case hr109 => kernel_rfl
       case hw109 => rfl
       case hy109 => (intro w hSw; (try dsimp only at hSw); go_simp; all_goals (first | done | with_reducible rfl))
       case hQ109 => exact fun _ _ _ h => h
       simp only [Act.put, List.setIfInBounds_toArray, List.set_cons_zero, List.set_cons_succ]
       refine wpAnyH_take (i := 1) (oi := ?oi110) (v := ?v110) ?hi110 (by kernel_rfl) ?hf110 ?hr110 ?hQ110 (Or.inl ⟨?hw110, ?hy110⟩) (by assumption) ?rest110
       case hi110 => simp only [List.getElem?_toArray, List.getElem?_cons_succ, List.getElem?_cons_zero]; rfl
       case hf110 => kernel_rfl
       case hr110 => kernel_rfl
       case hw110 => rfl
       case hy110 => (intro w hSw; (try dsimp only at hSw); go_simp; all_goals (first | done | with_reducible rfl))
       case hQ110 => exact fun _ _ _ h => h
       simp only [Act.put, List.setIfInBounds_toArray, List.set_cons_zero, List.set_cons_succ]
       refine wpAnyH_take (i := 2) (oi := ?oi111) (v := ?v111) ?hi111 (by kernel_rfl) ?hf111 ?hr111 ?hQ111 (Or.inl ⟨?hw111, ?hy111⟩) (by assumption) ?rest111
       case hi111 => simp only [List.getElem?_toArray, List.getElem?_cons_succ, List.getElem?_cons_zero]; rfl
       case hf111 => kernel_rfl
       case hr111 => kernel_rfl
       case hw111 => rfl
       case hy111 => (intro w hSw; (try dsimp only at hSw); go_simp; all_goals (first | done | with_reducible rfl))
       case hQ111 => exact fun _ _ _ h => h
       simp only [Act.put, List.setIfInBounds_toArray, List.set_cons_zero, List.set_cons_succ]
       refine wpAnyH_take (i := 3) (oi := ?oi112) (v := ?v112) ?hi112 (by kernel_rfl) ?hf112 ?hr112 ?hQ112 (Or.inl ⟨?hw112, ?hy112⟩) (by assumption) ?rest112
       case hi112 => simp only [List.getElem?_toArray, List.getElem?_cons_succ, List.getElem?_cons_zero]; rfl
       case hf112 => kernel_rfl
       case hr112 => kernel_rfl
       case hw112 => rfl
       case hy112 => (intro w hSw; (try dsimp only at hSw); go_simp; all_goals (first | done | with_reducible rfl))
       case hQ112 => exact fun _ _ _ h => h
       simp only [Act.put, List.setIfInBounds_toArray, List.set_cons_zero, List.set_cons_succ]
       refine wpAnyH_take (i := 4) (oi := ?oi113) (v := ?v113) ?hi113 (by kernel_rfl) ?hf113 ?hr113 ?hQ113 (Or.inl ⟨?hw113, ?hy113⟩) (by assumption) ?rest113
       case hi113 => simp only [List.getElem?_toArray, List.getElem?_cons_succ, List.getElem?_cons_zero]; rfl
       case hf113 => kernel_rfl
       case hr113 => kernel_rfl
       case hw113 => rfl
       case hy113 => (intro w hSw; (try dsimp only at hSw); go_simp; all_goals (first | done | with_reducible rfl))
       case hQ113 => exact fun _ _ _ h => h
       simp only [Act.put, List.setIfInBounds_toArray, List.set_cons_zero, List.set_cons_succ]
       refine wpAnyH_take (i := 5) (oi := ?oi114) (v := ?v114) ?hi114 (by kernel_rfl) ?hf114 ?hr114 ?hQ114 (Or.inl ⟨?hw114, ?hy114⟩) (by assumption) ?rest114
       case hi114 => simp only [List.getElem?_toArray, List.getElem?_cons_succ, List.getElem?_cons_zero]; rfl
       case hf114 => kernel_rfl
       case hr114 => kernel_rfl
       case hw114 => rfl
       case hy114 => (intro w hSw; (try dsimp only at hSw); go_simp; all_goals (first | done | with_reducible rfl))
       case hQ114 => exact fun _ _ _ h => h
       simp only [Act.put, List.setIfInBounds_toArray, List.set_cons_zero, List.set_cons_succ]
       refine wpAnyH_take (i := 6) (oi := ?oi115) (v := ?v115) ?hi115 (by kernel_rfl) ?hf115 ?hr115 ?hQ115 (Or.inl ⟨?hw115, ?hy115⟩) (by assumption) ?rest115
       case hi115 => simp only [List.getElem?_toArray, List.getElem?_cons_succ, List.getElem?_cons_zero]; rfl
       case hf115 => kernel_rfl
       case hr115 => kernel_rfl
       case hw115 => rfl
       case hy115 => (intro w hSw; (try dsimp only at hSw); go_simp; all_goals (first | done | with_reducible rfl))
       case hQ115 => exact fun _ _ _ h => h
       simp only [Act.put, List.setIfInBounds_toArray, List.set_cons_zero, List.set_cons_succ]
       refine wpAnyH_take (i := 7) (oi := ?oi116) (v := ?v116) ?hi116 (by kernel_rfl) ?hf116 ?hr116 ?hQ116 (Or.inl ⟨?hw116, ?hy116⟩) (by assumption) ?rest116
       case hi116 => simp only [List.getElem?_toArray, List.getElem?_cons_succ, List.getElem?_cons_zero]; rfl
       case hf116 => kernel_rfl
       case hr116 => kernel_rfl
       case hw116 => rfl
       case hy116 => (intro w hSw; (try dsimp only at hSw); go_simp; all_goals (first | done | with_reducible rfl))
       case hQ116 => exact fun _ _ _ h => h
       simp only [Act.put, List.setIfInBounds_toArray, List.set_cons_zero, List.set_cons_succ]
       refine wpAnyH_take (i := 9) (oi := ?oi117) (v := ?v117) ?hi117 (by kernel_rfl) ?hf117 ?hr117 ?hQ117 (Or.inl ⟨?hw117, ?hy117⟩) (by assumption) ?rest117
       case hi117 => simp only [List.getElem?_toArray, List.getElem?_cons_succ, List.getElem?_cons_zero]; rfl
       case hf117 => kernel_rfl
       case hr117 => kernel_rfl
       case hw117 => rfl
       case hy117 => (intro w hSw; (try dsimp only at hSw); go_simp; all_goals (first | done | with_reducible rfl))
       case hQ117 => exact fun _ _ _ h => h
       simp only [Act.put, List.setIfInBounds_toArray, List.set_cons_zero, List.set_cons_succ]
       refine wpAnyH_ready (rs := [8]) (by kernel_rfl) (by simp) ?_
       refine AllReadyH.cons (o := ?oi118) ?hi118 (fun K hK => ?step118) AllReadyH.nil
       case hi118 => simp only [List.getElem?_toArray, List.getElem?_cons_succ, List.getElem?_cons_zero]; rfl
       rw [if_pos (by rfl)]
       go_simp
       refine hK.out _ _ hS (fun hS => ?_)
       refine wpAnyH_ready (rs := [10]) (by kernel_rfl) (by simp) ?_
       refine AllReadyH.cons (o := ?oi119) ?hi119 (fun K hK => ?step119) AllReadyH.nil
       case hi119 => simp only [List.getElem?_toArray, List.getElem?_cons_succ, List.getElem?_cons_zero]; rfl
       rw [if_pos (by rfl)]
       go_simp
       go_at_call 61
       refine (CW.out).mono ?_
       rintro e w5 ⟨v5, rfl, ho5, hb5⟩
       obtain ⟨A7, c7, rfl, _, _⟩ := (Sl.of_own ho5).form
       have m1 : w5.cell? ⟨g, k * 6 + 2, none⟩ = some (.slice A6 x.hn c6) := (hb5.cell (p := ⟨g, k * 6 + 2, none⟩) hgw).trans m0
       have f1 : w5.frozen? ⟨g, k * 6 + 2, none⟩ = false := (hb5.frozen (p := ⟨g, k * 6 + 2, none⟩) hgw).trans HM.out.2
       have HR5 := hid (HRd.out.rowcell (w' := w5) (i := k) (j := 0) (q := 2) (e := 2) (x := x) (y := ⟨woL t.data.toList x.l, .slice A7 (x.l.hs.filter (notS t.data.toList)).length c7, (x.l.hs.filter (notS t.data.toList)).length, x.fv, x.fn⟩)
         (r := ⟨9, 1, x.hn, x.hv, x.l.hs.map txt⟩) (r' := ⟨9, 1, (x.l.hs.filter (notS t.data.toList)).length, .slice A7 (x.l.hs.filter (notS t.data.toList)).length c7, (x.l.hs.filter (notS t.data.toList)).map txt⟩) (u := .slice A7 (x.l.hs.filter (notS t.data.toList)).length c7)
         lcells_len lrows_len HX.out.1 (by omega) rfl (grown_of hb5 _) (own_base ho5 hszr) (fun z hz => .inr (ho5.lt z hz).1) (by omega) rfl rfl)
       have HK5 := hid ((HKO.out.to hb5).apart ⟨g, k * 6 + 2, none⟩ (.slice A7 (x.l.hs.filter (notS t.data.toList)).length c7) hgo)
       have HKz5 := hid ((HK2.out.to hb5).apart ⟨g, k * 6 + 2, none⟩ (.slice A7 (x.l.hs.filter (notS t.data.toList)).length c7) (show g ≠ w.heap.size + 1 by omega))
       have HB5 := hid (HB1.out.trans (((HB2.out.trans (hb5.mono hszr)).setCell (p := ⟨g, k * 6 + 2, none⟩) hgl (.slice A7 (x.l.hs.filter (notS t.data.toList)).length c7)).mono hww1))
       have cb := ((HKO.out.to hb5).2 0 _ rfl).1
       refine hK.out _ _ cb (fun hS => ?_)
       refine wpAnyH_take (i := 11) (oi := ?oi120) (v := ?v120) ?hi120 (by kernel_rfl) ?hf120 ?hr120 ?hQ120 (Or.inl ⟨?hw120, ?hy120⟩) (by assumption) ?rest120
       case hi120 => simp only [List.getElem?_toArray, List.getElem?_cons_succ, List.getElem?_cons_zero]; rfl
       case hf120 => kernel_rfl
       case hr120 => kernel_rfl
       case hw120 => rfl
       case hy120 => (intro w hSw; (try dsimp only at hSw); go_simp; all_goals (first | done | with_reducible rfl))
       case hQ120 => exact fun _ _ _ h => h
       simp only [Act.put, List.setIfInBounds_toArray, List.set_cons_zero, List.set_cons_succ]
       refine wpAnyH_take (i := 12) (oi := ?oi121) (v := ?v121) ?hi121 (by kernel_rfl) ?hf121 ?hr121 ?hQ121 (Or.inl ⟨?hw121, ?hy121⟩) (by assumption) ?rest121
       case hi121 => simp only [List.getElem?_toArray, List.getElem?_cons_succ, List.getElem?_cons_zero]; rfl
       case hf121 => kernel_rfl
       case hr121 => kernel_rfl
       case hw121 => rfl
       case hy121 => (intro w hSw; (try dsimp only at hSw); go_simp; all_goals (first | done | with_reducible rfl))
       case hQ121 => exact fun _ _ _ h => h
       simp only [Act.put, List.setIfInBounds_toArray, List.set_cons_zero, List.set_cons_succ]
       refine wpAnyH_ready (rs := [13]) (by kernel_rfl) (by simp) ?_
       refine AllReadyH.cons (o := ?oi122) ?hi122 (fun K hK => ?step122) AllReadyH.nil
       case hi122 => simp only [List.getElem?_toArray, List.getElem?_cons_succ, List.getElem?_cons_zero]; rfl
       rw [if_pos (by rfl)]
       go_simp
       refine hK.out _ _ ((HK5.out.2 0 _ rfl).1) (fun hS => ?_)
       refine wpAnyH_done (by kernel_rfl) ?_ _
       clear hS c0 m0 m1 f1 cb ho5 hb5
       have b0 := (HK5.out.2 0 _ rfl).1
       have b1 := (HK5.out.2 1 _ rfl).1
       have b2 := (HK5.out.2 2 _ rfl).1
       obtain ⟨q0c, q0f⟩ := HKz5.out.2 0 _ rfl
       obtain ⟨q1c, q1f⟩ := HKz5.out.2 1 _ rfl
       obtain ⟨q2c, q2f⟩ := HKz5.out.2 2 _ rfl
       go_wp2_with fail
       have RB := ((HKz5.out.set 0 (.slice (some ⟨g, 0, none⟩) n c3)).set 1 (.slice A4 hs'.length c)).set 2 (.int .i64 q)
       have f0 := (RB.2 0 _ rfl).1
       have f1 := (RB.2 1 _ rfl).1
       have f2 := (RB.2 2 _ rfl).1
       refine bodyPost_ret (v := .tuple #[.agg #[.slice (some ⟨g, 0, none⟩) n c3, .slice A4 hs'.length c, .int .i64 q], .bool true]) (by simp [results, Try.results21, go_sem, f0, f1, f2]) rfl ?_
       rw [HN.out]
       refine ⟨_, treeRows (ls2.set k _).length _ (ls2.set k ⟨woL t.data.toList x.l, .slice A7 (x.l.hs.filter (notS t.data.toList)).length c7, (x.l.hs.filter (notS t.data.toList)).length, x.fv, x.fn⟩) hs'.length _ hs', rfl, ⟨_, _, ls2.set k ⟨woL t.data.toList x.l, .slice A7 (x.l.hs.filter (notS t.data.toList)).length c7, (x.l.hs.filter (notS t.data.toList)).length, x.fv, x.fn⟩, hs', rfl, ?_, HLH.out.2, rfl⟩, ?_, ?_⟩
       · show lsOf _ = updL L k _
         rw [← HLH.out.1]
         have e : (lsOf ls2)[k]? = some x.l := by unfold lsOf; rw [List.getElem?_map, HX.out.1]; rfl
         unfold updL
         rw [e]
         unfold lsOf
         rw [List.map_set]
       · refine Rows.base ?_ hww1
         iterate 3 refine Rows.low ?_ (by omega)
         rw [treeRows_eq, List.length_set, HNn.out]
         simpa using HR5.out
       · iterate 3 refine Below.setCell ?_ (by simp) _
         exact HB5.out
     · have HN := hid (show detX L H q s.data.toList t.data.toList = none by rw [HE.out, if_neg hin])
       rw [decide_eq_false hin] at CK
       rw [hz] at C
       clear h hz hneg hzk hl hx0 htx x2 hin HE
       go_enter Try.func21, Try.ntmps21
       go_wp2_with (go_at_call 46; refine (AT.out _ (by go_grown)).mono ?_; rintro e w2 ⟨rfl, hw2⟩; have hw2 := hw2.symm; subst hw2)
       refine (C.out _ ?_).mono ?_
       case refine_1 => go_grown
       rintro e w1 ⟨rfl, hb1⟩
       have K0 := (((Blk.new _ _ _).alloc _).to hb1)
       have K1 := ((Blk.new _ _ _).to hb1)
       simp only [World.size_alloc] at K0 K1
       have HK0 := hid K0
       have HK1 := hid K1
       have HB1 := hid (Below.trans (by go_grown) (hb1.mono (by simp; try omega)) : Below w.heap.size w w1)
       have d0 := (HK0.out.2 0 _ rfl).1
       have y2 := X2.out _ HB1.out
       clear hb1 K0 K1
       go_wp2_with fail
       refine (CK.out _ HB1.out).mono ?_
       rintro e w9 ⟨rfl, hw9⟩
       have hw9 := hw9.symm
       subst hw9
       obtain ⟨q0c, q0f⟩ := HK1.out.2 0 _ rfl
       obtain ⟨q1c, q1f⟩ := HK1.out.2 1 _ rfl
       obtain ⟨q2c, q2f⟩ := HK1.out.2 2 _ rfl
       clear d0 y2
       go_wp2_with fail
       have RB := ((HK1.out.set 0 (.slice none 0 0)).set 1 (.slice none 0 0)).set 2 (.int .i64 0)
       have f0 := (RB.2 0 _ rfl).1
       have f1 := (RB.2 1 _ rfl).1
       have f2 := (RB.2 2 _ rfl).1
       refine bodyPost_ret (v := .tuple #[.agg #[.slice none 0 0, .slice none 0 0, .int .i64 0], .bool false]) (by simp [results, Try.results21, go_sem, f0, f1, f2]) rfl ?_
       refine postO_none HN.out rfl ?_
       iterate 3 refine Below.setCell ?_ (by simp) _
       exact HB1.out
end Go.Proofs.Yteoblmhbjmefoaa
