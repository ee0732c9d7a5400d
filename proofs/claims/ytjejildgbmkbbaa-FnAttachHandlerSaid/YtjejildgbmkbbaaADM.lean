/-
  DL9, CG, RC, AT1, NM1, DT1, AD1 laid together.
-/
import Derived.Test.YtjejildgbmkbbaaDTM1
import Derived.Test.YtjejildgbmkbbaaU2
import Derived.Test.YtjejildgbmkbbaaC10
import Derived.Test.YtjejildgbmkbbaaHeld
import Derived.Test.YtjejildgbmkbbaaE11
import Derived.Test.YtjejildgbmkbbaaE7
import Derived.Test.YtjejildgbmkbbaaSpotLaws
/-
  A HANDLER TAKEN AWAY FROM A LOGGER: DetachHandler of the program and of the model. By gen_dl9.py.
-/
namespace Go.Proofs.Ytjejildgbmkbbaa
open Go.RowKit Nm
set_option linter.unusedSimpArgs false
set_option linter.unusedVariables false

theorem pick_allD {α : Type} (l : List α) (p : α → Bool) (n : Nat) : rounds (pickIf l fun _ y => p y) n = (l.take n).filter p := by
  induction n with
  | zero => simp [rounds]
  | succ n ih =>
    rw [rounds_succ', ih, List.take_add_one, List.filter_append]
    congr 1
    unfold pickIf
    cases l[n]? with
    | none => rfl
    | some x => simp only [Option.toList]; by_cases hp : p x = true <;> simp [hp]
theorem usersT_iff {L : List Lgr} {H : List Hnd} {q : Int} (h : treeOk L H q = true) (s t : Name) : s ∈ usersT L H q t ↔ ∃ l ∈ L, t ∈ l.hs ∧ l.nm = s := by
  unfold usersT usersN usersK
  rw [h, if_pos rfl, pick_allD, List.take_length, List.mem_map]
  exact ⟨fun ⟨l, hl, e⟩ => ⟨l, (List.mem_filter.1 hl).1, of_decide_eq_true (List.mem_filter.1 hl).2, e⟩, fun ⟨l, hl, ht, e⟩ => ⟨l, List.mem_filter.2 ⟨hl, decide_eq_true ht⟩, e⟩⟩
def detX (L : List Lgr) (H : List Hnd) (q : Int) (s t : Name) : Option TreeD := if s ∈ usersT L H q t then lgrX L H q s (woL t) else none
theorem lgr_fit' (L : List Lgr) (H : List Hnd) (q : Int) (s : Name) (f : Lgr → Lgr) : dataFit (resL (lgrX L H q s f)) (resH (lgrX L H q s f)) := by
  unfold lgrX
  split
  · exact none_fit
  · exact changed_fit _ _ _ _
theorem det_res_fit (L : List Lgr) (H : List Hnd) (q : Int) (s t : Name) : dataFit (resL (detX L H q s t)) (resH (detX L H q s t)) := by
  unfold detX
  split
  · exact lgr_fit' _ _ _ _ _
  · exact none_fit
theorem det_bad {L : List Lgr} {H : List Hnd} {q : Int} (s t : Name) (h : treeOk L H q = false) : detX L H q s t = none := by
  unfold detX usersT
  rw [h]; simp
theorem det_noname {L : List Lgr} {H : List Hnd} {q : Int} {s : Name} (t : Name) (h : treeOk L H q = true) (hn : idxL (namesOf L) s < 0) : detX L H q s t = none := by
  unfold detX
  rw [if_neg]
  intro hm
  obtain ⟨l, hl, _, e⟩ := (usersT_iff h s t).1 hm
  exact (idx_neg _ _).1 hn (List.mem_map.2 ⟨l, hl, e⟩)
theorem names_nodup {L : List Lgr} {H : List Hnd} {q : Int} (h : treeOk L H q = true) : (namesOf L).Nodup := by
  unfold treeOk lgrsOk at h
  simp only [Bool.and_eq_true, decide_eq_true_eq] at h
  exact h.2.2.2.1
theorem det_at {L : List Lgr} {H : List Hnd} {q : Int} {s t : Name} {k : Nat} {l : Lgr} (h : treeOk L H q = true) (hk : idxL (namesOf L) s = (k : Int)) (hl : L[k]? = some l) : detX L H q s t = if t ∈ l.hs then some (updL L k (woL t), H, q) else none := by
  have hks := (idx_nat hk).2
  have hnm : l.nm = s := by unfold namesOf at hks; rw [List.getElem?_map, hl] at hks; exact Option.some.inj hks
  have hiff : s ∈ usersT L H q t ↔ t ∈ l.hs := by
    rw [usersT_iff h]
    refine ⟨fun ⟨l', hl', ht, e⟩ => ?_, fun ht => ⟨l, List.mem_of_getElem? hl, ht, hnm⟩⟩
    obtain ⟨j, hj⟩ := List.getElem?_of_mem hl'
    have hjl := (List.getElem?_eq_some_iff.1 hj).1
    have hkl := (List.getElem?_eq_some_iff.1 hl).1
    have hjk : j = k := nodup_at (names_nodup h) (by unfold namesOf; rw [List.length_map]; exact hjl) (by unfold namesOf; rw [List.length_map]; exact hkl) (by unfold namesOf; simp [List.getD, hj, hl, e, hnm])
    subst hjk
    rw [hl] at hj
    rw [Option.some.inj hj]; exact ht
  unfold detX
  by_cases ht : t ∈ l.hs
  · rw [if_pos (hiff.2 ht), if_pos ht]
    unfold lgrX changedO
    have e : ¬ ((k : Int) < 0) := by omega
    simp only [hk, h, if_neg e, Int.toNat_natCast, if_true, Option.bind_some]
    unfold ifOk
    rw [wo_ok k t h]; rfl
  · rw [if_neg (fun hm => ht (hiff.1 hm)), if_neg ht]

set_option maxHeartbeats 4000000 in
set_option maxRecDepth 100000 in
theorem implChangedLoggerG_c {w : World} {B : Nat} {v : Value} {L : List Lgr} {H : List Hnd} {q : Int} (s : ByteArray) (G : Nat) (cg : Value) {f : Lgr → Lgr} (h : TreeIn w B v L H q) (hB : B ≤ w.heap.size)
    (hC : ∀ (w1 : World) (k bf ba : Nat), Below w.heap.size w w1 → k < L.length → treeOk L H q = true → idxL (namesOf L) s.data.toList = (k : Int) → w1.cell? ⟨bf, 0, none⟩ = some (.func (.func G) #[] #[cg]) → w1.cell? ⟨ba, 0, none⟩ = some (.int .i64 k) → ∀ (W : World) (lo bc : Nat) (v1 v2 : Value) (rs : List Row), CloPre w1 lo bc W v1 v2 rs L H q →
      Calls Try.prog 35 #[.pointer (some ⟨bc, 0, none⟩), .pointer (some ⟨bf, 0, none⟩), .pointer (some ⟨ba, 0, none⟩)] W (CloPost lo bc W (some (updL L k f, H, q)))) :
    Calls Try.prog 16 #[v, .string s, .func (.func G) #[] #[cg]] w (TreePostO w (lgrX L H q s.data.toList f)) := by
  have C := fun (W : World) (hW : Below w.heap.size w W) => implLoggerAtX_c s (h.below hW hB) (Nat.le_trans hB hW.size)
  have CH := hid (fun (W : World) (hW : Below w.heap.size w W) => h.below hW hB)
  obtain ⟨A1, n1, k1, A2, n2, k2, rfl⟩ := h.form
  have hmf : ∀ (fn : Fn) (first cap : Array Value) (w : World), (Instr.makeFunc fn first cap).run Try.prog w = .ok (.func fn first cap) w := fun _ _ _ _ => rfl
  clear h
  by_cases hneg : (if treeOk L H q then idxL (namesOf L) s.data.toList else -1) < 0
  · have HE := hid (show lgrX L H q s.data.toList f = none by
      unfold lgrX
      by_cases hz : treeOk L H q = true
      · rw [if_pos hz] at hneg; rw [if_pos hneg]
      · unfold changedO; rw [if_neg hz]; split <;> rfl)
    generalize (if treeOk L H q then idxL (namesOf L) s.data.toList else -1) = z at C hneg
    replace C := hid C
    clear hC CH
    go_enter Try.func16, Try.ntmps16
    go_wp2_with fail
    refine (C.out _ ?_).mono ?_
    case refine_1 => go_grown
    rintro e w1 ⟨rfl, hb1⟩
    have K1 := ((Blk.new _ _ _).to hb1)
    simp only [World.size_alloc] at K1
    have HK1 := hid K1
    have HB1 := hid (Below.trans (by go_grown) (hb1.mono (by simp; try omega)) : Below w.heap.size w w1)
    have HK2 := hid (HK1.out.alloc (.cells #[.int .i64 z] 3))
    have HB2 := hid (HB1.out.alloc HB1.out.size (.cells #[.int .i64 z] 3))
    obtain ⟨q0c, q0f⟩ := HK2.out.2 0 _ rfl
    obtain ⟨q1c, q1f⟩ := HK2.out.2 1 _ rfl
    obtain ⟨q2c, q2f⟩ := HK2.out.2 2 _ rfl
    clear hb1 K1
    go_wp2_with fail
    have RB := ((HK2.out.set 0 (.slice none 0 0)).set 1 (.slice none 0 0)).set 2 (.int .i64 0)
    have f0 := (RB.2 0 _ rfl).1
    have f1 := (RB.2 1 _ rfl).1
    have f2 := (RB.2 2 _ rfl).1
    refine bodyPost_ret (v := .tuple #[.agg #[.slice none 0 0, .slice none 0 0, .int .i64 0], .bool false]) (by simp [results, Try.results16, go_sem, f0, f1, f2]) rfl ?_
    refine postO_none HE.out rfl ?_
    iterate 3 refine Below.setCell ?_ (by simp; try omega) _
    exact HB2.out
  · obtain ⟨k, hzk⟩ : ∃ k : Nat, (if treeOk L H q then idxL (namesOf L) s.data.toList else -1) = (k : Int) := ⟨_, (Int.toNat_of_nonneg (by omega)).symm⟩
    have hzt : treeOk L H q = true := by
      by_cases hz : treeOk L H q = true
      · exact hz
      · rw [if_neg hz] at hneg; omega
    rw [hzk] at C
    rw [if_pos hzt] at hzk
    have hkl : k < L.length := by have := (idx_nat hzk).1; simpa [namesOf] using this
    have HE := hid (show lgrX L H q s.data.toList f = changedO L H q (some (updL L k f, H, q)) by unfold lgrX; rw [hzk, if_neg (by omega)]; rfl)
    replace C := hid C
    have HC := hid hC
    have HZ := hid (And.intro hzt hzk)
    clear hC hneg hzk hzt
    generalize hX : lgrX L H q s.data.toList f = X at HE ⊢
    clear hX
    go_enter Try.func16, Try.ntmps16
    go_wp2_with fail
    refine (C.out _ ?_).mono ?_
    case refine_1 => go_grown
    rintro e w1 ⟨rfl, hb1⟩
    have K0 := ((((Blk.new _ _ _).alloc _).alloc _).to hb1)
    have KF := (((Blk.new _ _ _).alloc _).to hb1)
    have K1 := ((Blk.new _ _ _).to hb1)
    simp only [World.size_alloc] at K0 KF K1
    have HB1 := hid (Below.trans (by go_grown) (hb1.mono (by simp; try omega)) : Below w.heap.size w w1)
    have hw1 : w.heap.size + 3 ≤ w1.heap.size := by have := hb1.size; simp at this; omega
    have HK1 := hid K1
    have HW := hid (show Below w.heap.size w (w1.alloc (.cells #[.int .i64 k] 3)) from HB1.out.alloc HB1.out.size _)
    have HKF := hid (KF.alloc (.cells #[.int .i64 k] 3))
    have HKA := hid (Blk.new w1 #[.int .i64 k] 3)
    have HK2 := hid (K1.alloc (.cells #[.int .i64 k] 3))
    have CQ := hid (implChanged2_c 35 (.pointer (some ⟨w.heap.size + 1, 0, none⟩)) (.pointer (some ⟨w1.heap.size, 0, none⟩)) (some (updL L k f, H, q)) (CH.out _ HW.out) (Nat.le_trans hB HW.out.size) (fun args w => enters rfl (by kernel_rfl) rfl args w)
      (fun W lo bc v1 v2 rs _ hp => HC.out _ k _ _ HW.out hkl HZ.out.1 HZ.out.2 (HKF.out.2 0 _ rfl).1 (HKA.out.2 0 _ rfl).1 W lo bc v1 v2 rs hp))
    have K0' := K0.alloc (.cells #[.int .i64 k] 3)
    have d0 := (K0'.2 0 _ rfl).1
    have d1 := (K0'.2 1 _ rfl).1
    have d2 := (K0'.2 2 _ rfl).1
    clear hb1 K0 K0' K1 KF
    go_wp2_with fail
    refine (CQ.out).mono ?_
    rintro e w2 ⟨v', rs, rfl, hs, hr, hb2⟩
    have HX' := hid (show changedO L H q (some (updL L k f, H, q)) = X from HE.out.symm)
    rw [HX'.out] at hs
    obtain ⟨u1, u2, ls, hs', rfl, hL, hH, rfl⟩ := hs
    have KR1 := hid (HK2.out.to hb2)
    have HB2 := hid (HW.out.trans (hb2.mono HW.out.size))
    have HR1 := hid (hr.base (show w.heap.size + 3 ≤ _ by simp; omega))
    have HS1 := hid (show TreeS (treeRows ls.length u1 ls hs'.length u2 hs') (.agg #[u1, u2, .int .i64 (resQ X)]) (resL X) (resH X) (resQ X) from ⟨u1, u2, ls, hs', rfl, hL, hH, rfl⟩)
    obtain ⟨hl, hh⟩ := hr.lsIn
    obtain ⟨A3, c3, rfl, _, _⟩ := hl.1.form
    obtain ⟨A4, c4, rfl, _, _⟩ := hh.1.form
    obtain ⟨q0c, q0f⟩ := KR1.out.2 0 _ rfl
    obtain ⟨q1c, q1f⟩ := KR1.out.2 1 _ rfl
    obtain ⟨q2c, q2f⟩ := KR1.out.2 2 _ rfl
    generalize hq0 : resQ X = q0 at *
    generalize hi0 : (changedO L H q (some (updL L k f, H, q))).isSome = i0 at *
    have HI := hid (show X.isSome = i0 by rw [← HX'.out]; exact hi0)
    have HQ0 := hid hq0
    clear hq0 hi0 hb2 hr hl hh hL hH
    go_wp2_with fail
    have RB := ((KR1.out.set 0 (.slice A3 ls.length c3)).set 1 (.slice A4 hs'.length c4)).set 2 (.int .i64 q0)
    have f0 := (RB.2 0 _ rfl).1
    have f1 := (RB.2 1 _ rfl).1
    have f2 := (RB.2 2 _ rfl).1
    refine bodyPost_ret (v := .tuple #[.agg #[.slice A3 ls.length c3, .slice A4 hs'.length c4, .int .i64 q0], .bool i0]) (by simp [results, Try.results16, go_sem, f0, f1, f2]) rfl ?_
    refine ⟨_, _, by rw [HI.out], (by rw [HQ0.out]; exact HS1.out), ?_, ?_⟩
    · refine Rows.base ?_ (show w.heap.size ≤ w.heap.size + 3 by omega)
      iterate 3 refine Rows.low ?_ (by omega)
      exact HR1.out
    · iterate 3 refine Below.setCell ?_ (by simp; try omega) _
      exact HB2.out

set_option maxHeartbeats 4000000 in
set_option maxRecDepth 100000 in
theorem detachFn2_c {W : World} {lo n c g k bl : Nat} {ls : List LgrV} {post : List Row} {x : LgrV} (s : ByteArray) (hR : Rows W lo ([] ++ two 48 6 n (.slice (some ⟨g, 0, none⟩) n c) lcells lrows ls ++ post)) (hx : ls[k]? = some x) (hn : x.l.hs.length ≤ 64) (hlo : lo ≤ W.heap.size) (hbl : W.cell? ⟨bl, 0, none⟩ = some (.string s)) :
    Calls Try.prog 27 #[.pointer (some ⟨g, k * 6, none⟩), .pointer (some ⟨bl, 0, none⟩)] W (fun e w' => e = .returned (.tuple #[]) ∧ ∃ v', v'.ownBlock = x.hv.ownBlock ∧
      Rows w' lo ([] ++ two 48 6 n (.slice (some ⟨g, 0, none⟩) n c) lcells lrows (ls.set k ⟨woL s.data.toList x.l, v', (x.l.hs.filter (notS s.data.toList)).length, x.fv, x.fn⟩) ++ post) ∧ Below lo W w' ∧ ∀ b cs, b ≠ g → some b ≠ x.hv.ownBlock → Blk W b cs → Blk w' b cs) := by
  have C := hid (detach_c s hR hx hn hlo)
  clear hR hx hn
  go_enter Try.func27, Try.ntmps27
  go_wp2_with fail
  refine (C.out).mono ?_
  rintro e w1 ⟨rfl, hX⟩
  have HX := hid hX
  clear hX
  go_wp2_with fail
  go_end0
  exact ⟨rfl, HX.out⟩

set_option maxHeartbeats 8000000 in
set_option maxRecDepth 100000 in
theorem detClo_c {w : World} {L : List Lgr} {H : List Hnd} {q : Int} {k bf ba bl : Nat} (s : ByteArray) (hk : k < L.length) (hok : treeOk L H q = true) (hbf : w.cell? ⟨bf, 0, none⟩ = some (.func (.func 27) #[] #[.pointer (some ⟨bl, 0, none⟩)])) (hba : w.cell? ⟨ba, 0, none⟩ = some (.int .i64 k)) (hbl : w.cell? ⟨bl, 0, none⟩ = some (.string s))
    (W : World) (lo bc : Nat) (v1 v2 : Value) (rs : List Row) (hp : CloPre w lo bc W v1 v2 rs L H q) :
    Calls Try.prog 35 #[.pointer (some ⟨bc, 0, none⟩), .pointer (some ⟨bf, 0, none⟩), .pointer (some ⟨ba, 0, none⟩)] W (CloPost lo bc W (some (updL L k (woL s.data.toList), H, q))) := by
  obtain ⟨hb, hlo, hbc, hkb, hs, hr, hap, hd⟩ := hp
  obtain ⟨_, _, _, h8, _, _⟩ := tree_names hok
  have HD := hid (updl_fit (k := k) (f := woL s.data.toList) hd (fun l _ hl => wo_lgrFit _ hl))
  obtain ⟨u1, u2, ls, hs', e, h1, h2, h3⟩ := hs
  have e' : v1 = u1 ∧ v2 = u2 := by simpa using e
  obtain ⟨rfl, rfl⟩ := e'
  subst h3
  have hll : ls.length = L.length := by rw [← h1]; simp [lsOf]
  obtain ⟨hl, hh⟩ := hr.lsIn
  obtain ⟨A, c, rfl, hnc, hcm⟩ := hl.1.form
  obtain ⟨A4, c4, rfl, _, _⟩ := hh.1.form
  rw [treeRows_eq] at hr hap
  have hr0 : Rows W lo ([] ++ two 48 6 ls.length (.slice A ls.length c) lcells lrows ls ++ two 59 3 hs'.length (.slice A4 hs'.length c4) hcells hrows hs') := by simpa using hr
  obtain ⟨g, rfl, hglt⟩ := own_some hr0.top (by omega)
  have hgl : lo ≤ g := (hr0.top.lt g rfl).1
  obtain ⟨x, hx⟩ : ∃ x, ls[k]? = some x := ⟨_, List.getElem?_eq_getElem (by omega)⟩
  have hlx : L[k]? = some x.l := by rw [← h1]; unfold lsOf; rw [List.getElem?_map, hx]; rfl
  have hgb : g ≠ bc := fun e => hap ⟨48, 6, ls.length, .slice (some ⟨g, 0, none⟩) ls.length c, ls.flatMap lcells⟩ (by simp [two]) (by rw [← e]; rfl)
  have hxb : x.hv.ownBlock ≠ some bc := hap ⟨9, 1, x.hn, x.hv, x.l.hs.map txt⟩ (by
    rw [List.mem_append]; left
    simp only [two, List.mem_cons, List.mem_flatMap]
    exact .inr ⟨x, List.mem_of_getElem? hx, by simp [lrows]⟩)
  have hbfw : bf < w.heap.size := World.block_lt_of_cell? w _ hbf
  have hbaw : ba < w.heap.size := World.block_lt_of_cell? w _ hba
  have hblw : bl < w.heap.size := World.block_lt_of_cell? w _ hbl
  have hloW : lo ≤ W.heap.size := by have := hkb.1; omega
  have f0 : W.cell? ⟨bf, 0, none⟩ = some (.func (.func 27) #[] #[.pointer (some ⟨bl, 0, none⟩)]) := (hb.cell (p := ⟨bf, 0, none⟩) hbfw).trans hbf
  have a0 : W.cell? ⟨ba, 0, none⟩ = some (.int .i64 k) := (hb.cell (p := ⟨ba, 0, none⟩) hbaw).trans hba
  have l0 : W.cell? ⟨bl, 0, none⟩ = some (.string s) := (hb.cell (p := ⟨bl, 0, none⟩) hblw).trans hbl
  have d0 := (hkb.2 0 _ rfl).1
  have hhs := (tree_nodup hok (List.mem_of_getElem? hlx)).2
  have CG := hid (detachFn2_c (bl := bl) s (hr0.below ((Below.refl _ _).drew)) hx (by omega) hloW l0)
  have s0 : (0 : Int) ≤ (k : Int) := by omega
  have s1 : (k : Int) < (ls.length : Int) := by omega
  have s2 : ((k : Int)).toNat = k := by simp
  unfold maxLen at hcm
  have HKB := hid hkb
  have HX := hid hx
  have HLH := hid (And.intro h1 h2)
  have HN := hid (And.intro hgb hxb)
  have HLO := hid (And.intro hlo hbc)
  clear hl hh hr hr0 hap hkb hd h1 h2 e hb hbf hba hbl hok hll h8 hx hlx hgb hxb l0 hhs hlo hbc
  generalize hN : ls.length = n at *
  have HNn := hid hN
  clear hN
  go_enter Try.func35, Try.ntmps35
  go_wp2_with fail
  refine wp_region_held_drew (S := (fun w' : World => w'.cell? ⟨bf, 0, none⟩ = some (.func (.func 27) #[] #[.pointer (some ⟨bl, 0, none⟩)]) ∧ w'.cell? ⟨bc, 0, none⟩ = some (.slice (some ⟨g, 0, none⟩) n c) ∧ w'.cell? ⟨ba, 0, none⟩ = some (.int .i64 k))) (by kernel_rfl) ⟨f0, d0, a0⟩ (fun hS => ?_)
  refine wpAnyH_take (i := 0) (oi := ?oi101) (v := ?v101) ?hi101 (by kernel_rfl) ?hf101 ?hr101 ?hQ101 (Or.inl ⟨?hw101, ?hy101⟩) (by assumption) ?rest101
  case hi101 => simp only [List.getElem?_toArray, List.getElem?_cons_succ, List.getElem?_cons_zero]; rfl
  case hf101 => kernel_rfl
  case hr101 => kernel_rfl
  case hw101 => rfl
  case hy101 => (intro w hSw; (try dsimp only at hSw); go_simp; all_goals (first | done | with_reducible rfl))
  case hQ101 => exact fun _ _ _ h => h
  simp only [Act.put, List.setIfInBounds_toArray, List.set_cons_zero, List.set_cons_succ]
  refine wpAnyH_take (i := 1) (oi := ?oi102) (v := ?v102) ?hi102 (by kernel_rfl) ?hf102 ?hr102 ?hQ102 (Or.inl ⟨?hw102, ?hy102⟩) (by assumption) ?rest102
  case hi102 => simp only [List.getElem?_toArray, List.getElem?_cons_succ, List.getElem?_cons_zero]; rfl
  case hf102 => kernel_rfl
  case hr102 => kernel_rfl
  case hw102 => rfl
  case hy102 => (intro w hSw; (try dsimp only at hSw); go_simp; all_goals (first | done | with_reducible rfl))
  case hQ102 => exact fun _ _ _ h => h
  simp only [Act.put, List.setIfInBounds_toArray, List.set_cons_zero, List.set_cons_succ]
  refine wpAnyH_take (i := 2) (oi := ?oi103) (v := ?v103) ?hi103 (by kernel_rfl) ?hf103 ?hr103 ?hQ103 (Or.inl ⟨?hw103, ?hy103⟩) (by assumption) ?rest103
  case hi103 => simp only [List.getElem?_toArray, List.getElem?_cons_succ, List.getElem?_cons_zero]; rfl
  case hf103 => kernel_rfl
  case hr103 => kernel_rfl
  case hw103 => rfl
  case hy103 => (intro w hSw; (try dsimp only at hSw); go_simp; all_goals (first | done | with_reducible rfl))
  case hQ103 => exact fun _ _ _ h => h
  simp only [Act.put, List.setIfInBounds_toArray, List.set_cons_zero, List.set_cons_succ]
  refine wpAnyH_take (i := 3) (oi := ?oi104) (v := ?v104) ?hi104 (by kernel_rfl) ?hf104 ?hr104 ?hQ104 (Or.inl ⟨?hw104, ?hy104⟩) (by assumption) ?rest104
  case hi104 => simp only [List.getElem?_toArray, List.getElem?_cons_succ, List.getElem?_cons_zero]; rfl
  case hf104 => kernel_rfl
  case hr104 => kernel_rfl
  case hw104 => rfl
  case hy104 => (intro w hSw; (try dsimp only at hSw); go_simp; all_goals (first | done | with_reducible rfl))
  case hQ104 => exact fun _ _ _ h => h
  simp only [Act.put, List.setIfInBounds_toArray, List.set_cons_zero, List.set_cons_succ]
  refine wpAnyH_take (i := 4) (oi := ?oi105) (v := ?v105) ?hi105 (by kernel_rfl) ?hf105 ?hr105 ?hQ105 (Or.inl ⟨?hw105, ?hy105⟩) (by assumption) ?rest105
  case hi105 => simp only [List.getElem?_toArray, List.getElem?_cons_succ, List.getElem?_cons_zero]; rfl
  case hf105 => kernel_rfl
  case hr105 => kernel_rfl
  case hw105 => rfl
  case hy105 => (intro w hSw; (try dsimp only at hSw); go_simp; all_goals (first | done | with_reducible rfl))
  case hQ105 => exact fun _ _ _ h => h
  simp only [Act.put, List.setIfInBounds_toArray, List.set_cons_zero, List.set_cons_succ]
  refine wpAnyH_take (i := 5) (oi := ?oi106) (v := ?v106) ?hi106 (by kernel_rfl) ?hf106 ?hr106 ?hQ106 (Or.inl ⟨?hw106, ?hy106⟩) (by assumption) ?rest106
  case hi106 => simp only [List.getElem?_toArray, List.getElem?_cons_succ, List.getElem?_cons_zero]; rfl
  case hf106 => kernel_rfl
  case hr106 => kernel_rfl
  case hw106 => rfl
  case hy106 => (intro w hSw; (try dsimp only at hSw); go_simp; all_goals (first | done | with_reducible rfl))
  case hQ106 => exact fun _ _ _ h => h
  simp only [Act.put, List.setIfInBounds_toArray, List.set_cons_zero, List.set_cons_succ]
  refine wpAnyH_take (i := 6) (oi := ?oi107) (v := ?v107) ?hi107 (by kernel_rfl) ?hf107 ?hr107 ?hQ107 (Or.inl ⟨?hw107, ?hy107⟩) (by assumption) ?rest107
  case hi107 => simp only [List.getElem?_toArray, List.getElem?_cons_succ, List.getElem?_cons_zero]; rfl
  case hf107 => kernel_rfl
  case hr107 => kernel_rfl
  case hw107 => rfl
  case hy107 => (intro w hSw; (try dsimp only at hSw); go_simp; all_goals (first | done | with_reducible rfl))
  case hQ107 => exact fun _ _ _ h => h
  simp only [Act.put, List.setIfInBounds_toArray, List.set_cons_zero, List.set_cons_succ]
  refine wpAnyH_ready (rs := [7]) (by kernel_rfl) (by simp) ?_
  refine AllReadyH.cons (o := ?oi108) ?hi108 (fun K hK => ?step108) AllReadyH.nil
  case hi108 => simp only [List.getElem?_toArray, List.getElem?_cons_succ, List.getElem?_cons_zero]; rfl
  rw [if_pos (by rfl)]
  go_simp
  go_at_call 27
  refine (CG.out).mono ?_
  rintro e w9 ⟨rfl, v', hv', hR3, hB3, hK3⟩
  have HR3 := hid hR3
  have HK3 := hid (hK3 bc _ (fun e => HN.out.1 e.symm) (fun e => HN.out.2 e.symm) (HKB.out.dr 1))
  have HB3 := hid (show Below lo W w9 from ((Below.refl lo W).drew).trans hB3)
  refine hK.out _ _ ⟨(HB3.out.cell (p := ⟨bf, 0, none⟩) (show bf < lo by have := HLO.out.1; omega)).trans f0, (HK3.out.2 0 _ rfl).1, (HB3.out.cell (p := ⟨ba, 0, none⟩) (show ba < lo by have := HLO.out.1; omega)).trans a0⟩ (fun hS => ?_)
  refine wpAnyH_done (by kernel_rfl) ?_ _
  clear hv' hR3 hB3 hK3 hS f0 a0 d0
  go_wp2_with fail
  go_ret
  refine ⟨HB3.out, rfl, fun x' hx' => ?_⟩
  obtain rfl := Option.some.inj hx'
  refine ⟨_, _, _, _, _, _, treeRows (ls.set k _).length _ (ls.set k ⟨woL s.data.toList x.l, v', (x.l.hs.filter (notS s.data.toList)).length, x.fv, x.fn⟩) hs'.length _ hs', HK3.out, ⟨_, _, ls.set k ⟨woL s.data.toList x.l, v', (x.l.hs.filter (notS s.data.toList)).length, x.fv, x.fn⟩, hs', rfl, ?_, HLH.out.2, rfl⟩, ?_, HD.out⟩
  · rw [← HLH.out.1]
    have e : (lsOf ls)[k]? = some x.l := by unfold lsOf; rw [List.getElem?_map, HX.out]; rfl
    unfold updL
    rw [e]
    unfold lsOf
    rw [List.map_set]
  · rw [treeRows_eq, List.length_set, HNn.out]
    simpa using HR3.out

set_option maxHeartbeats 4000000 in
set_option maxRecDepth 100000 in
theorem implDetachHandler_c {w : World} {B : Nat} {v : Value} {L : List Lgr} {H : List Hnd} {q : Int} (s t : ByteArray) (h : TreeIn w B v L H q) (hB : B ≤ w.heap.size) :
    Calls Try.prog 9 #[v, .string s, .string t] w (TreePostO w (detX L H q s.data.toList t.data.toList)) := by
  have HT := hid h
  obtain ⟨A1, n1, k1, A2, n2, k2, rfl⟩ := h.form
  have HW := hid (show Below w.heap.size w (((w.alloc (.cells #[.slice A1 n1 k1, .slice A2 n2 k2, .int .i64 q] 26)).alloc (.cells #[.string t] 9)).alloc (.cells #[.slice none 0 0, .slice none 0 0, .int .i64 0] 26)) from (((Below.refl _ _).alloc (Nat.le_refl _) _).alloc (by simp) _).alloc (by simp; omega) _)
  have KT := hid (((Blk.new w #[.slice A1 n1 k1, .slice A2 n2 k2, .int .i64 q] 26).alloc (.cells #[.string t] 9)).alloc (.cells #[.slice none 0 0, .slice none 0 0, .int .i64 0] 26))
  have KQ := hid ((Blk.new (w.alloc (.cells #[.slice A1 n1 k1, .slice A2 n2 k2, .int .i64 q] 26)) #[.string t] 9).alloc (.cells #[.slice none 0 0, .slice none 0 0, .int .i64 0] 26))
  have KR := hid (Blk.new ((w.alloc (.cells #[.slice A1 n1 k1, .slice A2 n2 k2, .int .i64 q] 26)).alloc (.cells #[.string t] 9)) #[.slice none 0 0, .slice none 0 0, .int .i64 0] 26)
  simp only [World.size_alloc] at KQ KR
  have hsz3 : (((w.alloc (.cells #[.slice A1 n1 k1, .slice A2 n2 k2, .int .i64 q] 26)).alloc (.cells #[.string t] 9)).alloc (.cells #[.slice none 0 0, .slice none 0 0, .int .i64 0] 26)).heap.size = w.heap.size + 3 := by simp
  have CU := hid (implUsersOf_c t (h.below HW.out hB) (Nat.le_trans hB HW.out.size))
  have hmf : ∀ (fn : Fn) (first cap : Array Value) (w : World), (Instr.makeFunc fn first cap).run Try.prog w = .ok (.func fn first cap) w := fun _ _ _ _ => rfl
  have hfitU : ∀ x ∈ usersT L H q t.data.toList, x.length ≤ maxTxt := fun x hx => by
    cases hz : treeOk L H q with
    | false => unfold usersT at hx; rw [hz] at hx; cases hx
    | true =>
      obtain ⟨l, hl, _, rfl⟩ := (usersT_iff hz x _).1 hx
      exact ((fit_ok hz).1.2 l hl).1
  have HFU := hid hfitU
  clear h hfitU
  have HE := hid (show detX L H q s.data.toList t.data.toList = if s.data.toList ∈ usersT L H q t.data.toList then lgrX L H q s.data.toList (woL t.data.toList) else none from rfl)
  generalize detX L H q s.data.toList t.data.toList = X at HE ⊢
  generalize usersT L H q t.data.toList = U at *
  have d0 := (KT.out.2 0 _ rfl).1
  have d1 := (KT.out.2 1 _ rfl).1
  have d2 := (KT.out.2 2 _ rfl).1
  have e0 := (KQ.out.2 0 _ rfl).1
  go_enter Try.func9, Try.ntmps9
  go_wp2_with fail
  refine (CU.out).mono ?_
  rintro e w1 ⟨vU, rfl, hoU, hb1⟩
  obtain ⟨A3, c3, rfl, _, _⟩ := (Sl.of_own hoU).form
  have HW1 := hid (HW.out.trans (hb1.mono HW.out.size))
  have KT1 := hid (KT.out.to hb1)
  have KQ1 := hid (KQ.out.to hb1)
  have KR1 := hid (KR.out.to hb1)
  have hw1 : w.heap.size + 3 ≤ w1.heap.size := by have := hb1.size; rw [hsz3] at this; exact this
  have CK := hid (containsTxt_c _ _ w1.heap.size U s w1 ⟨Sl.of_own hoU, HFU.out⟩)
  clear hoU hb1 d0 d1 d2 e0 hsz3
  by_cases hin : s.data.toList ∈ U
  · rw [decide_eq_true hin] at CK
    have HX := hid (show X = lgrX L H q s.data.toList (woL t.data.toList) by rw [HE.out, if_pos hin])
    have CQ := hid (implChangedLoggerG_c s 27 (.pointer (some ⟨w.heap.size + 1, 0, none⟩)) (f := woL t.data.toList) (HT.out.below HW1.out hB) (Nat.le_trans hB HW1.out.size)
      (fun w2 k bf ba hW2 hk hok _ hbf hba W lo bc v1 v2 rs hp => detClo_c (bl := w.heap.size + 1) t hk hok hbf hba ((KQ1.out.to hW2).2 0 _ rfl).1 W lo bc v1 v2 rs hp))
    rw [← HX.out] at CQ
    clear hin
    have d0 := (KT1.out.2 0 _ rfl).1
    have d1 := (KT1.out.2 1 _ rfl).1
    have d2 := (KT1.out.2 2 _ rfl).1
    go_wp2_with fail
    refine (CK.out).mono ?_
    rintro e w2 ⟨rfl, hw2⟩
    subst hw2
    go_wp2_with fail
    refine (CQ.out).mono ?_
    rintro e w3 ⟨v', rs, rfl, hs, hr, hb3⟩
    obtain ⟨u1, u2, ls, hs', rfl, hL, hH, rfl⟩ := hs
    have KR3 := hid (KR1.out.to hb3)
    have HB3 := hid (HW1.out.trans (hb3.mono HW1.out.size))
    have HR3 := hid hr
    have HS3 := hid (show TreeS (treeRows ls.length u1 ls hs'.length u2 hs') (.agg #[u1, u2, .int .i64 (resQ X)]) (resL X) (resH X) (resQ X) from ⟨u1, u2, ls, hs', rfl, hL, hH, rfl⟩)
    obtain ⟨hl, hh⟩ := hr.lsIn
    obtain ⟨A5, c5, rfl, _, _⟩ := hl.1.form
    obtain ⟨A4, c4, rfl, _, _⟩ := hh.1.form
    generalize hq0 : resQ X = q0 at *
    generalize hi0 : X.isSome = i0 at *
    have HI := hid hi0
    have HQ0 := hid hq0
    clear hq0 hi0 hb3 hr hl hh hL hH d0 d1 d2
    obtain ⟨q0c, q0f⟩ := KR3.out.2 0 _ rfl
    obtain ⟨q1c, q1f⟩ := KR3.out.2 1 _ rfl
    obtain ⟨q2c, q2f⟩ := KR3.out.2 2 _ rfl
    go_wp2_with fail
    have RB := ((KR3.out.set 0 (.slice A5 ls.length c5)).set 1 (.slice A4 hs'.length c4)).set 2 (.int .i64 q0)
    have f0 := (RB.2 0 _ rfl).1
    have f1 := (RB.2 1 _ rfl).1
    have f2 := (RB.2 2 _ rfl).1
    refine bodyPost_ret (v := .tuple #[.agg #[.slice A5 ls.length c5, .slice A4 hs'.length c4, .int .i64 q0], .bool i0]) (by simp [results, Try.results9, go_sem, f0, f1, f2]) rfl ?_
    refine ⟨_, _, by rw [HI.out], (by rw [HQ0.out]; exact HS3.out), ?_, ?_⟩
    · refine Rows.base ?_ (show w.heap.size ≤ w1.heap.size by omega)
      iterate 3 refine Rows.low ?_ (by omega)
      exact HR3.out
    · iterate 3 refine Below.setCell ?_ (by simp; try omega) _
      exact HB3.out
  · rw [decide_eq_false hin] at CK
    have HX := hid (show X = none by rw [HE.out, if_neg hin])
    clear hin
    go_wp2_with fail
    refine (CK.out).mono ?_
    rintro e w2 ⟨rfl, hw2⟩
    subst hw2
    obtain ⟨q0c, q0f⟩ := KR1.out.2 0 _ rfl
    obtain ⟨q1c, q1f⟩ := KR1.out.2 1 _ rfl
    obtain ⟨q2c, q2f⟩ := KR1.out.2 2 _ rfl
    go_wp2_with fail
    have RB := ((KR1.out.set 0 (.slice none 0 0)).set 1 (.slice none 0 0)).set 2 (.int .i64 0)
    have f0 := (RB.2 0 _ rfl).1
    have f1 := (RB.2 1 _ rfl).1
    have f2 := (RB.2 2 _ rfl).1
    refine bodyPost_ret (v := .tuple #[.agg #[.slice none 0 0, .slice none 0 0, .int .i64 0], .bool false]) (by simp [results, Try.results9, go_sem, f0, f1, f2]) rfl ?_
    refine postO_none HX.out rfl ?_
    iterate 3 refine Below.setCell ?_ (by simp; try omega) _
    exact HW1.out

end Go.Proofs.Ytjejildgbmkbbaa

/-
  TREES changed: changedLogger with any closure of one capture.
-/
namespace Go.Proofs.Ytjejildgbmkbbaa
open Go.RowKit Nm
set_option linter.unusedSimpArgs false
set_option linter.unusedVariables false

set_option maxHeartbeats 4000000 in
set_option maxRecDepth 100000 in
theorem implChangedLoggerH_c {w : World} {B : Nat} {v : Value} {L : List Lgr} {H : List Hnd} {q : Int} (s : ByteArray) (G : Nat) (cg : Value) {f : Lgr → Lgr} (h : TreeIn w B v L H q) (hB : B ≤ w.heap.size)
    (hC : ∀ (w1 : World) (k bf ba : Nat), Below w.heap.size w w1 → k < L.length → treeOk L H q = true → idxL (namesOf L) s.data.toList = (k : Int) → w1.cell? ⟨bf, 0, none⟩ = some (.func (.func G) #[] #[cg]) → w1.cell? ⟨ba, 0, none⟩ = some (.int .i64 k) → ∀ (W : World) (lo bc : Nat) (v1 v2 : Value) (rs : List Row), CloPre w1 lo bc W v1 v2 rs L H q →
      Calls Try.prog 35 #[.pointer (some ⟨bc, 0, none⟩), .pointer (some ⟨bf, 0, none⟩), .pointer (some ⟨ba, 0, none⟩)] W (CloPost lo bc W (some (updL L k f, H, q)))) :
    Calls Try.prog 16 #[v, .string s, .func (.func G) #[] #[cg]] w (TreePostO w (lgrX L H q s.data.toList f)) := by
  have C := fun (W : World) (hW : Below w.heap.size w W) => implLoggerAtX_c s (h.below hW hB) (Nat.le_trans hB hW.size)
  have CH := hid (fun (W : World) (hW : Below w.heap.size w W) => h.below hW hB)
  obtain ⟨A1, n1, k1, A2, n2, k2, rfl⟩ := h.form
  have hmf : ∀ (fn : Fn) (first cap : Array Value) (w : World), (Instr.makeFunc fn first cap).run Try.prog w = .ok (.func fn first cap) w := fun _ _ _ _ => rfl
  clear h
  by_cases hneg : (if treeOk L H q then idxL (namesOf L) s.data.toList else -1) < 0
  · have HE := hid (show lgrX L H q s.data.toList f = none by
      unfold lgrX
      by_cases hz : treeOk L H q = true
      · rw [if_pos hz] at hneg; rw [if_pos hneg]
      · unfold changedO; rw [if_neg hz]; split <;> rfl)
    generalize (if treeOk L H q then idxL (namesOf L) s.data.toList else -1) = z at C hneg
    replace C := hid C
    clear hC CH
    go_enter Try.func16, Try.ntmps16
    go_wp2_with fail
    refine (C.out _ ?_).mono ?_
    case refine_1 => go_grown
    rintro e w1 ⟨rfl, hb1⟩
    have K1 := ((Blk.new _ _ _).to hb1)
    simp only [World.size_alloc] at K1
    have HK1 := hid K1
    have HB1 := hid (Below.trans (by go_grown) (hb1.mono (by simp; try omega)) : Below w.heap.size w w1)
    have HK2 := hid (HK1.out.alloc (.cells #[.int .i64 z] 3))
    have HB2 := hid (HB1.out.alloc HB1.out.size (.cells #[.int .i64 z] 3))
    obtain ⟨q0c, q0f⟩ := HK2.out.2 0 _ rfl
    obtain ⟨q1c, q1f⟩ := HK2.out.2 1 _ rfl
    obtain ⟨q2c, q2f⟩ := HK2.out.2 2 _ rfl
    clear hb1 K1
    go_wp2_with fail
    have RB := ((HK2.out.set 0 (.slice none 0 0)).set 1 (.slice none 0 0)).set 2 (.int .i64 0)
    have f0 := (RB.2 0 _ rfl).1
    have f1 := (RB.2 1 _ rfl).1
    have f2 := (RB.2 2 _ rfl).1
    refine bodyPost_ret (v := .tuple #[.agg #[.slice none 0 0, .slice none 0 0, .int .i64 0], .bool false]) (by simp [results, Try.results16, go_sem, f0, f1, f2]) rfl ?_
    refine postO_none HE.out rfl ?_
    iterate 3 refine Below.setCell ?_ (by simp; try omega) _
    exact HB2.out
  · obtain ⟨k, hzk⟩ : ∃ k : Nat, (if treeOk L H q then idxL (namesOf L) s.data.toList else -1) = (k : Int) := ⟨_, (Int.toNat_of_nonneg (by omega)).symm⟩
    have hzt : treeOk L H q = true := by
      by_cases hz : treeOk L H q = true
      · exact hz
      · rw [if_neg hz] at hneg; omega
    rw [hzk] at C
    rw [if_pos hzt] at hzk
    have hkl : k < L.length := by have := (idx_nat hzk).1; simpa [namesOf] using this
    have HE := hid (show lgrX L H q s.data.toList f = changedO L H q (some (updL L k f, H, q)) by unfold lgrX; rw [hzk, if_neg (by omega)]; rfl)
    replace C := hid C
    have HC := hid hC
    have HZ := hid (And.intro hzt hzk)
    clear hC hneg hzk hzt
    generalize hX : lgrX L H q s.data.toList f = X at HE ⊢
    clear hX
    go_enter Try.func16, Try.ntmps16
    go_wp2_with fail
    refine (C.out _ ?_).mono ?_
    case refine_1 => go_grown
    rintro e w1 ⟨rfl, hb1⟩
    have K0 := ((((Blk.new _ _ _).alloc _).alloc _).to hb1)
    have KF := (((Blk.new _ _ _).alloc _).to hb1)
    have K1 := ((Blk.new _ _ _).to hb1)
    simp only [World.size_alloc] at K0 KF K1
    have HB1 := hid (Below.trans (by go_grown) (hb1.mono (by simp; try omega)) : Below w.heap.size w w1)
    have hw1 : w.heap.size + 3 ≤ w1.heap.size := by have := hb1.size; simp at this; omega
    have HK1 := hid K1
    have HW := hid (show Below w.heap.size w (w1.alloc (.cells #[.int .i64 k] 3)) from HB1.out.alloc HB1.out.size _)
    have HKF := hid (KF.alloc (.cells #[.int .i64 k] 3))
    have HKA := hid (Blk.new w1 #[.int .i64 k] 3)
    have HK2 := hid (K1.alloc (.cells #[.int .i64 k] 3))
    have CQ := hid (implChanged2_c 35 (.pointer (some ⟨w.heap.size + 1, 0, none⟩)) (.pointer (some ⟨w1.heap.size, 0, none⟩)) (some (updL L k f, H, q)) (CH.out _ HW.out) (Nat.le_trans hB HW.out.size) (fun args w => enters rfl (by kernel_rfl) rfl args w)
      (fun W lo bc v1 v2 rs _ hp => HC.out _ k _ _ HW.out hkl HZ.out.1 HZ.out.2 (HKF.out.2 0 _ rfl).1 (HKA.out.2 0 _ rfl).1 W lo bc v1 v2 rs hp))
    have K0' := K0.alloc (.cells #[.int .i64 k] 3)
    have d0 := (K0'.2 0 _ rfl).1
    have d1 := (K0'.2 1 _ rfl).1
    have d2 := (K0'.2 2 _ rfl).1
    clear hb1 K0 K0' K1 KF
    go_wp2_with fail
    refine (CQ.out).mono ?_
    rintro e w2 ⟨v', rs, rfl, hs, hr, hb2⟩
    have HX' := hid (show changedO L H q (some (updL L k f, H, q)) = X from HE.out.symm)
    rw [HX'.out] at hs
    obtain ⟨u1, u2, ls, hs', rfl, hL, hH, rfl⟩ := hs
    have KR1 := hid (HK2.out.to hb2)
    have HB2 := hid (HW.out.trans (hb2.mono HW.out.size))
    have HR1 := hid (hr.base (show w.heap.size + 3 ≤ _ by simp; omega))
    have HS1 := hid (show TreeS (treeRows ls.length u1 ls hs'.length u2 hs') (.agg #[u1, u2, .int .i64 (resQ X)]) (resL X) (resH X) (resQ X) from ⟨u1, u2, ls, hs', rfl, hL, hH, rfl⟩)
    obtain ⟨hl, hh⟩ := hr.lsIn
    obtain ⟨A3, c3, rfl, _, _⟩ := hl.1.form
    obtain ⟨A4, c4, rfl, _, _⟩ := hh.1.form
    obtain ⟨q0c, q0f⟩ := KR1.out.2 0 _ rfl
    obtain ⟨q1c, q1f⟩ := KR1.out.2 1 _ rfl
    obtain ⟨q2c, q2f⟩ := KR1.out.2 2 _ rfl
    generalize hq0 : resQ X = q0 at *
    generalize hi0 : (changedO L H q (some (updL L k f, H, q))).isSome = i0 at *
    have HI := hid (show X.isSome = i0 by rw [← HX'.out]; exact hi0)
    have HQ0 := hid hq0
    clear hq0 hi0 hb2 hr hl hh hL hH
    go_wp2_with fail
    have RB := ((KR1.out.set 0 (.slice A3 ls.length c3)).set 1 (.slice A4 hs'.length c4)).set 2 (.int .i64 q0)
    have f0 := (RB.2 0 _ rfl).1
    have f1 := (RB.2 1 _ rfl).1
    have f2 := (RB.2 2 _ rfl).1
    refine bodyPost_ret (v := .tuple #[.agg #[.slice A3 ls.length c3, .slice A4 hs'.length c4, .int .i64 q0], .bool i0]) (by simp [results, Try.results16, go_sem, f0, f1, f2]) rfl ?_
    refine ⟨_, _, by rw [HI.out], (by rw [HQ0.out]; exact HS1.out), ?_, ?_⟩
    · refine Rows.base ?_ (show w.heap.size ≤ w.heap.size + 3 by omega)
      iterate 3 refine Rows.low ?_ (by omega)
      exact HR1.out
    · iterate 3 refine Below.setCell ?_ (by simp; try omega) _
      exact HB2.out

end Go.Proofs.Ytjejildgbmkbbaa

/-
  Rows: an element's inner row replaced, and one of its cells set.
-/
namespace Go.Proofs.Ytjejildgbmkbbaa
open Go.RowKit Nm
set_option linter.unusedSimpArgs false
set_option linter.unusedVariables false

theorem Rows.app3 {w w' : World} {lo : Nat} {r r' : Row} {pre post : List Row} (h : Rows w lo (pre ++ r :: post)) (hg : w.grownBy w' r.v.ownBlock) (ho : r'.own w' lo) (hloc : ∀ z, r'.v.ownBlock = some z → r.v.ownBlock = some z ∨ w.heap.size ≤ z) :
    Rows w' lo (pre ++ r' :: post) := by
  have hp := List.pairwise_append.1 h.2
  have hp2 := List.pairwise_cons.1 hp.2.1
  have ap : ∀ x : Row, x.apart r → x.own w lo → x.apart r' := fun x hx hxo => by
    constructor
    · cases hq : x.v.ownBlock with
      | none => exact .inl rfl
      | some g =>
        right; intro e2
        rcases hloc g e2.symm with e | e
        · rcases hx.1 with h0 | h0
          · rw [hq] at h0; cases h0
          · exact h0 (hq.trans e.symm)
        · have := (hxo.lt g hq).2; omega
    · cases hq : r'.v.ownBlock with
      | none => exact .inl rfl
      | some g =>
        right; intro e2
        rcases hloc g hq with e | e
        · rcases hx.2 with h0 | h0
          · rw [e] at h0; cases h0
          · exact h0 (e.trans e2)
        · have := (hxo.lt g e2.symm).2; omega
  have own1 : ∀ x ∈ pre, x.own w lo := fun x hx => h.1 x (by simp [hx])
  have own2 : ∀ x ∈ post, x.own w lo := fun x hx => h.1 x (by simp [hx])
  refine ⟨fun x hx => ?_, ?_⟩
  · rcases List.mem_append.1 hx with hx | hx
    · exact (own1 x hx).kept hg (hp.2.2 x hx r (by simp)).1
    · rcases List.mem_cons.1 hx with rfl | hx
      · exact ho
      · exact (own2 x hx).kept hg (hp2.1 x hx).2
  · refine List.pairwise_append.2 ⟨hp.1, List.pairwise_cons.2 ⟨fun b hb => ?_, hp2.2⟩, fun a ha b hb => ?_⟩
    · exact (ap b (hp2.1 b hb).symm (own2 b hb)).symm
    · rcases List.mem_cons.1 hb with rfl | hb
      · exact ap a (hp.2.2 a ha r (by simp)) (own1 a ha)
      · exact hp.2.2 a ha b (by simp [hb])
/-- an element's inner row is another one, and one of its cells is set -/
theorem Rows.rowcell3 {α : Type} {w w' : World} {lo d e n g c i j q : Nat} {T : TypeId} {fc : α → List Value} {fr : α → List Row} {l : List α} {pre post : List Row} {x y : α} {r r' : Row} {u : Value} (hfc : ∀ x, (fc x).length = d) (hfr : ∀ x, (fr x).length = e)
    (h : Rows w lo (pre ++ two T d n (.slice (some ⟨g, 0, none⟩) n c) fc fr l ++ post)) (hx : l[i]? = some x) (hj : j < e) (hr : (fr x)[j]? = some r) (hg : w.grownBy w' r.v.ownBlock) (ho : r'.own w' lo) (hloc : ∀ z, r'.v.ownBlock = some z → r.v.ownBlock = some z ∨ w.heap.size ≤ z)
    (hq : q < d) (hc : fc y = (fc x).set q u) (hry : fr y = (fr x).set j r') : Rows (w'.setCell ⟨g, i * d + q, none⟩ u) lo (pre ++ two T d n (.slice (some ⟨g, 0, none⟩) n c) fc fr (l.set i y) ++ post) := by
  have hin : i * e + j < (l.flatMap fr).length := by
    have := flat_get fr e hfr l i j x hx hj
    rw [hr] at this
    exact (List.getElem?_eq_some_iff.1 this).1
  have hJ : (pre ++ two T d n (.slice (some ⟨g, 0, none⟩) n c) fc fr l ++ post)[pre.length + (1 + (i * e + j))]? = some r := by
    rw [two, List.append_assoc, List.getElem?_append_right (by omega), show pre.length + (1 + (i * e + j)) - pre.length = (i * e + j) + 1 by omega, List.cons_append, List.getElem?_cons_succ, List.getElem?_append_left hin, flat_get fr e hfr l i j x hx hj, hr]
  have hl := (List.getElem?_eq_some_iff.1 hJ).1
  generalize hrs : pre ++ two T d n (.slice (some ⟨g, 0, none⟩) n c) fc fr l ++ post = rs at *
  have e0 : rs = rs.take (pre.length + (1 + (i * e + j))) ++ r :: rs.drop (pre.length + (1 + (i * e + j)) + 1) := by
    have := (List.getElem?_eq_some_iff.1 hJ).2
    rw [← this, ← List.drop_eq_getElem_cons hl, List.take_append_drop]
  rw [e0] at h
  have h1 := h.app3 hg ho hloc
  have e9 : rs.take (pre.length + (1 + (i * e + j))) ++ r' :: rs.drop (pre.length + (1 + (i * e + j)) + 1) = rs.set (pre.length + (1 + (i * e + j))) r' := by rw [List.set_eq_take_append_cons_drop, if_pos hl]
  rw [e9] at h1
  have e1 : rs.set (pre.length + (1 + (i * e + j))) r' = pre ++ (⟨T, d, n, .slice (some ⟨g, 0, none⟩) n c, l.flatMap fc⟩ :: (l.set i y).flatMap fr) ++ post := by
    rw [← hrs, two, List.append_assoc, List.set_append_right _ _ (by omega), show pre.length + (1 + (i * e + j)) - pre.length = (i * e + j) + 1 by omega, List.cons_append, List.set_cons_succ, List.set_append_left _ _ hin, flat_set fr e hfr l i j x y _ hx hj hry]
    simp
  rw [e1] at h1
  have hs := (show w'.ownsRow lo T d (.slice (some ⟨g, 0, none⟩) n c) n (l.flatMap fc) from h1.1 ⟨T, d, n, .slice (some ⟨g, 0, none⟩) n c, l.flatMap fc⟩ (by simp)).stored (i * d + q) u
  have h2 := h1.put (j := pre.length) (r := ⟨T, d, n, .slice (some ⟨g, 0, none⟩) n c, l.flatMap fc⟩) (by rw [List.append_assoc, List.getElem?_append_right (Nat.le_refl _), Nat.sub_self]; simp) hs.2 hs.1
  rw [flat_set fc d hfc l i q x y u hx hq hc] at h2
  have e2 : (pre ++ (⟨T, d, n, .slice (some ⟨g, 0, none⟩) n c, l.flatMap fc⟩ :: (l.set i y).flatMap fr) ++ post).set pre.length ⟨T, d, n, .slice (some ⟨g, 0, none⟩) n c, (l.set i y).flatMap fc⟩ = pre ++ two T d n (.slice (some ⟨g, 0, none⟩) n c) fc fr (l.set i y) ++ post := by
    rw [List.append_assoc, List.set_append_right _ _ (Nat.le_refl _), Nat.sub_self, two]
    simp
  rw [e2] at h2
  exact h2

end Go.Proofs.Ytjejildgbmkbbaa

/-
  A HANDLER ATTACHED TO A two 48 6 n (.slice (some ⟨g, 0, none⟩) n c) lcells lrowsGER: AttachHandler of the program and of the model. By gen_at1.py.
-/
namespace Go.Proofs.Ytjejildgbmkbbaa
open Go.RowKit Nm
set_option linter.unusedSimpArgs false
set_option linter.unusedVariables false

theorem att_lgrFit {l : Lgr} {t : Name} (h : lgrFit l) (hn : l.hs.length ≤ 64) (ht : t.length ≤ maxTxt) : lgrFit (addHL t l) := by
  unfold addHL
  split
  · exact h
  · refine ⟨h.1, ⟨by show (l.hs ++ [t]).length ≤ _; rw [List.length_append]; unfold maxTxt; simp; omega, fun x hx => ?_⟩, h.2.2⟩
    rcases List.mem_append.1 hx with hx | hx
    · exact h.2.1.2 x hx
    · rw [List.mem_singleton] at hx; subst hx; exact ht
theorem addHL_in {t : Name} {l : Lgr} (h : t ∈ l.hs) : addHL t l = l := by unfold addHL; rw [if_pos h]
theorem addHL_out {t : Name} {l : Lgr} (h : t ∉ l.hs) : addHL t l = { l with hs := l.hs ++ [t] } := by unfold addHL; rw [if_neg h]
theorem att_fit (L : List Lgr) (H : List Hnd) (q : Int) (s : Name) (f : Lgr → Lgr) : dataFit (resL (lgrX L H q s f)) (resH (lgrX L H q s f)) := by
  unfold lgrX
  split
  · exact none_fit
  · exact changed_fit _ _ _ _
theorem att_bad {L : List Lgr} {H : List Hnd} {q : Int} (s : Name) (f : Lgr → Lgr) (h : treeOk L H q = false) : lgrX L H q s f = none := by
  unfold lgrX changedO
  rw [h]; split <;> rfl
theorem att_noname {L : List Lgr} {H : List Hnd} {q : Int} {s : Name} (f : Lgr → Lgr) (hn : idxL (namesOf L) s < 0) : lgrX L H q s f = none := by unfold lgrX; rw [if_pos hn]
theorem att_at {L : List Lgr} {H : List Hnd} {q : Int} {s t : Name} {k : Nat} {l : Lgr} (h : treeOk L H q = true) (hk : idxL (namesOf L) s = (k : Int)) (hl : L[k]? = some l) : lgrX L H q s (addHL t) = if t ∈ hnm H then some (updL L k (addHL t), H, q) else none := by
  unfold lgrX changedO
  have e : ¬ ((k : Int) < 0) := by omega
  simp only [hk, h, if_neg e, Int.toNat_natCast, if_true, Option.bind_some]
  unfold ifOk
  rw [addH_ok t h hl]
  by_cases ht : t ∈ hnm H
  · rw [decide_eq_true ht, if_pos ht]; rfl
  · rw [decide_eq_false ht, if_neg ht]; rfl
theorem two_apartA {w : World} {lo n c g k : Nat} {ls : List LgrV} {post : List Row} {x : LgrV} (h : Rows w lo ([] ++ two 48 6 n (.slice (some ⟨g, 0, none⟩) n c) lcells lrows ls ++ post)) (hx : ls[k]? = some x) : some g ≠ x.hv.ownBlock := by
  have h2 := h.2
  rw [List.nil_append, two, List.cons_append] at h2
  have := (List.pairwise_cons.1 h2).1 ⟨9, 1, x.hn, x.hv, x.l.hs.map txt⟩ (List.mem_append.2 (.inl (List.mem_flatMap.2 ⟨x, List.mem_of_getElem? hx, by simp [lrows]⟩)))
  rcases this.1 with h0 | h0
  · cases h0
  · exact h0
theorem nm_setA {α : Type} {X : List α} {k : Nat} {l : α} (h : X[k]? = some l) : X.set k l = X := by
  refine List.ext_getElem? fun i => ?_
  by_cases hi : i = k
  · subst hi; rw [List.getElem?_set_self (List.getElem?_eq_some_iff.1 h).1, h]
  · rw [List.getElem?_set_ne (by omega)]

set_option maxHeartbeats 8000000 in
set_option maxRecDepth 100000 in
theorem attachFn_c {W : World} {lo n c g k bl : Nat} {ls : List LgrV} {post : List Row} {x : LgrV} (s : ByteArray) (hR : Rows W lo ([] ++ two 48 6 n (.slice (some ⟨g, 0, none⟩) n c) lcells lrows ls ++ post)) (hx : ls[k]? = some x) (hn : x.l.hs.length ≤ 64) (hft : ∀ y ∈ x.l.hs, y.length ≤ maxTxt) (hlo : lo ≤ W.heap.size) (hbl : W.cell? ⟨bl, 0, none⟩ = some (.string s)) (hblo : bl < lo) :
    Calls Try.prog 17 #[.pointer (some ⟨g, k * 6, none⟩), .pointer (some ⟨bl, 0, none⟩)] W (fun e w' => e = .returned (.tuple #[]) ∧ ∃ y : LgrV, y.l = addHL s.data.toList x.l ∧
      Rows w' lo ([] ++ two 48 6 n (.slice (some ⟨g, 0, none⟩) n c) lcells lrows (ls.set k y) ++ post) ∧ Below lo W w' ∧ ∀ b cs, b < W.heap.size → b ≠ g → some b ≠ x.hv.ownBlock → Blk W b cs → Blk w' b cs) := by
  have hgx := two_apartA hR hx
  have own6 : W.ownsRow lo 9 1 x.hv x.hn (x.l.hs.map txt) := hR.sub_ hx (r := ⟨9, 1, x.hn, x.hv, x.l.hs.map txt⟩) (by simp [lrows])
  have o2 := hR.cell_at (j := 2) lcells_len hx rfl
  have hgl : lo ≤ g := (hR.top.lt g rfl).1
  have hgw : g < W.heap.size := (hR.top.lt g rfl).2
  have hxn : x.l.hs.length = x.hn := by have := own6.1; simpa using this
  have CK := containsTxt_c x.hv x.hn W.heap.size x.l.hs s W.drew ⟨Sl.of_own own6.drew, hft⟩
  obtain ⟨A6, c6, e6, _, _⟩ := (Sl.of_own own6).form
  have m0 : W.cell? ⟨g, k * 6 + 2, none⟩ = some (.slice A6 x.hn c6) := by rw [← e6]; exact o2.1
  rw [e6] at CK
  have HX := hid hx
  have HR := hid hR
  have HE6 := hid e6
  by_cases hin : s.data.toList ∈ x.l.hs
  · rw [decide_eq_true hin] at CK
    have HA := hid (addHL_in hin)
    replace CK := hid CK
    clear hin hx hR own6 o2 e6 hgx hft
    go_enter Try.func17, Try.ntmps17
    go_wp2_with fail
    refine wp_region_held_drew (S := (fun w' : World => w'.cell? ⟨bl, 0, none⟩ = some (.string s) ∧ w'.cell? ⟨g, k * 6 + 2, none⟩ = some (.slice A6 x.hn c6))) (by kernel_rfl) ⟨hbl, m0⟩ (fun hS => ?_)
    refine wpAnyH_take (i := 0) (oi := ?oi123) (v := ?v123) ?hi123 (by kernel_rfl) ?hf123 ?hr123 ?hQ123 (Or.inl ⟨?hw123, ?hy123⟩) (by assumption) ?rest123
    case hi123 => simp only [List.getElem?_toArray, List.getElem?_cons_succ, List.getElem?_cons_zero]; rfl
    case hf123 => kernel_rfl
    case hr123 => kernel_rfl
    case hw123 => rfl
    case hy123 => (intro w hSw; (try dsimp only at hSw); go_simp; all_goals (first | done | with_reducible rfl))
    case hQ123 => exact fun _ _ _ h => h
    simp only [Act.put, List.setIfInBounds_toArray, List.set_cons_zero, List.set_cons_succ]
    refine wpAnyH_take (i := 1) (oi := ?oi124) (v := ?v124) ?hi124 (by kernel_rfl) ?hf124 ?hr124 ?hQ124 (Or.inl ⟨?hw124, ?hy124⟩) (by assumption) ?rest124
    case hi124 => simp only [List.getElem?_toArray, List.getElem?_cons_succ, List.getElem?_cons_zero]; rfl
    case hf124 => kernel_rfl
    case hr124 => kernel_rfl
    case hw124 => rfl
    case hy124 => (intro w hSw; (try dsimp only at hSw); go_simp; all_goals (first | done | with_reducible rfl))
    case hQ124 => exact fun _ _ _ h => h
    simp only [Act.put, List.setIfInBounds_toArray, List.set_cons_zero, List.set_cons_succ]
    refine wpAnyH_take (i := 2) (oi := ?oi125) (v := ?v125) ?hi125 (by kernel_rfl) ?hf125 ?hr125 ?hQ125 (Or.inl ⟨?hw125, ?hy125⟩) (by assumption) ?rest125
    case hi125 => simp only [List.getElem?_toArray, List.getElem?_cons_succ, List.getElem?_cons_zero]; rfl
    case hf125 => kernel_rfl
    case hr125 => kernel_rfl
    case hw125 => rfl
    case hy125 => (intro w hSw; (try dsimp only at hSw); go_simp; all_goals (first | done | with_reducible rfl))
    case hQ125 => exact fun _ _ _ h => h
    simp only [Act.put, List.setIfInBounds_toArray, List.set_cons_zero, List.set_cons_succ]
    refine wpAnyH_take (i := 3) (oi := ?oi126) (v := ?v126) ?hi126 (by kernel_rfl) ?hf126 ?hr126 ?hQ126 (Or.inl ⟨?hw126, ?hy126⟩) (by assumption) ?rest126
    case hi126 => simp only [List.getElem?_toArray, List.getElem?_cons_succ, List.getElem?_cons_zero]; rfl
    case hf126 => kernel_rfl
    case hr126 => kernel_rfl
    case hw126 => rfl
    case hy126 => (intro w hSw; (try dsimp only at hSw); go_simp; all_goals (first | done | with_reducible rfl))
    case hQ126 => exact fun _ _ _ h => h
    simp only [Act.put, List.setIfInBounds_toArray, List.set_cons_zero, List.set_cons_succ]
    refine wpAnyH_take (i := 4) (oi := ?oi127) (v := ?v127) ?hi127 (by kernel_rfl) ?hf127 ?hr127 ?hQ127 (Or.inl ⟨?hw127, ?hy127⟩) (by assumption) ?rest127
    case hi127 => simp only [List.getElem?_toArray, List.getElem?_cons_succ, List.getElem?_cons_zero]; rfl
    case hf127 => kernel_rfl
    case hr127 => kernel_rfl
    case hw127 => rfl
    case hy127 => (intro w hSw; (try dsimp only at hSw); go_simp; all_goals (first | done | with_reducible rfl))
    case hQ127 => exact fun _ _ _ h => h
    simp only [Act.put, List.setIfInBounds_toArray, List.set_cons_zero, List.set_cons_succ]
    refine wpAnyH_ready (rs := [5]) (by kernel_rfl) (by simp) ?_
    refine AllReadyH.cons (o := ?oi128) ?hi128 (fun K hK => ?step128) AllReadyH.nil
    case hi128 => simp only [List.getElem?_toArray, List.getElem?_cons_succ, List.getElem?_cons_zero]; rfl
    rw [if_pos (by rfl)]
    go_simp
    go_at_call 18
    refine (CK.out).mono ?_
    rintro e w1 ⟨rfl, hw1⟩
    subst hw1
    refine hK.out _ _ hS (fun hS => ?_)
    refine wpAnyH_take (i := 6) (oi := ?oi129) (v := ?v129) ?hi129 (by kernel_rfl) ?hf129 ?hr129 ?hQ129 (Or.inl ⟨?hw129, ?hy129⟩) (by assumption) ?rest129
    case hi129 => simp only [List.getElem?_toArray, List.getElem?_cons_succ, List.getElem?_cons_zero]; rfl
    case hf129 => kernel_rfl
    case hr129 => kernel_rfl
    case hw129 => rfl
    case hy129 => (intro w hSw; (try dsimp only at hSw); go_simp; all_goals (first | done | with_reducible rfl))
    case hQ129 => exact fun _ _ _ h => h
    simp only [Act.put, List.setIfInBounds_toArray, List.set_cons_zero, List.set_cons_succ]
    refine wpAnyH_done (by kernel_rfl) ?_ _
    clear hS
    go_wp2_with fail
    go_end0
    refine ⟨rfl, x, HA.out.symm, ?_, (Below.refl lo W).drew, fun b cs _ _ _ hk => hk.dr 1⟩
    rw [nm_setA HX.out]
    exact HR.out.below ((Below.refl _ _).drew)
  · rw [decide_eq_false hin] at CK
    have HA := hid (addHL_out hin)
    replace CK := hid CK
    obtain ⟨i0, hi, hz0, hz1, hz2⟩ := info_parts Try.infoStr
    obtain ⟨v', w4, hrun, ho4, hg4, hloc⟩ := run_app1P (P := Try.prog) W.drew.drew 37 lo 9 i0 _ 1 16 Try.underlying37 hi hz0 hz1 hz2 rfl (by decide) _ x.hn _ own6.drew.drew [.string s] 9 rfl (one_cell rfl) (by unfold maxLen; omega) (by omega) hlo
    rw [e6] at hrun hg4 hloc
    obtain ⟨A7, c7, rfl, _, _⟩ := (Sl.of_own ho4).form
    have hgb : some g ≠ (Value.slice A6 x.hn c6).ownBlock := by rw [← e6]; exact hgx
    have m1 : w4.cell? ⟨g, k * 6 + 2, none⟩ = some (.slice A6 x.hn c6) := (World.cell?_of_block (hg4.block g hgw hgb)).trans m0
    have f1 : w4.frozen? ⟨g, k * 6 + 2, none⟩ = false := (World.frozen?_of_block (hg4.block g hgw hgb)).trans o2.2
    have hHI : ∀ z, (Value.slice A6 x.hn c6).ownBlock = some z → lo ≤ z := fun z hz => (own6.lt z (by rw [e6]; exact hz)).1
    have hnb : some bl ≠ (Value.slice A6 x.hn c6).ownBlock := fun e => by have := hHI bl e.symm; omega
    have l4 : w4.cell? ⟨bl, 0, none⟩ = some (.string s) := (World.cell?_of_block (hg4.block bl (by show bl < W.heap.size; omega) hnb)).trans hbl
    have HR4 := hid ((hR.below ((Below.refl _ _).drew.drew)).rowcell3 (w' := w4) (i := k) (j := 0) (q := 2) (e := 2) (x := x) (y := ⟨addHL s.data.toList x.l, .slice A7 (x.hn + 1) c7, x.hn + 1, x.fv, x.fn⟩)
      (r := ⟨9, 1, x.hn, x.hv, x.l.hs.map txt⟩) (r' := ⟨9, 1, x.hn + 1, .slice A7 (x.hn + 1) c7, x.l.hs.map txt ++ [Value.string s]⟩) (u := .slice A7 (x.hn + 1) c7)
      lcells_len lrows_len hx (by omega) rfl (by show World.grownBy _ _ x.hv.ownBlock; rw [e6]; exact hg4) ho4 (fun z hz => by
        rcases hloc with h0 | h0
        · exact .inl (by show x.hv.ownBlock = some z; rw [e6, ← h0]; exact hz)
        · right
          have h9 : some z = some (W.drew.drew.heap.size + 1) := hz.symm.trans h0
          have := Option.some.inj h9
          omega) (by omega) (by rw [HA.out]; rfl) (by rw [HA.out]; show [(⟨_, _, _, _, (x.l.hs ++ [s.data.toList]).map txt⟩ : Row), _] = _; rw [List.map_append, List.map_singleton, txt_data]; rfl))
    have HB4 := hid (show Below lo W w4 from ((Below.refl lo W).drew.drew).grown hg4 hlo hHI)
    have HK4 := hid (fun (b : Nat) (cs : List Value) (_ : b < W.heap.size) (h1 : b ≠ g) (h2 : some b ≠ x.hv.ownBlock) (hk : Blk W b cs) => ((((hk.dr 1).dr 1).kept hg4 (show some b ≠ _ by rw [← e6]; exact h2)).apart ⟨g, k * 6 + 2, none⟩ (.slice A7 (x.hn + 1) c7) (show g ≠ b from fun e => h1 e.symm)))
    have HRun := hid hrun
    have hblg : g ≠ bl := by omega
    clear hin hx hR own6 o2 e6 hgx hft hrun ho4 hg4 hloc hgb hHI hnb
    go_enter Try.func17, Try.ntmps17
    go_wp2_with fail
    refine wp_region_held_drew (S := (fun w' : World => w'.cell? ⟨bl, 0, none⟩ = some (.string s) ∧ w'.cell? ⟨g, k * 6 + 2, none⟩ = some (.slice A6 x.hn c6))) (by kernel_rfl) ⟨hbl, m0⟩ (fun hS => ?_)
    refine wpAnyH_take (i := 0) (oi := ?oi130) (v := ?v130) ?hi130 (by kernel_rfl) ?hf130 ?hr130 ?hQ130 (Or.inl ⟨?hw130, ?hy130⟩) (by assumption) ?rest130
    case hi130 => simp only [List.getElem?_toArray, List.getElem?_cons_succ, List.getElem?_cons_zero]; rfl
    case hf130 => kernel_rfl
    case hr130 => kernel_rfl
    case hw130 => rfl
    case hy130 => (intro w hSw; (try dsimp only at hSw); go_simp; all_goals (first | done | with_reducible rfl))
    case hQ130 => exact fun _ _ _ h => h
    simp only [Act.put, List.setIfInBounds_toArray, List.set_cons_zero, List.set_cons_succ]
    refine wpAnyH_take (i := 1) (oi := ?oi131) (v := ?v131) ?hi131 (by kernel_rfl) ?hf131 ?hr131 ?hQ131 (Or.inl ⟨?hw131, ?hy131⟩) (by assumption) ?rest131
    case hi131 => simp only [List.getElem?_toArray, List.getElem?_cons_succ, List.getElem?_cons_zero]; rfl
    case hf131 => kernel_rfl
    case hr131 => kernel_rfl
    case hw131 => rfl
    case hy131 => (intro w hSw; (try dsimp only at hSw); go_simp; all_goals (first | done | with_reducible rfl))
    case hQ131 => exact fun _ _ _ h => h
    simp only [Act.put, List.setIfInBounds_toArray, List.set_cons_zero, List.set_cons_succ]
    refine wpAnyH_take (i := 2) (oi := ?oi132) (v := ?v132) ?hi132 (by kernel_rfl) ?hf132 ?hr132 ?hQ132 (Or.inl ⟨?hw132, ?hy132⟩) (by assumption) ?rest132
    case hi132 => simp only [List.getElem?_toArray, List.getElem?_cons_succ, List.getElem?_cons_zero]; rfl
    case hf132 => kernel_rfl
    case hr132 => kernel_rfl
    case hw132 => rfl
    case hy132 => (intro w hSw; (try dsimp only at hSw); go_simp; all_goals (first | done | with_reducible rfl))
    case hQ132 => exact fun _ _ _ h => h
    simp only [Act.put, List.setIfInBounds_toArray, List.set_cons_zero, List.set_cons_succ]
    refine wpAnyH_take (i := 3) (oi := ?oi133) (v := ?v133) ?hi133 (by kernel_rfl) ?hf133 ?hr133 ?hQ133 (Or.inl ⟨?hw133, ?hy133⟩) (by assumption) ?rest133
    case hi133 => simp only [List.getElem?_toArray, List.getElem?_cons_succ, List.getElem?_cons_zero]; rfl
    case hf133 => kernel_rfl
    case hr133 => kernel_rfl
    case hw133 => rfl
    case hy133 => (intro w hSw; (try dsimp only at hSw); go_simp; all_goals (first | done | with_reducible rfl))
    case hQ133 => exact fun _ _ _ h => h
    simp only [Act.put, List.setIfInBounds_toArray, List.set_cons_zero, List.set_cons_succ]
    refine wpAnyH_take (i := 4) (oi := ?oi134) (v := ?v134) ?hi134 (by kernel_rfl) ?hf134 ?hr134 ?hQ134 (Or.inl ⟨?hw134, ?hy134⟩) (by assumption) ?rest134
    case hi134 => simp only [List.getElem?_toArray, List.getElem?_cons_succ, List.getElem?_cons_zero]; rfl
    case hf134 => kernel_rfl
    case hr134 => kernel_rfl
    case hw134 => rfl
    case hy134 => (intro w hSw; (try dsimp only at hSw); go_simp; all_goals (first | done | with_reducible rfl))
    case hQ134 => exact fun _ _ _ h => h
    simp only [Act.put, List.setIfInBounds_toArray, List.set_cons_zero, List.set_cons_succ]
    refine wpAnyH_ready (rs := [5]) (by kernel_rfl) (by simp) ?_
    refine AllReadyH.cons (o := ?oi135) ?hi135 (fun K hK => ?step135) AllReadyH.nil
    case hi135 => simp only [List.getElem?_toArray, List.getElem?_cons_succ, List.getElem?_cons_zero]; rfl
    rw [if_pos (by rfl)]
    go_simp
    go_at_call 18
    refine (CK.out).mono ?_
    rintro e w1 ⟨rfl, hw1⟩
    subst hw1
    refine hK.out _ _ hS (fun hS => ?_)
    refine wpAnyH_take (i := 6) (oi := ?oi136) (v := ?v136) ?hi136 (by kernel_rfl) ?hf136 ?hr136 ?hQ136 (Or.inl ⟨?hw136, ?hy136⟩) (by assumption) ?rest136
    case hi136 => simp only [List.getElem?_toArray, List.getElem?_cons_succ, List.getElem?_cons_zero]; rfl
    case hf136 => kernel_rfl
    case hr136 => kernel_rfl
    case hw136 => rfl
    case hy136 => (intro w hSw; (try dsimp only at hSw); go_simp; all_goals (first | done | with_reducible rfl))
    case hQ136 => exact fun _ _ _ h => h
    simp only [Act.put, List.setIfInBounds_toArray, List.set_cons_zero, List.set_cons_succ]
    refine wpAnyH_done (by kernel_rfl) ?_ _
    clear hS
    go_wp2_with fail
    refine wp_region_let 10 (fun w' : World => w'.cell? ⟨bl, 0, none⟩ = some (.string s)) (fun w' : World => w'.cell? ⟨g, k * 6 + 2, none⟩ = some (.slice A6 x.hn c6)) (by kernel_rfl) hbl m0 (fun hS => ?_)
    refine wpAnyL_take (i := 0) (oi := ?oi137) (v := ?v137) ?hi137 (by kernel_rfl) ?hf137 ?hr137 (by decide) ?hQ137 (Or.inl ⟨?hw137, ?hy137⟩) (⟨hS.1, fun h => hS.2 (by first | rfl | exact h)⟩) ?rest137
    case hi137 => simp only [List.getElem?_toArray, List.getElem?_cons_succ, List.getElem?_cons_zero]; rfl
    case hf137 => kernel_rfl
    case hr137 => kernel_rfl
    case hw137 => rfl
    case hy137 => (intro w hSw; (try dsimp only at hSw); go_simp; all_goals (first | done | with_reducible rfl))
    case hQ137 => exact fun _ _ _ h => h
    simp only [Act.put, List.setIfInBounds_toArray, List.set_cons_zero, List.set_cons_succ]
    refine wpAnyL_take (i := 1) (oi := ?oi138) (v := ?v138) ?hi138 (by kernel_rfl) ?hf138 ?hr138 (by decide) ?hQ138 (Or.inl ⟨?hw138, ?hy138⟩) (⟨hS.1, fun h => hS.2 (by first | rfl | exact h)⟩) ?rest138
    case hi138 => simp only [List.getElem?_toArray, List.getElem?_cons_succ, List.getElem?_cons_zero]; rfl
    case hf138 => kernel_rfl
    case hr138 => kernel_rfl
    case hw138 => rfl
    case hy138 => (intro w hSw; (try dsimp only at hSw); go_simp; all_goals (first | done | with_reducible rfl))
    case hQ138 => exact fun _ _ _ h => h
    simp only [Act.put, List.setIfInBounds_toArray, List.set_cons_zero, List.set_cons_succ]
    refine wpAnyL_take (i := 2) (oi := ?oi139) (v := ?v139) ?hi139 (by kernel_rfl) ?hf139 ?hr139 (by decide) ?hQ139 (Or.inl ⟨?hw139, ?hy139⟩) (⟨hS.1, fun h => hS.2 (by first | rfl | exact h)⟩) ?rest139
    case hi139 => simp only [List.getElem?_toArray, List.getElem?_cons_succ, List.getElem?_cons_zero]; rfl
    case hf139 => kernel_rfl
    case hr139 => kernel_rfl
    case hw139 => rfl
    case hy139 => (intro w hSw; (try dsimp only at hSw); go_simp; all_goals (first | done | with_reducible rfl))
    case hQ139 => exact fun _ _ _ h => h
    simp only [Act.put, List.setIfInBounds_toArray, List.set_cons_zero, List.set_cons_succ]
    refine wpAnyL_take (i := 3) (oi := ?oi140) (v := ?v140) ?hi140 (by kernel_rfl) ?hf140 ?hr140 (by decide) ?hQ140 (Or.inl ⟨?hw140, ?hy140⟩) (⟨hS.1, fun h => hS.2 (by first | rfl | exact h)⟩) ?rest140
    case hi140 => simp only [List.getElem?_toArray, List.getElem?_cons_succ, List.getElem?_cons_zero]; rfl
    case hf140 => kernel_rfl
    case hr140 => kernel_rfl
    case hw140 => rfl
    case hy140 => (intro w hSw; (try dsimp only at hSw); go_simp; all_goals (first | done | with_reducible rfl))
    case hQ140 => exact fun _ _ _ h => h
    simp only [Act.put, List.setIfInBounds_toArray, List.set_cons_zero, List.set_cons_succ]
    refine wpAnyL_take (i := 5) (oi := ?oi141) (v := ?v141) ?hi141 (by kernel_rfl) ?hf141 ?hr141 (by decide) ?hQ141 (Or.inl ⟨?hw141, ?hy141⟩) (⟨hS.1, fun h => hS.2 (by first | rfl | exact h)⟩) ?rest141
    case hi141 => simp only [List.getElem?_toArray, List.getElem?_cons_succ, List.getElem?_cons_zero]; rfl
    case hf141 => kernel_rfl
    case hr141 => kernel_rfl
    case hw141 => rfl
    case hy141 => (intro w hSw; (try dsimp only at hSw); go_simp; all_goals (first | done | with_reducible rfl))
    case hQ141 => exact fun _ _ _ h => h
    simp only [Act.put, List.setIfInBounds_toArray, List.set_cons_zero, List.set_cons_succ]
    refine wpAnyL_take1 (i := 4) (oi := ?oi142) (om := ?om142) (v := ?v142) ?hi142 (by kernel_rfl) ?hf142 ?hr142 (by decide) ?hm142 ?hd142 (by rfl) ?hQ142 (Or.inl ⟨?hw142, ?hy142⟩) (⟨hS.1, fun h => hS.2 (by first | rfl | exact h)⟩) ?rest142
    case hi142 => simp only [List.getElem?_toArray, List.getElem?_cons_succ, List.getElem?_cons_zero]; rfl
    case hm142 => simp only [List.getElem?_toArray, List.getElem?_cons_succ, List.getElem?_cons_zero]; rfl
    case hd142 => kernel_rfl
    case hf142 => kernel_rfl
    case hr142 => kernel_rfl
    case hw142 => rfl
    case hy142 => (intro w hSw; (try dsimp only at hSw); go_simp; all_goals (first | done | with_reducible rfl))
    case hQ142 => exact fun _ _ _ h => h
    simp only [Act.put, List.setIfInBounds_toArray, List.set_cons_zero, List.set_cons_succ]
    refine wpAnyL_ready (rs := [6]) (by kernel_rfl) (by simp) ?_
    refine AllReadyL.cons (o := ?oi143) ?hi143 (fun K hK => ?step143) AllReadyL.nil
    case hi143 => simp only [List.getElem?_toArray, List.getElem?_cons_succ, List.getElem?_cons_zero]; rfl
    rw [if_pos (by rfl)]
    go_simp
    refine hK.out _ _ ⟨(World.cell?_alloc_past _ _ _ (show bl < W.heap.size by omega)).trans hbl, fun _ => (World.cell?_alloc_past _ _ _ (show g < W.heap.size from hgw)).trans m0⟩ (fun hS => ?_)
    refine wpAnyL_ready (rs := [7]) (by kernel_rfl) (by simp) ?_
    refine AllReadyL.cons (o := ?oi144) ?hi144 (fun K hK => ?step144) AllReadyL.nil
    case hi144 => simp only [List.getElem?_toArray, List.getElem?_cons_succ, List.getElem?_cons_zero]; rfl
    rw [if_pos (by rfl)]
    refine wp_app rfl (by rfl) (by rfl) HRun.out ?_
    refine hK.out _ _ ⟨l4, fun _ => m1⟩ (fun hS => ?_)
    simp only [Act.put, List.setIfInBounds_toArray, List.set_cons_zero, List.set_cons_succ]
    refine wpAnyL_take (i := 8) (oi := ?oi145) (v := ?v145) ?hi145 (by kernel_rfl) ?hf145 ?hr145 (by decide) ?hQ145 (Or.inl ⟨?hw145, ?hy145⟩) (⟨hS.1, fun h => hS.2 (by first | rfl | exact h)⟩) ?rest145
    case hi145 => simp only [List.getElem?_toArray, List.getElem?_cons_succ, List.getElem?_cons_zero]; rfl
    case hf145 => kernel_rfl
    case hr145 => kernel_rfl
    case hw145 => rfl
    case hy145 => (intro w hSw; (try dsimp only at hSw); go_simp; all_goals (first | done | with_reducible rfl))
    case hQ145 => exact fun _ _ _ h => h
    simp only [Act.put, List.setIfInBounds_toArray, List.set_cons_zero, List.set_cons_succ]
    refine wpAnyL_take (i := 9) (oi := ?oi146) (v := ?v146) ?hi146 (by kernel_rfl) ?hf146 ?hr146 (by decide) ?hQ146 (Or.inl ⟨?hw146, ?hy146⟩) (⟨hS.1, fun h => hS.2 (by first | rfl | exact h)⟩) ?rest146
    case hi146 => simp only [List.getElem?_toArray, List.getElem?_cons_succ, List.getElem?_cons_zero]; rfl
    case hf146 => kernel_rfl
    case hr146 => kernel_rfl
    case hw146 => rfl
    case hy146 => (intro w hSw; (try dsimp only at hSw); go_simp; all_goals (first | done | with_reducible rfl))
    case hQ146 => exact fun _ _ _ h => h
    simp only [Act.put, List.setIfInBounds_toArray, List.set_cons_zero, List.set_cons_succ]
    refine wpAnyL_ready (rs := [10]) (by kernel_rfl) (by simp) ?_
    refine AllReadyL.cons (o := ?oi147) ?hi147 (fun K hK => ?step147) AllReadyL.nil
    case hi147 => simp only [List.getElem?_toArray, List.getElem?_cons_succ, List.getElem?_cons_zero]; rfl
    rw [if_pos (by rfl)]
    go_simp
    refine hK.out _ _ ⟨(World.cell?_setCell_far _ _ _ _ hblg).trans l4, fun h => absurd h (by decide)⟩ (fun hS => ?_)
    refine wpAnyL_done (by kernel_rfl) ?_ _
    clear hS m1 f1 l4
    go_wp2_with fail
    go_end0
    exact ⟨rfl, _, rfl, HR4.out, HB4.out.setCell hgl _, HK4.out⟩

set_option maxHeartbeats 8000000 in
set_option maxRecDepth 100000 in
theorem attClo_c {w : World} {L : List Lgr} {H : List Hnd} {q : Int} {k bf ba bl : Nat} (s : ByteArray) (hk : k < L.length) (hok : treeOk L H q = true) (hz : s.size ≤ maxTxt) (hbf : w.cell? ⟨bf, 0, none⟩ = some (.func (.func 17) #[] #[.pointer (some ⟨bl, 0, none⟩)])) (hba : w.cell? ⟨ba, 0, none⟩ = some (.int .i64 k)) (hbl : w.cell? ⟨bl, 0, none⟩ = some (.string s))
    (W : World) (lo bc : Nat) (v1 v2 : Value) (rs : List Row) (hp : CloPre w lo bc W v1 v2 rs L H q) :
    Calls Try.prog 35 #[.pointer (some ⟨bc, 0, none⟩), .pointer (some ⟨bf, 0, none⟩), .pointer (some ⟨ba, 0, none⟩)] W (CloPost lo bc W (some (updL L k (addHL s.data.toList), H, q))) := by
  obtain ⟨hb, hlo, hbc, hkb, hs, hr, hap, hd⟩ := hp
  obtain ⟨_, _, _, h8, _, _⟩ := tree_names hok
  have HD := hid (updl_fit (k := k) (f := addHL s.data.toList) hd (fun l hl hf => att_lgrFit hf (by have := (tree_nodup hok (List.mem_of_getElem? hl)).2; omega) (by rw [← Lib.size_eq]; exact hz)))
  obtain ⟨u1, u2, ls, hs', e, h1, h2, h3⟩ := hs
  have e' : v1 = u1 ∧ v2 = u2 := by simpa using e
  obtain ⟨rfl, rfl⟩ := e'
  subst h3
  have hll : ls.length = L.length := by rw [← h1]; simp [lsOf]
  obtain ⟨hl, hh⟩ := hr.lsIn
  obtain ⟨A, c, rfl, hnc, hcm⟩ := hl.1.form
  obtain ⟨A4, c4, rfl, _, _⟩ := hh.1.form
  rw [treeRows_eq] at hr hap
  have hr0 : Rows W lo ([] ++ two 48 6 ls.length (.slice A ls.length c) lcells lrows ls ++ two 59 3 hs'.length (.slice A4 hs'.length c4) hcells hrows hs') := by simpa using hr
  obtain ⟨g, rfl, hglt⟩ := own_some hr0.top (by omega)
  have hgl : lo ≤ g := (hr0.top.lt g rfl).1
  obtain ⟨x, hx⟩ : ∃ x, ls[k]? = some x := ⟨_, List.getElem?_eq_getElem (by omega)⟩
  have hlx : L[k]? = some x.l := by rw [← h1]; unfold lsOf; rw [List.getElem?_map, hx]; rfl
  have hgb : g ≠ bc := fun e => hap ⟨48, 6, ls.length, .slice (some ⟨g, 0, none⟩) ls.length c, ls.flatMap lcells⟩ (by simp [two]) (by rw [← e]; rfl)
  have hxb : x.hv.ownBlock ≠ some bc := hap ⟨9, 1, x.hn, x.hv, x.l.hs.map txt⟩ (by
    rw [List.mem_append]; left
    simp only [two, List.mem_cons, List.mem_flatMap]
    exact .inr ⟨x, List.mem_of_getElem? hx, by simp [lrows]⟩)
  have hbfw : bf < w.heap.size := World.block_lt_of_cell? w _ hbf
  have hbaw : ba < w.heap.size := World.block_lt_of_cell? w _ hba
  have hblw : bl < w.heap.size := World.block_lt_of_cell? w _ hbl
  have hloW : lo ≤ W.heap.size := by have := hkb.1; omega
  have f0 : W.cell? ⟨bf, 0, none⟩ = some (.func (.func 17) #[] #[.pointer (some ⟨bl, 0, none⟩)]) := (hb.cell (p := ⟨bf, 0, none⟩) hbfw).trans hbf
  have a0 : W.cell? ⟨ba, 0, none⟩ = some (.int .i64 k) := (hb.cell (p := ⟨ba, 0, none⟩) hbaw).trans hba
  have l0 : W.cell? ⟨bl, 0, none⟩ = some (.string s) := (hb.cell (p := ⟨bl, 0, none⟩) hblw).trans hbl
  have d0 := (hkb.2 0 _ rfl).1
  have hhs := (tree_nodup hok (List.mem_of_getElem? hlx)).2
  have CG := hid (attachFn_c (bl := bl) s (hr0.below ((Below.refl _ _).drew)) hx (by omega) (hd.1.2 x.l (List.mem_of_getElem? hlx)).2.1.2 hloW l0 (by omega))
  have s0 : (0 : Int) ≤ (k : Int) := by omega
  have s1 : (k : Int) < (ls.length : Int) := by omega
  have s2 : ((k : Int)).toNat = k := by simp
  unfold maxLen at hcm
  have HKB := hid hkb
  have HX := hid hx
  have HLH := hid (And.intro h1 h2)
  have HN := hid (And.intro hgb hxb)
  have HLO := hid (And.intro hlo hbc)
  clear hl hh hr hr0 hap hkb hd h1 h2 e hb hbf hba hbl hok hll h8 hx hlx hgb hxb l0 hhs hlo hbc
  generalize hN : ls.length = n at *
  have HNn := hid hN
  clear hN
  go_enter Try.func35, Try.ntmps35
  go_wp2_with fail
  refine wp_region_held_drew (S := (fun w' : World => w'.cell? ⟨bf, 0, none⟩ = some (.func (.func 17) #[] #[.pointer (some ⟨bl, 0, none⟩)]) ∧ w'.cell? ⟨bc, 0, none⟩ = some (.slice (some ⟨g, 0, none⟩) n c) ∧ w'.cell? ⟨ba, 0, none⟩ = some (.int .i64 k))) (by kernel_rfl) ⟨f0, d0, a0⟩ (fun hS => ?_)
  refine wpAnyH_take (i := 0) (oi := ?oi148) (v := ?v148) ?hi148 (by kernel_rfl) ?hf148 ?hr148 ?hQ148 (Or.inl ⟨?hw148, ?hy148⟩) (by assumption) ?rest148
  case hi148 => simp only [List.getElem?_toArray, List.getElem?_cons_succ, List.getElem?_cons_zero]; rfl
  case hf148 => kernel_rfl
  case hr148 => kernel_rfl
  case hw148 => rfl
  case hy148 => (intro w hSw; (try dsimp only at hSw); go_simp; all_goals (first | done | with_reducible rfl))
  case hQ148 => exact fun _ _ _ h => h
  simp only [Act.put, List.setIfInBounds_toArray, List.set_cons_zero, List.set_cons_succ]
  refine wpAnyH_take (i := 1) (oi := ?oi149) (v := ?v149) ?hi149 (by kernel_rfl) ?hf149 ?hr149 ?hQ149 (Or.inl ⟨?hw149, ?hy149⟩) (by assumption) ?rest149
  case hi149 => simp only [List.getElem?_toArray, List.getElem?_cons_succ, List.getElem?_cons_zero]; rfl
  case hf149 => kernel_rfl
  case hr149 => kernel_rfl
  case hw149 => rfl
  case hy149 => (intro w hSw; (try dsimp only at hSw); go_simp; all_goals (first | done | with_reducible rfl))
  case hQ149 => exact fun _ _ _ h => h
  simp only [Act.put, List.setIfInBounds_toArray, List.set_cons_zero, List.set_cons_succ]
  refine wpAnyH_take (i := 2) (oi := ?oi150) (v := ?v150) ?hi150 (by kernel_rfl) ?hf150 ?hr150 ?hQ150 (Or.inl ⟨?hw150, ?hy150⟩) (by assumption) ?rest150
  case hi150 => simp only [List.getElem?_toArray, List.getElem?_cons_succ, List.getElem?_cons_zero]; rfl
  case hf150 => kernel_rfl
  case hr150 => kernel_rfl
  case hw150 => rfl
  case hy150 => (intro w hSw; (try dsimp only at hSw); go_simp; all_goals (first | done | with_reducible rfl))
  case hQ150 => exact fun _ _ _ h => h
  simp only [Act.put, List.setIfInBounds_toArray, List.set_cons_zero, List.set_cons_succ]
  refine wpAnyH_take (i := 3) (oi := ?oi151) (v := ?v151) ?hi151 (by kernel_rfl) ?hf151 ?hr151 ?hQ151 (Or.inl ⟨?hw151, ?hy151⟩) (by assumption) ?rest151
  case hi151 => simp only [List.getElem?_toArray, List.getElem?_cons_succ, List.getElem?_cons_zero]; rfl
  case hf151 => kernel_rfl
  case hr151 => kernel_rfl
  case hw151 => rfl
  case hy151 => (intro w hSw; (try dsimp only at hSw); go_simp; all_goals (first | done | with_reducible rfl))
  case hQ151 => exact fun _ _ _ h => h
  simp only [Act.put, List.setIfInBounds_toArray, List.set_cons_zero, List.set_cons_succ]
  refine wpAnyH_take (i := 4) (oi := ?oi152) (v := ?v152) ?hi152 (by kernel_rfl) ?hf152 ?hr152 ?hQ152 (Or.inl ⟨?hw152, ?hy152⟩) (by assumption) ?rest152
  case hi152 => simp only [List.getElem?_toArray, List.getElem?_cons_succ, List.getElem?_cons_zero]; rfl
  case hf152 => kernel_rfl
  case hr152 => kernel_rfl
  case hw152 => rfl
  case hy152 => (intro w hSw; (try dsimp only at hSw); go_simp; all_goals (first | done | with_reducible rfl))
  case hQ152 => exact fun _ _ _ h => h
  simp only [Act.put, List.setIfInBounds_toArray, List.set_cons_zero, List.set_cons_succ]
  refine wpAnyH_take (i := 5) (oi := ?oi153) (v := ?v153) ?hi153 (by kernel_rfl) ?hf153 ?hr153 ?hQ153 (Or.inl ⟨?hw153, ?hy153⟩) (by assumption) ?rest153
  case hi153 => simp only [List.getElem?_toArray, List.getElem?_cons_succ, List.getElem?_cons_zero]; rfl
  case hf153 => kernel_rfl
  case hr153 => kernel_rfl
  case hw153 => rfl
  case hy153 => (intro w hSw; (try dsimp only at hSw); go_simp; all_goals (first | done | with_reducible rfl))
  case hQ153 => exact fun _ _ _ h => h
  simp only [Act.put, List.setIfInBounds_toArray, List.set_cons_zero, List.set_cons_succ]
  refine wpAnyH_take (i := 6) (oi := ?oi154) (v := ?v154) ?hi154 (by kernel_rfl) ?hf154 ?hr154 ?hQ154 (Or.inl ⟨?hw154, ?hy154⟩) (by assumption) ?rest154
  case hi154 => simp only [List.getElem?_toArray, List.getElem?_cons_succ, List.getElem?_cons_zero]; rfl
  case hf154 => kernel_rfl
  case hr154 => kernel_rfl
  case hw154 => rfl
  case hy154 => (intro w hSw; (try dsimp only at hSw); go_simp; all_goals (first | done | with_reducible rfl))
  case hQ154 => exact fun _ _ _ h => h
  simp only [Act.put, List.setIfInBounds_toArray, List.set_cons_zero, List.set_cons_succ]
  refine wpAnyH_ready (rs := [7]) (by kernel_rfl) (by simp) ?_
  refine AllReadyH.cons (o := ?oi155) ?hi155 (fun K hK => ?step155) AllReadyH.nil
  case hi155 => simp only [List.getElem?_toArray, List.getElem?_cons_succ, List.getElem?_cons_zero]; rfl
  rw [if_pos (by rfl)]
  go_simp
  go_at_call 17
  refine (CG.out).mono ?_
  rintro e w9 ⟨rfl, y, hy, hR3, hB3, hK3⟩
  have HR3 := hid hR3
  have HK3 := hid (hK3 bc _ (HKB.out.1) (fun e => HN.out.1 e.symm) (fun e => HN.out.2 e.symm) (HKB.out.dr 1))
  have HB3 := hid (show Below lo W w9 from ((Below.refl lo W).drew).trans hB3)
  have HY := hid hy
  refine hK.out _ _ ⟨(HB3.out.cell (p := ⟨bf, 0, none⟩) (show bf < lo by have := HLO.out.1; omega)).trans f0, (HK3.out.2 0 _ rfl).1, (HB3.out.cell (p := ⟨ba, 0, none⟩) (show ba < lo by have := HLO.out.1; omega)).trans a0⟩ (fun hS => ?_)
  refine wpAnyH_done (by kernel_rfl) ?_ _
  clear hy hR3 hB3 hK3 hS f0 a0 d0
  go_wp2_with fail
  go_ret
  refine ⟨HB3.out, rfl, fun x' hx' => ?_⟩
  obtain rfl := Option.some.inj hx'
  refine ⟨_, _, _, _, _, _, treeRows (ls.set k y).length _ (ls.set k y) hs'.length _ hs', HK3.out, ⟨_, _, ls.set k y, hs', rfl, ?_, HLH.out.2, rfl⟩, ?_, HD.out⟩
  · rw [← HLH.out.1]
    have e : (lsOf ls)[k]? = some x.l := by unfold lsOf; rw [List.getElem?_map, HX.out]; rfl
    unfold updL
    rw [e]
    unfold lsOf
    rw [List.map_set, HY.out]
  · rw [treeRows_eq, List.length_set, HNn.out]
    simpa using HR3.out

set_option maxHeartbeats 4000000 in
set_option maxRecDepth 100000 in
theorem implAttachHandler_c {w : World} {B : Nat} {v : Value} {L : List Lgr} {H : List Hnd} {q : Int} (s t : ByteArray) (h : TreeIn w B v L H q) (hB : B ≤ w.heap.size) (hz : t.size ≤ maxTxt) :
    Calls Try.prog 5 #[v, .string s, .string t] w (TreePostO w (lgrX L H q s.data.toList (addHL t.data.toList))) := by
  obtain ⟨A1, n1, k1, A2, n2, k2, rfl⟩ := h.form
  have HW := hid (show Below w.heap.size w (((w.alloc (.cells #[.slice A1 n1 k1, .slice A2 n2 k2, .int .i64 q] 26)).alloc (.cells #[.string t] 9)).alloc (.cells #[.slice none 0 0, .slice none 0 0, .int .i64 0] 26)) from (((Below.refl _ _).alloc (Nat.le_refl _) _).alloc (by simp) _).alloc (by simp; omega) _)
  have KT := hid (((Blk.new w #[.slice A1 n1 k1, .slice A2 n2 k2, .int .i64 q] 26).alloc (.cells #[.string t] 9)).alloc (.cells #[.slice none 0 0, .slice none 0 0, .int .i64 0] 26))
  have KQ := hid ((Blk.new (w.alloc (.cells #[.slice A1 n1 k1, .slice A2 n2 k2, .int .i64 q] 26)) #[.string t] 9).alloc (.cells #[.slice none 0 0, .slice none 0 0, .int .i64 0] 26))
  have KR := hid (Blk.new ((w.alloc (.cells #[.slice A1 n1 k1, .slice A2 n2 k2, .int .i64 q] 26)).alloc (.cells #[.string t] 9)) #[.slice none 0 0, .slice none 0 0, .int .i64 0] 26)
  simp only [World.size_alloc] at KQ KR
  have hsz3 : (((w.alloc (.cells #[.slice A1 n1 k1, .slice A2 n2 k2, .int .i64 q] 26)).alloc (.cells #[.string t] 9)).alloc (.cells #[.slice none 0 0, .slice none 0 0, .int .i64 0] 26)).heap.size = w.heap.size + 3 := by simp
  have hmf : ∀ (fn : Fn) (first cap : Array Value) (w : World), (Instr.makeFunc fn first cap).run Try.prog w = .ok (.func fn first cap) w := fun _ _ _ _ => rfl
  have CQ := hid (implChangedLoggerH_c s 17 (.pointer (some ⟨w.heap.size + 1, 0, none⟩)) (f := addHL t.data.toList) (h.below HW.out hB) (Nat.le_trans hB HW.out.size)
      (fun w2 k bf ba hW2 hk hok _ hbf hba W lo bc v1 v2 rs hp => attClo_c (bl := w.heap.size + 1) t hk hok hz hbf hba ((KQ.out.to hW2).2 0 _ rfl).1 W lo bc v1 v2 rs hp))
  generalize lgrX L H q s.data.toList (addHL t.data.toList) = X at *
  have d0 := (KT.out.2 0 _ rfl).1
  have d1 := (KT.out.2 1 _ rfl).1
  have d2 := (KT.out.2 2 _ rfl).1
  clear h
  go_enter Try.func5, Try.ntmps5
  go_wp2_with fail
  refine (CQ.out).mono ?_
  rintro e w3 ⟨v', rs, rfl, hs, hr, hb3⟩
  obtain ⟨u1, u2, ls, hs', rfl, hL, hH, rfl⟩ := hs
  have KR3 := hid (KR.out.to hb3)
  have HB3 := hid (HW.out.trans (hb3.mono HW.out.size))
  have HR3 := hid (hr.base (show w.heap.size + 3 ≤ _ by rw [hsz3]; exact Nat.le_refl _))
  have HS3 := hid (show TreeS (treeRows ls.length u1 ls hs'.length u2 hs') (.agg #[u1, u2, .int .i64 (resQ X)]) (resL X) (resH X) (resQ X) from ⟨u1, u2, ls, hs', rfl, hL, hH, rfl⟩)
  obtain ⟨hl, hh⟩ := hr.lsIn
  obtain ⟨A5, c5, rfl, _, _⟩ := hl.1.form
  obtain ⟨A4, c4, rfl, _, _⟩ := hh.1.form
  generalize hq0 : resQ X = q0 at *
  generalize hi0 : X.isSome = i0 at *
  have HI := hid hi0
  have HQ0 := hid hq0
  clear hq0 hi0 hb3 hr hl hh hL hH d0 d1 d2
  obtain ⟨q0c, q0f⟩ := KR3.out.2 0 _ rfl
  obtain ⟨q1c, q1f⟩ := KR3.out.2 1 _ rfl
  obtain ⟨q2c, q2f⟩ := KR3.out.2 2 _ rfl
  go_wp2_with fail
  have RB := ((KR3.out.set 0 (.slice A5 ls.length c5)).set 1 (.slice A4 hs'.length c4)).set 2 (.int .i64 q0)
  have f0 := (RB.2 0 _ rfl).1
  have f1 := (RB.2 1 _ rfl).1
  have f2 := (RB.2 2 _ rfl).1
  refine bodyPost_ret (v := .tuple #[.agg #[.slice A5 ls.length c5, .slice A4 hs'.length c4, .int .i64 q0], .bool i0]) (by simp [results, Try.results5, go_sem, f0, f1, f2]) rfl ?_
  refine ⟨_, _, by rw [HI.out], (by rw [HQ0.out]; exact HS3.out), ?_, ?_⟩
  · refine Rows.base ?_ (show w.heap.size ≤ w.heap.size + 3 by omega)
    iterate 3 refine Rows.low ?_ (by omega)
    exact HR3.out
  · iterate 3 refine Below.setCell ?_ (by simp; try omega) _
    exact HB3.out

set_option maxHeartbeats 8000000 in
set_option maxRecDepth 100000 in
theorem specAttachHandler_c {w : World} {B : Nat} {v : Value} {L : List Lgr} {H : List Hnd} {q : Int} (s t : ByteArray) (h : TreeIn w B v L H q) (hB : B ≤ w.heap.size) (hzt : t.size ≤ maxTxt) :
    Calls Try.prog 6 #[v, .string s, .string t] w (TreePostO w (lgrX L H q s.data.toList (addHL t.data.toList))) := by
  have C := hid (fun (W : World) (hW : Below w.heap.size w W) => specTreeX_c (h.below hW hB) (Nat.le_trans hB hW.size))
  have CC := hid (fun (hz : treeOk L H q = true) (W : World) (hW : Below w.heap.size w W) => specCopy_c (h.below hW hB) hz (Nat.le_trans hB hW.size))
  obtain ⟨ls0, hs0, ⟨A1, n1, k1, A2, n2, k2, rfl, hl0, hh0, _⟩, hL0, hH0⟩ := h
  have AT := fun (W : World) (hW : Below w.heap.size w W) => loggerAt_c (.slice A1 n1 k1) n1 B ls0 s W (hl0.below hW hB)
  have ATH := fun (W : World) (hW : Below w.heap.size w W) => handlerAt_c (.slice A2 n2 k2) n2 B hs0 t W (hh0.below hW hB)
  rw [show lnames ls0 = namesOf L by rw [← hL0, namesOf_ls]] at AT
  rw [show hnames hs0 = hnm H by rw [hnames_hnm, hH0]] at ATH
  clear hl0 hh0 hL0 hH0
  cases hz : treeOk L H q with
  | false =>
    have HE := hid (att_bad s.data.toList (addHL t.data.toList) hz)
    generalize idxL (namesOf L) s.data.toList = z at AT
    replace AT := hid AT
    rw [hz] at C
    clear hz CC ATH
    go_enter Try.func6, Try.ntmps6
    go_wp2_with (go_at_call 19; refine (AT.out _ (by go_grown)).mono ?_; rintro e w2 ⟨rfl, hw2⟩; have hw2 := hw2.symm; subst hw2)
    refine (C.out _ ?_).mono ?_
    case refine_1 => go_grown
    rintro e w1 ⟨rfl, hb1⟩
    have K1 := ((Blk.new _ _ _).to hb1)
    simp only [World.size_alloc] at K1
    have HK1 := hid K1
    have HB1 := hid (Below.trans (by go_grown) (hb1.mono (by simp; try omega)) : Below w.heap.size w w1)
    clear hb1 K1
    obtain ⟨q0c, q0f⟩ := HK1.out.2 0 _ rfl
    obtain ⟨q1c, q1f⟩ := HK1.out.2 1 _ rfl
    obtain ⟨q2c, q2f⟩ := HK1.out.2 2 _ rfl
    go_wp2_with fail
    have RB := ((HK1.out.set 0 (.slice none 0 0)).set 1 (.slice none 0 0)).set 2 (.int .i64 0)
    have f0 := (RB.2 0 _ rfl).1
    have f1 := (RB.2 1 _ rfl).1
    have f2 := (RB.2 2 _ rfl).1
    refine bodyPost_ret (v := .tuple #[.agg #[.slice none 0 0, .slice none 0 0, .int .i64 0], .bool false]) (by simp [results, Try.results6, go_sem, f0, f1, f2]) rfl ?_
    refine postO_none HE.out rfl ?_
    iterate 3 refine Below.setCell ?_ (by simp) _
    exact HB1.out
  | true =>
   by_cases hneg : idxL (namesOf L) s.data.toList < 0
   · have HE := hid (att_noname (H := H) (q := q) (addHL t.data.toList) hneg)
     generalize idxL (namesOf L) s.data.toList = z at AT hneg
     replace AT := hid AT
     rw [hz] at C
     clear hz CC ATH
     go_enter Try.func6, Try.ntmps6
     go_wp2_with (go_at_call 19; refine (AT.out _ (by go_grown)).mono ?_; rintro e w2 ⟨rfl, hw2⟩; have hw2 := hw2.symm; subst hw2)
     refine (C.out _ ?_).mono ?_
     case refine_1 => go_grown
     rintro e w1 ⟨rfl, hb1⟩
     have K1 := ((Blk.new _ _ _).to hb1)
     simp only [World.size_alloc] at K1
     have HK1 := hid K1
     have HB1 := hid (Below.trans (by go_grown) (hb1.mono (by simp; try omega)) : Below w.heap.size w w1)
     clear hb1 K1
     obtain ⟨q0c, q0f⟩ := HK1.out.2 0 _ rfl
     obtain ⟨q1c, q1f⟩ := HK1.out.2 1 _ rfl
     obtain ⟨q2c, q2f⟩ := HK1.out.2 2 _ rfl
     go_wp2_with fail
     have RB := ((HK1.out.set 0 (.slice none 0 0)).set 1 (.slice none 0 0)).set 2 (.int .i64 0)
     have f0 := (RB.2 0 _ rfl).1
     have f1 := (RB.2 1 _ rfl).1
     have f2 := (RB.2 2 _ rfl).1
     refine bodyPost_ret (v := .tuple #[.agg #[.slice none 0 0, .slice none 0 0, .int .i64 0], .bool false]) (by simp [results, Try.results6, go_sem, f0, f1, f2]) rfl ?_
     refine postO_none HE.out rfl ?_
     iterate 3 refine Below.setCell ?_ (by simp) _
     exact HB1.out
   · obtain ⟨k, hzk⟩ : ∃ k : Nat, idxL (namesOf L) s.data.toList = (k : Int) := ⟨_, (Int.toNat_of_nonneg (by omega)).symm⟩
     have hkl : k < L.length := by have := (idx_nat hzk).1; simpa [namesOf] using this
     obtain ⟨l0, hl0⟩ : ∃ l, L[k]? = some l := ⟨_, List.getElem?_eq_getElem hkl⟩
     have HE := hid (att_at (t := t.data.toList) hz hzk hl0)
     rw [hzk] at AT
     replace AT := hid AT
     have sk : ¬ (k : Int) < 0 := by omega
     by_cases hnh : idxL (hnm H) t.data.toList < 0
     · have HN := hid (show lgrX L H q s.data.toList (addHL t.data.toList) = none by rw [HE.out, if_neg ((idx_neg _ _).1 hnh)])
       generalize idxL (hnm H) t.data.toList = z at ATH hnh
       replace ATH := hid ATH
       rw [hz] at C
       clear hz CC hneg hzk HE hl0
       go_enter Try.func6, Try.ntmps6
       go_wp2_with (go_at_call 19; refine (AT.out _ (by go_grown)).mono ?_; rintro e w2 ⟨rfl, hw2⟩; have hw2 := hw2.symm; subst hw2)
       refine (C.out _ ?_).mono ?_
       case refine_1 => go_grown
       rintro e w1 ⟨rfl, hb1⟩
       have K0 := (((Blk.new _ _ _).alloc _).to hb1)
       have K1 := ((Blk.new _ _ _).to hb1)
       simp only [World.size_alloc] at K0 K1
       have HK0 := hid K0
       have HK1 := hid K1
       have HB1 := hid (Below.trans (by go_grown) (hb1.mono (by simp; try omega)) : Below w.heap.size w w1)
       have d1 := (HK0.out.2 1 _ rfl).1
       clear hb1 K0 K1
       obtain ⟨q0c, q0f⟩ := HK1.out.2 0 _ rfl
       obtain ⟨q1c, q1f⟩ := HK1.out.2 1 _ rfl
       obtain ⟨q2c, q2f⟩ := HK1.out.2 2 _ rfl
       go_wp2_with (go_at_call 21; refine (ATH.out _ HB1.out).mono ?_; rintro e w2 ⟨rfl, hw2⟩; have hw2 := hw2.symm; subst hw2)
       have RB := ((HK1.out.set 0 (.slice none 0 0)).set 1 (.slice none 0 0)).set 2 (.int .i64 0)
       have f0 := (RB.2 0 _ rfl).1
       have f1 := (RB.2 1 _ rfl).1
       have f2 := (RB.2 2 _ rfl).1
       refine bodyPost_ret (v := .tuple #[.agg #[.slice none 0 0, .slice none 0 0, .int .i64 0], .bool false]) (by simp [results, Try.results6, go_sem, f0, f1, f2]) rfl ?_
       refine postO_none HN.out rfl ?_
       iterate 3 refine Below.setCell ?_ (by simp) _
       exact HB1.out
     · have HN := hid (show lgrX L H q s.data.toList (addHL t.data.toList) = some (updL L k (addHL t.data.toList), H, q) by rw [HE.out, if_pos (Classical.byContradiction fun h => hnh ((idx_neg _ _).2 h))])
       generalize idxL (hnm H) t.data.toList = z at ATH hnh
       replace ATH := hid ATH
       obtain ⟨_, _, _, h8, _, _⟩ := tree_names hz
       have HND := hid (fun (l : Lgr) (hl : l ∈ L) => (tree_nodup hz hl).2)
       have HFT := hid (fun (l : Lgr) (hl : l ∈ L) => ((fit_ok hz).1.2 l hl).2.1.2)
       replace CC := hid (CC.out hz)
       rw [hz] at C
       clear hz hneg hzk HE hl0
       go_enter Try.func6, Try.ntmps6
       go_wp2_with (go_at_call 19; refine (AT.out _ (by go_grown)).mono ?_; rintro e w2 ⟨rfl, hw2⟩; have hw2 := hw2.symm; subst hw2)
       refine (C.out _ ?_).mono ?_
       case refine_1 => go_grown
       rintro e w1 ⟨rfl, hb1⟩
       have K0 := (((Blk.new _ _ _).alloc _).to hb1)
       have K1 := ((Blk.new _ _ _).to hb1)
       simp only [World.size_alloc] at K0 K1
       have HK0 := hid K0
       have HK1 := hid K1
       have HB1 := hid (Below.trans (by go_grown) (hb1.mono (by simp; try omega)) : Below w.heap.size w w1)
       have hsz1 : w.heap.size + 2 ≤ w1.heap.size := by have := hb1.size; simp at this; omega
       have d0 := (HK0.out.2 0 _ rfl).1
       have d1 := (HK0.out.2 1 _ rfl).1
       have d2 := (HK0.out.2 2 _ rfl).1
       clear hb1 K0 K1
       go_wp2_with (go_at_call 21; refine (ATH.out _ HB1.out).mono ?_; rintro e w2 ⟨rfl, hw2⟩; have hw2 := hw2.symm; subst hw2)
       refine (CC.out _ HB1.out).mono ?_
       rintro e w2 ⟨v', rs, rfl, hs, hr, hb2⟩
       obtain ⟨u1, u2, ls2, hs', rfl, h1, h2, rfl⟩ := hs
       have hll : ls2.length = L.length := by rw [← h1]; simp [lsOf]
       obtain ⟨hl, hh⟩ := hr.lsIn
       obtain ⟨A3, c3, rfl, hnc3, hcm3⟩ := hl.1.form
       obtain ⟨A4, c, rfl, hnc, hcm⟩ := hh.1.form
       rw [treeRows_eq] at hr
       have hr0 : Rows w2 w1.heap.size ([] ++ two 48 6 ls2.length (.slice A3 ls2.length c3) lcells lrows ls2 ++ two 59 3 hs'.length (.slice A4 hs'.length c) hcells hrows hs') := by simpa using hr
       obtain ⟨g, rfl, hglt⟩ := own_some hr0.top (by omega)
       have hgl : w1.heap.size ≤ g := (hr0.top.lt g rfl).1
       obtain ⟨x, hx⟩ : ∃ x, ls2[k]? = some x := ⟨_, List.getElem?_eq_getElem (by omega)⟩
       have hlx2 : L[k]? = some x.l := by rw [← h1]; unfold lsOf; rw [List.getElem?_map, hx]; rfl
       have HBA := hid (show Below w2.heap.size w2 (w2.alloc (.cells #[.slice (some ⟨g, 0, none⟩) ls2.length c3, .slice A4 hs'.length c, .int .i64 q] 26)) from (Below.refl _ _).alloc (Nat.le_refl _) _)
       have hRa := hr0.below HBA.out
       have hsz12 : w1.heap.size ≤ w2.heap.size := hb2.size
       have hww1 : w.heap.size ≤ w1.heap.size := HB1.out.size
       have hgo : g ≠ w2.heap.size := by omega
       have HKO := hid (Blk.new w2 #[.slice (some ⟨g, 0, none⟩) ls2.length c3, .slice A4 hs'.length c, .int .i64 q] 26)
       have HK2 := hid ((HK1.out.to hb2).alloc (.cells #[.slice (some ⟨g, 0, none⟩) ls2.length c3, .slice A4 hs'.length c, .int .i64 q] 26))
       have HB2 := hid ((show Below w1.heap.size w1 w2 from hb2).trans (HBA.out.mono hb2.size))
       have HLH := hid (And.intro h1 h2)
       have HX := hid (And.intro hx hlx2)
       have hxn0 := HND.out x.l (List.mem_of_getElem? hlx2)
       have hft := HFT.out x.l (List.mem_of_getElem? hlx2)
       generalize hN : ls2.length = n at *
       have HNn := hid hN
       have t1 : (k : Int) < (n : Int) := by omega
       have t0 : (0 : Int) ≤ (k : Int) := by omega
       have t2 : ((k : Int)).toNat = k := by simp
       have hn8 : n ≤ 8 := by omega
       unfold maxLen at hcm3
       generalize hw3 : w2.alloc (.cells #[.slice (some ⟨g, 0, none⟩) n c3, .slice A4 hs'.length c, .int .i64 q] 26) = w3 at *
       generalize hbo : w2.heap.size = bo at *
       have own6 : w3.ownsRow w1.heap.size 9 1 x.hv x.hn (x.l.hs.map txt) := hRa.sub_ hx (r := ⟨9, 1, x.hn, x.hv, x.l.hs.map txt⟩) (by simp [lrows])
       have o2 := hRa.cell_at (j := 2) lcells_len hx rfl
       have hgx := two_apartA hRa hx
       have hxn : x.hn ≤ 6 := by have := own6.1; simp at this; omega
       have CK := hasText_c x.hv x.hn w3.heap.size x.l.hs t w3 ⟨Sl.of_own own6, hft⟩
       obtain ⟨A6, c6, e6, _, _⟩ := (Sl.of_own own6).form
       have m0 : w3.cell? ⟨g, k * 6 + 2, none⟩ = some (.slice A6 x.hn c6) := by rw [← e6]; exact o2.1
       rw [e6] at CK
       have hgw : g < w3.heap.size := World.block_lt_of_cell? _ _ m0
       have hszr : w1.heap.size ≤ w3.heap.size := HB2.out.size
       have c0 := (HKO.out.2 0 _ rfl).1
       have hbow : bo < w3.heap.size := HKO.out.1
       by_cases hin : t.data.toList ∈ x.l.hs
       · rw [decide_eq_true hin] at CK
         have HA := hid (addHL_in hin)
         have HRa := hid hRa
         replace CK := hid CK
         have b1 := (HKO.out.2 1 _ rfl).1
         have b2 := (HKO.out.2 2 _ rfl).1
         clear hb2 hr hr0 hl hh h1 h2 hll hx hlx2 hN own6 o2 e6 hRa d0 d1 d2 h8 hxn0 hnc hin hft hgx
         obtain ⟨q0c, q0f⟩ := HK2.out.2 0 _ rfl
         obtain ⟨q1c, q1f⟩ := HK2.out.2 1 _ rfl
         obtain ⟨q2c, q2f⟩ := HK2.out.2 2 _ rfl
         go_wp2_with fail
         refine (CK.out).mono ?_
         rintro e w9 ⟨rfl, hw9⟩
         have hw9 := hw9.symm
         subst hw9
         go_wp2_with fail
         have RB := ((HK2.out.set 0 (.slice (some ⟨g, 0, none⟩) n c3)).set 1 (.slice A4 hs'.length c)).set 2 (.int .i64 q)
         have f0 := (RB.2 0 _ rfl).1
         have f1 := (RB.2 1 _ rfl).1
         have f2 := (RB.2 2 _ rfl).1
         refine bodyPost_ret (v := .tuple #[.agg #[.slice (some ⟨g, 0, none⟩) n c3, .slice A4 hs'.length c, .int .i64 q], .bool true]) (by simp [results, Try.results6, go_sem, f0, f1, f2]) rfl ?_
         rw [HN.out]
         refine ⟨_, treeRows ls2.length _ ls2 hs'.length _ hs', rfl, ⟨_, _, ls2, hs', rfl, ?_, HLH.out.2, rfl⟩, ?_, ?_⟩
         · show lsOf ls2 = updL L k _
           rw [HLH.out.1]
           unfold updL
           rw [HX.out.2]
           show L = L.set k (addHL t.data.toList x.l)
           rw [HA.out]
           exact (nm_setA HX.out.2).symm
         · refine Rows.base ?_ hww1
           iterate 3 refine Rows.low ?_ (by omega)
           rw [treeRows_eq, HNn.out]
           simpa using HRa.out
         · iterate 3 refine Below.setCell ?_ (by simp) _
           exact HB1.out.trans (HB2.out.mono hww1)
       · rw [decide_eq_false hin] at CK
         have HA := hid (addHL_out hin)
         replace CK := hid CK
         obtain ⟨i0, hi, hz0, hz1, hz2⟩ := info_parts Try.infoStr
         obtain ⟨v', w4, hrun, ho4, hg4, hloc⟩ := run_app1P (P := Try.prog) w3.drew 37 w1.heap.size 9 i0 _ 1 16 Try.underlying37 hi hz0 hz1 hz2 rfl (by decide) _ x.hn _ own6.drew [.string t] 9 rfl (one_cell rfl) (by unfold maxLen; omega) (by omega) hszr
         rw [e6] at hrun hg4 hloc
         obtain ⟨A7, c7, rfl, _, _⟩ := (Sl.of_own ho4).form
         have hgb : some g ≠ (Value.slice A6 x.hn c6).ownBlock := by rw [← e6]; exact hgx
         have m1 : w4.cell? ⟨g, k * 6 + 2, none⟩ = some (.slice A6 x.hn c6) := (World.cell?_of_block (hg4.block g hgw hgb)).trans m0
         have f1 : w4.frozen? ⟨g, k * 6 + 2, none⟩ = false := (World.frozen?_of_block (hg4.block g hgw hgb)).trans o2.2
         have hHI : ∀ z, (Value.slice A6 x.hn c6).ownBlock = some z → w1.heap.size ≤ z ∧ z < w3.heap.size := fun z hz => (own6.lt z (by rw [e6]; exact hz))
         have hxb : some bo ≠ (Value.slice A6 x.hn c6).ownBlock := fun e => by
           have h9 := hr0.sub_ hx (r := ⟨9, 1, x.hn, x.hv, x.l.hs.map txt⟩) (by simp [lrows])
           have := (h9.lt bo (by show x.hv.ownBlock = some bo; rw [e6]; exact e.symm)).2
           omega
         have hxz : some (w.heap.size + 1) ≠ (Value.slice A6 x.hn c6).ownBlock := fun e => by have := (hHI _ e.symm).1; omega
         have HR4 := hid ((hRa.below ((Below.refl _ _).drew)).rowcell3 (w' := w4) (i := k) (j := 0) (q := 2) (e := 2) (x := x) (y := ⟨addHL t.data.toList x.l, .slice A7 (x.hn + 1) c7, x.hn + 1, x.fv, x.fn⟩)
           (r := ⟨9, 1, x.hn, x.hv, x.l.hs.map txt⟩) (r' := ⟨9, 1, x.hn + 1, .slice A7 (x.hn + 1) c7, x.l.hs.map txt ++ [Value.string t]⟩) (u := .slice A7 (x.hn + 1) c7)
           lcells_len lrows_len hx (by omega) rfl (by show World.grownBy _ _ x.hv.ownBlock; rw [e6]; exact hg4) ho4 (fun z hz => by
             rcases hloc with h0 | h0
             · exact .inl (by show x.hv.ownBlock = some z; rw [e6, ← h0]; exact hz)
             · right
               have h9 : some z = some (w3.drew.heap.size + 1) := hz.symm.trans h0
               have := Option.some.inj h9
               omega) (by omega) (by rw [HA.out]; rfl) (by rw [HA.out]; show [(⟨_, _, _, _, (x.l.hs ++ [t.data.toList]).map txt⟩ : Row), _] = _; rw [List.map_append, List.map_singleton, txt_data]; rfl))
         have HB4 := hid (show Below w1.heap.size w1 w4 from (HB2.out.drew).grown hg4 hszr (fun z hz => (hHI z hz).1))
         have HKo4 := hid (((HKO.out.dr 1).kept hg4 hxb))
         have HKo5 := hid (HKo4.out.apart ⟨g, k * 6 + 2, none⟩ (.slice A7 (x.hn + 1) c7) hgo)
         have HKz4 := hid (((HK2.out.dr 1).kept hg4 hxz).apart ⟨g, k * 6 + 2, none⟩ (.slice A7 (x.hn + 1) c7) (show g ≠ w.heap.size + 1 by omega))
         have HB5 := hid (HB1.out.trans ((HB4.out.setCell (p := ⟨g, k * 6 + 2, none⟩) hgl (.slice A7 (x.hn + 1) c7)).mono hww1))
         have HRun := hid hrun
         clear hb2 hr hr0 hl hh h1 h2 hll hx hlx2 hN own6 o2 e6 hRa d0 d1 d2 h8 hxn0 hnc hin hft hgx hrun ho4 hg4 hloc hgb hHI hxb hxz
         go_wp2_with fail
         refine (CK.out).mono ?_
         rintro e w9 ⟨rfl, hw9⟩
         have hw9 := hw9.symm
         subst hw9
         go_wp2_with fail
         refine wp_region_let 14 (fun w' : World => w'.cell? ⟨bo, 0, none⟩ = some (.slice (some ⟨g, 0, none⟩) n c3)) (fun w' : World => w'.cell? ⟨g, k * 6 + 2, none⟩ = some (.slice A6 x.hn c6)) (by kernel_rfl) c0 m0 (fun hS => ?_)
         refine wpAnyL_take (i := 0) (oi := ?oi156) (v := ?v156) ?hi156 (by kernel_rfl) ?hf156 ?hr156 (by decide) ?hQ156 (Or.inl ⟨?hw156, ?hy156⟩) (⟨hS.1, fun h => hS.2 (by first | rfl | exact h)⟩) ?rest156
         case hi156 => simp only [List.getElem?_toArray, List.getElem?_cons_succ, List.getElem?_cons_zero]; rfl
         case hf156 => kernel_rfl
         case hr156 => kernel_rfl
         case hw156 => rfl
         case hy156 => (intro w hSw; (try dsimp only at hSw); go_simp; all_goals (first | done | with_reducible rfl))
         case hQ156 => exact fun _ _ _ h => h
         simp only [Act.put, List.setIfInBounds_toArray, List.set_cons_zero, List.set_cons_succ]
         refine wpAnyL_take (i := 1) (oi := ?oi157) (v := ?v157) ?hi157 (by kernel_rfl) ?hf157 ?hr157 (by decide) ?hQ157 (Or.inl ⟨?hw157, ?hy157⟩) (⟨hS.1, fun h => hS.2 (by first | rfl | exact h)⟩) ?rest157
         case hi157 => simp only [List.getElem?_toArray, List.getElem?_cons_succ, List.getElem?_cons_zero]; rfl
         case hf157 => kernel_rfl
         case hr157 => kernel_rfl
         case hw157 => rfl
         case hy157 => (intro w hSw; (try dsimp only at hSw); go_simp; all_goals (first | done | with_reducible rfl))
         case hQ157 => exact fun _ _ _ h => h
         simp only [Act.put, List.setIfInBounds_toArray, List.set_cons_zero, List.set_cons_succ]
         refine wpAnyL_take (i := 2) (oi := ?oi158) (v := ?v158) ?hi158 (by kernel_rfl) ?hf158 ?hr158 (by decide) ?hQ158 (Or.inl ⟨?hw158, ?hy158⟩) (⟨hS.1, fun h => hS.2 (by first | rfl | exact h)⟩) ?rest158
         case hi158 => simp only [List.getElem?_toArray, List.getElem?_cons_succ, List.getElem?_cons_zero]; rfl
         case hf158 => kernel_rfl
         case hr158 => kernel_rfl
         case hw158 => rfl
         case hy158 => (intro w hSw; (try dsimp only at hSw); go_simp; all_goals (first | done | with_reducible rfl))
         case hQ158 => exact fun _ _ _ h => h
         simp only [Act.put, List.setIfInBounds_toArray, List.set_cons_zero, List.set_cons_succ]
         refine wpAnyL_take (i := 3) (oi := ?oi159) (v := ?v159) ?hi159 (by kernel_rfl) ?hf159 ?hr159 (by decide) ?hQ159 (Or.inl ⟨?hw159, ?hy159⟩) (⟨hS.1, fun h => hS.2 (by first | rfl | exact h)⟩) ?rest159
         case hi159 => simp only [List.getElem?_toArray, List.getElem?_cons_succ, List.getElem?_cons_zero]; rfl
         case hf159 => kernel_rfl
         case hr159 => kernel_rfl
         case hw159 => rfl
         case hy159 => (intro w hSw; (try dsimp only at hSw); go_simp; all_goals (first | done | with_reducible rfl))
         case hQ159 => exact fun _ _ _ h => h
         simp only [Act.put, List.setIfInBounds_toArray, List.set_cons_zero, List.set_cons_succ]
         refine wpAnyL_take (i := 4) (oi := ?oi160) (v := ?v160) ?hi160 (by kernel_rfl) ?hf160 ?hr160 (by decide) ?hQ160 (Or.inl ⟨?hw160, ?hy160⟩) (⟨hS.1, fun h => hS.2 (by first | rfl | exact h)⟩) ?rest160
         case hi160 => simp only [List.getElem?_toArray, List.getElem?_cons_succ, List.getElem?_cons_zero]; rfl
         case hf160 => kernel_rfl
         case hr160 => kernel_rfl
         case hw160 => rfl
         case hy160 => (intro w hSw; (try dsimp only at hSw); go_simp; all_goals (first | done | with_reducible rfl))
         case hQ160 => exact fun _ _ _ h => h
         simp only [Act.put, List.setIfInBounds_toArray, List.set_cons_zero, List.set_cons_succ]
         refine wpAnyL_take (i := 5) (oi := ?oi161) (v := ?v161) ?hi161 (by kernel_rfl) ?hf161 ?hr161 (by decide) ?hQ161 (Or.inl ⟨?hw161, ?hy161⟩) (⟨hS.1, fun h => hS.2 (by first | rfl | exact h)⟩) ?rest161
         case hi161 => simp only [List.getElem?_toArray, List.getElem?_cons_succ, List.getElem?_cons_zero]; rfl
         case hf161 => kernel_rfl
         case hr161 => kernel_rfl
         case hw161 => rfl
         case hy161 => (intro w hSw; (try dsimp only at hSw); go_simp; all_goals (first | done | with_reducible rfl))
         case hQ161 => exact fun _ _ _ h => h
         simp only [Act.put, List.setIfInBounds_toArray, List.set_cons_zero, List.set_cons_succ]
         refine wpAnyL_take (i := 6) (oi := ?oi162) (v := ?v162) ?hi162 (by kernel_rfl) ?hf162 ?hr162 (by decide) ?hQ162 (Or.inl ⟨?hw162, ?hy162⟩) (⟨hS.1, fun h => hS.2 (by first | rfl | exact h)⟩) ?rest162
         case hi162 => simp only [List.getElem?_toArray, List.getElem?_cons_succ, List.getElem?_cons_zero]; rfl
         case hf162 => kernel_rfl
         case hr162 => kernel_rfl
         case hw162 => rfl
         case hy162 => (intro w hSw; (try dsimp only at hSw); go_simp; all_goals (first | done | with_reducible rfl))
         case hQ162 => exact fun _ _ _ h => h
         simp only [Act.put, List.setIfInBounds_toArray, List.set_cons_zero, List.set_cons_succ]
         refine wpAnyL_take (i := 7) (oi := ?oi163) (v := ?v163) ?hi163 (by kernel_rfl) ?hf163 ?hr163 (by decide) ?hQ163 (Or.inl ⟨?hw163, ?hy163⟩) (⟨hS.1, fun h => hS.2 (by first | rfl | exact h)⟩) ?rest163
         case hi163 => simp only [List.getElem?_toArray, List.getElem?_cons_succ, List.getElem?_cons_zero]; rfl
         case hf163 => kernel_rfl
         case hr163 => kernel_rfl
         case hw163 => rfl
         case hy163 => (intro w hSw; (try dsimp only at hSw); go_simp; all_goals (first | done | with_reducible rfl))
         case hQ163 => exact fun _ _ _ h => h
         simp only [Act.put, List.setIfInBounds_toArray, List.set_cons_zero, List.set_cons_succ]
         refine wpAnyL_take (i := 9) (oi := ?oi164) (v := ?v164) ?hi164 (by kernel_rfl) ?hf164 ?hr164 (by decide) ?hQ164 (Or.inl ⟨?hw164, ?hy164⟩) (⟨hS.1, fun h => hS.2 (by first | rfl | exact h)⟩) ?rest164
         case hi164 => simp only [List.getElem?_toArray, List.getElem?_cons_succ, List.getElem?_cons_zero]; rfl
         case hf164 => kernel_rfl
         case hr164 => kernel_rfl
         case hw164 => rfl
         case hy164 => (intro w hSw; (try dsimp only at hSw); go_simp; all_goals (first | done | with_reducible rfl))
         case hQ164 => exact fun _ _ _ h => h
         simp only [Act.put, List.setIfInBounds_toArray, List.set_cons_zero, List.set_cons_succ]
         refine wpAnyL_take1 (i := 8) (oi := ?oi165) (om := ?om165) (v := ?v165) ?hi165 (by kernel_rfl) ?hf165 ?hr165 (by decide) ?hm165 ?hd165 (by rfl) ?hQ165 (Or.inl ⟨?hw165, ?hy165⟩) (⟨hS.1, fun h => hS.2 (by first | rfl | exact h)⟩) ?rest165
         case hi165 => simp only [List.getElem?_toArray, List.getElem?_cons_succ, List.getElem?_cons_zero]; rfl
         case hm165 => simp only [List.getElem?_toArray, List.getElem?_cons_succ, List.getElem?_cons_zero]; rfl
         case hd165 => kernel_rfl
         case hf165 => kernel_rfl
         case hr165 => kernel_rfl
         case hw165 => rfl
         case hy165 => (intro w hSw; (try dsimp only at hSw); go_simp; all_goals (first | done | with_reducible rfl))
         case hQ165 => exact fun _ _ _ h => h
         simp only [Act.put, List.setIfInBounds_toArray, List.set_cons_zero, List.set_cons_succ]
         refine wpAnyL_ready (rs := [10]) (by kernel_rfl) (by simp) ?_
         refine AllReadyL.cons (o := ?oi166) ?hi166 (fun K hK => ?step166) AllReadyL.nil
         case hi166 => simp only [List.getElem?_toArray, List.getElem?_cons_succ, List.getElem?_cons_zero]; rfl
         rw [if_pos (by rfl)]
         go_simp
         refine hK.out _ _ ⟨(World.cell?_alloc_past _ _ _ hbow).trans c0, fun _ => (World.cell?_alloc_past _ _ _ hgw).trans m0⟩ (fun hS => ?_)
         refine wpAnyL_ready (rs := [11]) (by kernel_rfl) (by simp) ?_
         refine AllReadyL.cons (o := ?oi167) ?hi167 (fun K hK => ?step167) AllReadyL.nil
         case hi167 => simp only [List.getElem?_toArray, List.getElem?_cons_succ, List.getElem?_cons_zero]; rfl
         rw [if_pos (by rfl)]
         refine wp_app rfl (by rfl) (by rfl) HRun.out ?_
         refine hK.out _ _ ⟨(HKo4.out.2 0 _ rfl).1, fun _ => m1⟩ (fun hS => ?_)
         simp only [Act.put, List.setIfInBounds_toArray, List.set_cons_zero, List.set_cons_succ]
         refine wpAnyL_take (i := 12) (oi := ?oi168) (v := ?v168) ?hi168 (by kernel_rfl) ?hf168 ?hr168 (by decide) ?hQ168 (Or.inl ⟨?hw168, ?hy168⟩) (⟨hS.1, fun h => hS.2 (by first | rfl | exact h)⟩) ?rest168
         case hi168 => simp only [List.getElem?_toArray, List.getElem?_cons_succ, List.getElem?_cons_zero]; rfl
         case hf168 => kernel_rfl
         case hr168 => kernel_rfl
         case hw168 => rfl
         case hy168 => (intro w hSw; (try dsimp only at hSw); go_simp; all_goals (first | done | with_reducible rfl))
         case hQ168 => exact fun _ _ _ h => h
         simp only [Act.put, List.setIfInBounds_toArray, List.set_cons_zero, List.set_cons_succ]
         refine wpAnyL_take (i := 13) (oi := ?oi169) (v := ?v169) ?hi169 (by kernel_rfl) ?hf169 ?hr169 (by decide) ?hQ169 (Or.inl ⟨?hw169, ?hy169⟩) (⟨hS.1, fun h => hS.2 (by first | rfl | exact h)⟩) ?rest169
         case hi169 => simp only [List.getElem?_toArray, List.getElem?_cons_succ, List.getElem?_cons_zero]; rfl
         case hf169 => kernel_rfl
         case hr169 => kernel_rfl
         case hw169 => rfl
         case hy169 => (intro w hSw; (try dsimp only at hSw); go_simp; all_goals (first | done | with_reducible rfl))
         case hQ169 => exact fun _ _ _ h => h
         simp only [Act.put, List.setIfInBounds_toArray, List.set_cons_zero, List.set_cons_succ]
         refine wpAnyL_ready (rs := [14]) (by kernel_rfl) (by simp) ?_
         refine AllReadyL.cons (o := ?oi170) ?hi170 (fun K hK => ?step170) AllReadyL.nil
         case hi170 => simp only [List.getElem?_toArray, List.getElem?_cons_succ, List.getElem?_cons_zero]; rfl
         rw [if_pos (by rfl)]
         go_simp
         refine hK.out _ _ ⟨(HKo5.out.2 0 _ rfl).1, fun h => absurd h (by decide)⟩ (fun hS => ?_)
         refine wpAnyL_done (by kernel_rfl) ?_ _
         clear hS m0 m1 f1 c0
         have b0 := (HKo5.out.2 0 _ rfl).1
         have b1 := (HKo5.out.2 1 _ rfl).1
         have b2 := (HKo5.out.2 2 _ rfl).1
         obtain ⟨q0c, q0f⟩ := HKz4.out.2 0 _ rfl
         obtain ⟨q1c, q1f⟩ := HKz4.out.2 1 _ rfl
         obtain ⟨q2c, q2f⟩ := HKz4.out.2 2 _ rfl
         go_wp2_with fail
         have RB := ((HKz4.out.set 0 (.slice (some ⟨g, 0, none⟩) n c3)).set 1 (.slice A4 hs'.length c)).set 2 (.int .i64 q)
         have f0 := (RB.2 0 _ rfl).1
         have f1 := (RB.2 1 _ rfl).1
         have f2 := (RB.2 2 _ rfl).1
         refine bodyPost_ret (v := .tuple #[.agg #[.slice (some ⟨g, 0, none⟩) n c3, .slice A4 hs'.length c, .int .i64 q], .bool true]) (by simp [results, Try.results6, go_sem, f0, f1, f2]) rfl ?_
         rw [HN.out]
         refine ⟨_, treeRows (ls2.set k _).length _ (ls2.set k ⟨addHL t.data.toList x.l, .slice A7 (x.hn + 1) c7, x.hn + 1, x.fv, x.fn⟩) hs'.length _ hs', rfl, ⟨_, _, ls2.set k ⟨addHL t.data.toList x.l, .slice A7 (x.hn + 1) c7, x.hn + 1, x.fv, x.fn⟩, hs', rfl, ?_, HLH.out.2, rfl⟩, ?_, ?_⟩
         · show lsOf _ = updL L k _
           unfold updL
           rw [HX.out.2, ← HLH.out.1]
           unfold lsOf
           rw [List.map_set]
         · refine Rows.base ?_ hww1
           iterate 3 refine Rows.low ?_ (by omega)
           rw [treeRows_eq, List.length_set, HNn.out]
           simpa using HR4.out
         · iterate 3 refine Below.setCell ?_ (by simp) _
           exact HB5.out
end Go.Proofs.Ytjejildgbmkbbaa

/-
  A HANDLER RENAMED, plain: renamed back, and its users. By gen_nameh.py.
-/
namespace Go.Proofs.Ytjejildgbmkbbaa
open Go.RowKit Nm
set_option linter.unusedSimpArgs false
set_option linter.unusedVariables false

theorem name_cases (L : List Lgr) (H : List Hnd) (q : Int) (s t : Name) : nameX L H q s t = none ∨ ∃ k : Nat, treeOk L H q = true ∧ idxL (hnm H) s = (k : Int) ∧ treeOk (renT L s t) (setNm H k t) q = true ∧ nameX L H q s t = some (renT L s t, setNm H k t, q) := by
  by_cases hz : treeOk L H q = true
  · by_cases hn : idxL (hnm H) s < 0
    · left; unfold nameX changedO; rw [if_pos hn]; split <;> rfl
    · obtain ⟨k, hk⟩ : ∃ k : Nat, idxL (hnm H) s = (k : Int) := ⟨_, (Int.toNat_of_nonneg (by omega)).symm⟩
      have e : nameX L H q s t = ifOk (renT L s t) (setNm H k t) q := by
        unfold nameX changedO
        rw [if_neg hn, if_pos hz, hk]
        rfl
      by_cases hy : treeOk (renT L s t) (setNm H k t) q = true
      · right; exact ⟨k, hz, hk, hy, by rw [e]; unfold ifOk; rw [if_pos hy]⟩
      · left; rw [e]; unfold ifOk; rw [if_neg hy]
  · left; unfold nameX changedO; rw [if_neg hz]
theorem hn_nodup {L : List Lgr} {H : List Hnd} {q : Int} (h : treeOk L H q = true) : (hnm H).Nodup := by
  unfold treeOk hndsOk at h
  simp only [Bool.and_eq_true, decide_eq_true_eq, List.all_eq_true] at h
  exact h.2.1.2.1
theorem hs_in {L : List Lgr} {H : List Hnd} {q : Int} (h : treeOk L H q = true) {l : Lgr} (hl : l ∈ L) {x : Name} (hx : x ∈ l.hs) : x ∈ hnm H := by
  unfold treeOk lgrsOk at h
  simp only [Bool.and_eq_true, decide_eq_true_eq, List.all_eq_true] at h
  have h1 := h.2.2.1 l hl
  unfold lgrOk at h1
  simp only [Bool.and_eq_true, decide_eq_true_eq, List.all_eq_true] at h1
  have h3 := h1.2.2.2.1 x hx
  unfold hasL at h3
  obtain ⟨y, hy, e⟩ := List.any_eq_true.1 h3
  exact List.mem_map.2 ⟨y, hy, of_decide_eq_true e⟩
theorem set_sameN {α : Type} {l : List α} {k : Nat} {x : α} (h : l[k]? = some x) : l.set k x = l := by
  refine List.ext_getElem? fun i => ?_
  by_cases hi : i = k
  · subst hi; rw [List.getElem?_set_self (List.getElem?_eq_some_iff.1 h).1, h]
  · rw [List.getElem?_set_ne (fun e => hi e.symm)]
theorem hnm_set {H : List Hnd} {k : Nat} (hk : k < H.length) (t : Name) : hnm (setNm H k t) = (hnm H).set k t := by
  unfold setNm hnm
  rw [List.getElem?_eq_getElem hk]
  show (H.set k _).map _ = _
  rw [List.map_set]
theorem idx_nodup {ns : List Name} (hn : ns.Nodup) {k : Nat} {x : Name} (h : ns[k]? = some x) : idxL ns x = (k : Int) := by
  refine idx_hit ns x k h fun hm => ?_
  obtain ⟨j, hj⟩ := List.getElem?_of_mem hm
  have hjl := (List.getElem?_eq_some_iff.1 hj).1
  rw [List.length_take] at hjl
  rw [List.getElem?_take_of_lt (by omega)] at hj
  have hk := (List.getElem?_eq_some_iff.1 h).1
  have := nodup_at hn (i := j) (j := k) (by omega) hk (by simp [List.getD, hj, h])
  omega
theorem name_other {L : List Lgr} {H : List Hnd} {q : Int} {s t : Name} {k : Nat} (hk : idxL (hnm H) s = (k : Int)) (h' : treeOk (renT L s t) (setNm H k t) q = true) (hne : t ≠ s) : t ∉ hnm H := by
  obtain ⟨hkl, hks⟩ := idx_nat hk
  have hkH : k < H.length := by unfold hnm at hkl; rwa [List.length_map] at hkl
  have hnd := hn_nodup h'
  rw [hnm_set hkH] at hnd
  intro hm
  obtain ⟨j, hj⟩ := List.getElem?_of_mem hm
  have hjl := (List.getElem?_eq_some_iff.1 hj).1
  have hjk : j ≠ k := fun e => by subst e; rw [hj] at hks; exact hne (Option.some.inj hks)
  have e1 : ((hnm H).set k t)[j]? = some t := by rw [List.getElem?_set_ne (fun e => hjk e.symm)]; exact hj
  have e2 : ((hnm H).set k t)[k]? = some t := List.getElem?_set_self hkl
  exact hjk (nodup_at hnd (i := j) (j := k) (by rw [List.length_set]; exact hjl) (by rw [List.length_set]; exact hkl) (by simp only [List.getD, e1, e2]))
theorem ren_back {L : List Lgr} {H : List Hnd} {q : Int} {s t : Name} {k : Nat} (h : treeOk L H q = true) (hk : idxL (hnm H) s = (k : Int)) (h' : treeOk (renT L s t) (setNm H k t) q = true) : renT (renT L s t) t s = L := by
  unfold renT
  rw [List.map_map]
  refine (List.map_congr_left fun l hl => ?_).trans (List.map_id L)
  show renL t s (renL s t l) = l
  unfold renL
  have e : (l.hs.map (renS s t)).map (renS t s) = l.hs := by
    rw [List.map_map]
    refine (List.map_congr_left fun x hx => ?_).trans (List.map_id l.hs)
    show renS t s (renS s t x) = x
    by_cases hxs : x = s
    · unfold renS; rw [if_pos hxs, if_pos rfl, hxs]
    · have hxt : x ≠ t := fun e2 => by
        by_cases e3 : t = s
        · exact hxs (e2.trans e3)
        · exact name_other hk h' e3 (e2 ▸ hs_in h hl hx)
      unfold renS; rw [if_neg hxs, if_neg hxt]
  simp only [e]
theorem name_back {L : List Lgr} {H : List Hnd} {q : Int} {s t : Name} {k : Nat} (h : treeOk L H q = true) (hk : idxL (hnm H) s = (k : Int)) (h' : treeOk (renT L s t) (setNm H k t) q = true) : nameX (renT L s t) (setNm H k t) q t s = some (L, H, q) := by
  obtain ⟨hkl, hks⟩ := idx_nat hk
  have hkH : k < H.length := by unfold hnm at hkl; rwa [List.length_map] at hkl
  have e1 : (hnm (setNm H k t))[k]? = some t := by rw [hnm_set hkH]; exact List.getElem?_set_self hkl
  have e2 := idx_nodup (hn_nodup h') e1
  have e3 : setNm (setNm H k t) k s = H := by
    obtain ⟨x, hx⟩ : ∃ x, H[k]? = some x := ⟨_, List.getElem?_eq_getElem hkH⟩
    have hxn : x.nm = s := by unfold hnm at hks; rw [List.getElem?_map, hx] at hks; exact Option.some.inj hks
    have e4 : setNm H k t = H.set k { x with nm := t } := by unfold setNm; rw [hx]
    rw [e4]
    unfold setNm
    rw [List.getElem?_set_self hkH]
    show (H.set k _).set k _ = H
    rw [List.set_set]
    refine set_sameN ?_
    rw [hx, ← hxn]
  unfold nameX changedO
  rw [if_pos h', e2, if_neg (show ¬ ((k : Int) < 0) by omega)]
  show ifOk (renT (renT L s t) t s) (setNm (setNm H k t) (k : Int).toNat s) q = _
  rw [Int.toNat_natCast, e3, ren_back h hk h']
  unfold ifOk
  rw [if_pos h]
theorem name_users {L : List Lgr} {H : List Hnd} {q : Int} {s t : Name} {k : Nat} (h : treeOk L H q = true) (hk : idxL (hnm H) s = (k : Int)) (h' : treeOk (renT L s t) (setNm H k t) q = true) : usersT (renT L s t) (setNm H k t) q t = usersT L H q s := by
  unfold usersT
  rw [h, h', if_pos rfl, if_pos rfl, usersN_eq, usersN_eq]
  unfold renT
  rw [List.filter_map, List.map_map]
  have e : L.filter ((fun l => decide (t ∈ l.hs)) ∘ renL s t) = L.filter (fun l => decide (s ∈ l.hs)) := by
    refine List.filter_congr fun l hl => ?_
    show decide (t ∈ l.hs.map (renS s t)) = decide (s ∈ l.hs)
    refine decide_eq_decide.2 ⟨fun hm => ?_, fun hm => List.mem_map.2 ⟨s, hm, by unfold renS; rw [if_pos rfl]⟩⟩
    obtain ⟨x, hx, e⟩ := List.mem_map.1 hm
    by_cases hxs : x = s
    · rw [← hxs]; exact hx
    · unfold renS at e
      rw [if_neg hxs] at e
      by_cases e3 : t = s
      · exact absurd (e.trans e3) hxs
      · exact absurd (e ▸ hs_in h hl hx) (name_other hk h' e3)
  rw [e]
  rfl
end Go.Proofs.Ytjejildgbmkbbaa

/-
  A HANDLER DETACHED, plain: attached again, and the users. By gen_dethd.py.
-/
namespace Go.Proofs.Ytjejildgbmkbbaa
open Go.RowKit Nm
set_option linter.unusedSimpArgs false
set_option linter.unusedVariables false

theorem det_cases (L : List Lgr) (H : List Hnd) (q : Int) (s t : Name) : detX L H q s t = none ∨ ∃ (k : Nat) (l : Lgr), treeOk L H q = true ∧ L[k]? = some l ∧ l.nm = s ∧ t ∈ l.hs ∧ detX L H q s t = some (updL L k (woL t), H, q) := by
  by_cases hz : treeOk L H q = true
  · by_cases hn : idxL (namesOf L) s < 0
    · exact .inl (det_noname t hz hn)
    · obtain ⟨k, hk⟩ : ∃ k : Nat, idxL (namesOf L) s = (k : Int) := ⟨_, (Int.toNat_of_nonneg (by omega)).symm⟩
      obtain ⟨_, hx⟩ := idx_nat hk
      unfold namesOf at hx
      rw [List.getElem?_map] at hx
      cases hl : L[k]? with
      | none => rw [hl] at hx; cases hx
      | some l =>
        rw [hl] at hx
        have h9 := det_at (t := t) hz hk hl
        by_cases ht : t ∈ l.hs
        · rw [if_pos ht] at h9; exact .inr ⟨k, l, hz, hl, Option.some.inj hx, ht, h9⟩
        · rw [if_neg ht] at h9; exact .inl h9
  · exact .inl (det_bad s t (by simpa using hz))
theorem updT {L : List Lgr} {k : Nat} {l : Lgr} (f : Lgr → Lgr) (hl : L[k]? = some l) : updL L k f = L.set k (f l) := by unfold updL; rw [hl]
theorem filt_set {p : Lgr → Bool} {L : List Lgr} {k : Nat} {l l2 : Lgr} (hl : L[k]? = some l) (hn : l2.nm = l.nm) (hp : p l2 = p l) : ((L.set k l2).filter p).map (·.nm) = (L.filter p).map (·.nm) := by
  induction L generalizing k with
  | nil => simp at hl
  | cons a L ih =>
    cases k with
    | zero =>
      obtain rfl : a = l := by simpa using hl
      rw [List.set_cons_zero, List.filter_cons, List.filter_cons, hp]
      split
      · rw [List.map_cons, List.map_cons, hn]
      · rfl
    | succ k =>
      have h := ih (k := k) (by simpa using hl)
      rw [List.set_cons_succ, List.filter_cons, List.filter_cons]
      split
      · rw [List.map_cons, List.map_cons, h]
      · exact h
theorem filt_less {p : Lgr → Bool} {L : List Lgr} {k : Nat} {l l2 : Lgr} (hl : L[k]? = some l) (h1 : p l = true) (h2 : p l2 = false) : ((L.set k l2).filter p).length + 1 = (L.filter p).length := by
  induction L generalizing k with
  | nil => simp at hl
  | cons a L ih =>
    cases k with
    | zero =>
      obtain rfl : a = l := by simpa using hl
      rw [List.set_cons_zero, List.filter_cons, List.filter_cons, h1, h2]
      simp
    | succ k =>
      have h := ih (k := k) (by simpa using hl)
      rw [List.set_cons_succ, List.filter_cons, List.filter_cons]
      split
      · rw [List.length_cons, List.length_cons, h]
      · exact h
theorem det_facts {L : List Lgr} {H : List Hnd} {q : Int} {s t : Name} {k : Nat} {l : Lgr} (h : treeOk L H q = true) (hl : L[k]? = some l) (hn : l.nm = s) (ht : t ∈ l.hs) :
    lgrX (updL L k (woL t)) H q s (addHL t) = some (updL (updL L k (woL t)) k (addHL t), H, q) ∧ usersT (updL (updL L k (woL t)) k (addHL t)) H q t = usersT L H q t ∧ (usersT (updL L k (woL t)) H q t).length + 1 = (usersT L H q t).length := by
  have h' := wo_ok k t h
  have hk := (List.getElem?_eq_some_iff.1 hl).1
  have e1 := updT (woL t) hl
  have hl' : (updL L k (woL t))[k]? = some (woL t l) := by rw [e1]; exact List.getElem?_set_self hk
  have hH : t ∈ hnm H := hs_in h (List.mem_of_getElem? hl) ht
  have hix : idxL (namesOf (updL L k (woL t))) s = (k : Int) := by
    have h9 := tree_idx h' hl'
    rw [show (woL t l).nm = s from hn] at h9
    exact h9
  have h2 := addH_ok t h' hl'
  rw [decide_eq_true hH] at h2
  have e2 := updT (addHL t) hl'
  refine ⟨by rw [att_at h' hix hl', if_pos hH], ?_, ?_⟩
  · unfold usersT
    rw [h, h2, if_pos rfl, if_pos rfl, usersN_eq, usersN_eq, e2, e1, List.set_set]
    refine filt_set hl ?_ ?_
    · rw [addHL_nm]; rfl
    · show decide (t ∈ (addHL t (woL t l)).hs) = decide (t ∈ l.hs)
      rw [decide_eq_true ht]
      refine decide_eq_true ?_
      unfold addHL
      split
      · rename_i hm; exact hm
      · simp
  · unfold usersT
    rw [h, h', if_pos rfl, if_pos rfl, usersN_eq, usersN_eq, e1, List.length_map, List.length_map]
    exact filt_less hl (decide_eq_true ht) (decide_eq_false (by simp [woL, notS]))
end Go.Proofs.Ytjejildgbmkbbaa

/-
  A HANDLER ATTACHED, plain: its spot, and detached again. By gen_attd.py.
-/
namespace Go.Proofs.Ytjejildgbmkbbaa
open Go.RowKit Nm
set_option linter.unusedSimpArgs false
set_option linter.unusedVariables false

theorem att_cases (L : List Lgr) (H : List Hnd) (q : Int) (s t : Name) : lgrX L H q s (addHL t) = none ∨ ∃ (k : Nat) (l : Lgr), treeOk L H q = true ∧ L[k]? = some l ∧ l.nm = s ∧ t ∈ hnm H ∧ lgrX L H q s (addHL t) = some (updL L k (addHL t), H, q) := by
  by_cases hz : treeOk L H q = true
  · by_cases hn : idxL (namesOf L) s < 0
    · exact .inl (att_noname _ hn)
    · obtain ⟨k, hk⟩ : ∃ k : Nat, idxL (namesOf L) s = (k : Int) := ⟨_, (Int.toNat_of_nonneg (by omega)).symm⟩
      obtain ⟨_, hx⟩ := idx_nat hk
      unfold namesOf at hx
      rw [List.getElem?_map] at hx
      cases hl : L[k]? with
      | none => rw [hl] at hx; cases hx
      | some l =>
        rw [hl] at hx
        have h9 := att_at (t := t) hz hk hl
        by_cases ht : t ∈ hnm H
        · rw [if_pos ht] at h9; exact .inr ⟨k, l, hz, hl, Option.some.inj hx, ht, h9⟩
        · rw [if_neg ht] at h9; exact .inl h9
  · exact .inl (att_bad s _ (by simpa using hz))
theorem addHL_mem (t : Name) (l : Lgr) : t ∈ (addHL t l).hs := by
  unfold addHL
  split
  · rename_i h; exact h
  · simp
theorem addHL_old {t : Name} {l : Lgr} (h : t ∈ l.hs) : addHL t l = l := by unfold addHL; rw [if_pos h]
theorem woL_add {t : Name} {l : Lgr} (h : t ∉ l.hs) : woL t (addHL t l) = l := by
  unfold addHL
  rw [if_neg h]
  unfold woL
  have e : (l.hs ++ [t]).filter (notS t) = l.hs := by
    rw [List.filter_append, filt_none h]
    simp [notS]
  simp only [e]
theorem path_head (ns : List Name) (k : Nat) : ∃ r, pathF ns 4 k = k :: r := by
  show ∃ r, (if ns.getD k [] = [] then [k] else k :: pathF ns 3 (upN ns k)) = k :: r
  split
  · exact ⟨_, rfl⟩
  · exact ⟨_, rfl⟩
theorem att_facts {L : List Lgr} {H : List Hnd} {q : Int} {s t : Name} {k : Nat} {l : Lgr} (h : treeOk L H q = true) (hl : L[k]? = some l) (hn : l.nm = s) (ht : t ∈ hnm H) :
    treeOk (updL L k (addHL t)) H q = true ∧ (⟨s, t⟩ : Spt) ∈ spotsT (updL L k (addHL t)) H q s ∧ (detX (updL L k (addHL t)) H q s t = some (updL (updL L k (addHL t)) k (woL t), H, q)) ∧
    (t ∈ l.hs → updL L k (addHL t) = L) ∧ (t ∉ l.hs → updL (updL L k (addHL t)) k (woL t) = L) ∧ decide (s ∈ usersT L H q t) = decide (t ∈ l.hs) := by
  have hk := (List.getElem?_eq_some_iff.1 hl).1
  have e1 := updT (addHL t) hl
  have hl' : (updL L k (addHL t))[k]? = some (addHL t l) := by rw [e1]; exact List.getElem?_set_self hk
  have h2 := addH_ok t h hl
  rw [decide_eq_true ht] at h2
  have hnm' : (addHL t l).nm = s := (addHL_nm t l).trans hn
  have hix : idxL (namesOf (updL L k (addHL t))) s = (k : Int) := by
    have h9 := tree_idx h2 hl'
    rw [hnm'] at h9
    exact h9
  have e2 := updT (woL t) hl'
  refine ⟨h2, ?_, ?_, fun hm => ?_, fun hm => ?_, ?_⟩
  · obtain ⟨h0, hnd, hnms, hlen, _, _⟩ := tree_ns h2
    have hq : (nsOf (updL L k (addHL t)))[k]? = some s := by unfold nsOf; rw [List.getElem?_map, hl']; simp [hnm']
    have hok : nameOk s = true := hnms _ (List.mem_of_getElem? hq)
    unfold spotsT
    rw [h2, hok]
    obtain ⟨r, hr⟩ := path_head (nsOf (updL L k (addHL t))) k
    have hp : pathN (nsOf (updL L k (addHL t))) s = k :: r := by unfold pathN; rw [near_hit h0 hnd s k hq]; exact hr
    rw [hp]
    show _ ∈ ownS _ k ++ _
    refine List.mem_append.2 (.inl ?_)
    unfold ownS
    refine List.mem_map.2 ⟨t, ?_, ?_⟩
    · unfold hsAt
      rw [List.getD_eq_getElem?_getD, List.getElem?_map, hl']
      exact addHL_mem t l
    · have g : (nsOf (updL L k (addHL t))).getD k [] = s := by simp [List.getD, hq]
      rw [g]
  · have h9 := det_at (t := t) h2 hix hl'
    rw [if_pos (addHL_mem t l)] at h9
    exact h9
  · rw [e1, addHL_old hm]; exact set_sameN hl
  · rw [e2, woL_add hm, e1, List.set_set]; exact set_sameN hl
  · refine decide_eq_decide.2 ?_
    rw [usersT_iff h]
    refine ⟨fun ⟨l', hl2, ht2, e⟩ => ?_, fun ht2 => ⟨l, List.mem_of_getElem? hl, ht2, hn⟩⟩
    obtain ⟨j, hj⟩ := List.getElem?_of_mem hl2
    have hjl := (List.getElem?_eq_some_iff.1 hj).1
    have hjk : j = k := nodup_at (names_nodup h) (by unfold namesOf; rw [List.length_map]; exact hjl) (by unfold namesOf; rw [List.length_map]; exact hk) (by unfold namesOf; simp [List.getD, hj, hl, e, hn])
    subst hjk
    rw [hl] at hj
    rw [Option.some.inj hj]; exact ht2
end Go.Proofs.Ytjejildgbmkbbaa
