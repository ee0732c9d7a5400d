/-
  LOGGERS WITH NOTHING DROPPED: DropPlain of the program and of the model. By gen_dp3.py.
-/
import Derived.Test.YtioegkcekbkblaaGreatZxDP2
namespace Go.Proofs.YtioegkcekbkblaaGreat
open Go.RowKit Nm
set_option linter.unusedSimpArgs false
set_option linter.unusedVariables false

theorem post_noneP {w w' : World} {e : Ending} {L : List Lgr} {H : List Hnd} {q : Int} (hL : L = []) (hH : H = []) (hq : q = 0) (he : e = .returned (.agg #[.slice none 0 0, .slice none 0 0, .int .i64 0])) (hb : Below w.heap.size w w') : TreePost w L H q e w' := by
  subst hL hH hq
  exact ⟨_, _, he, ⟨_, _, [], [], rfl, rfl, rfl, rfl⟩, Rows.none2 _ _, hb⟩
theorem lsOf_filt (ls : List LgrV) : lsOf (ls.filter keepV) = (lsOf ls).filter keepL := by
  unfold lsOf
  rw [List.filter_map]
  rfl
theorem rows_lform {w : World} {lo n1 n2 : Nat} {v1 v2 : Value} {ls : List LgrV} {hs : List HndV} (h : Rows w lo (treeRows n1 v1 ls n2 v2 hs)) : ∀ x ∈ ls, LForm x := by
  obtain ⟨hl, _⟩ := h.lsIn
  intro x hx
  obtain ⟨a, b⟩ := hl.2 x hx
  have ea := a.1
  have eb := b.1
  obtain ⟨A, c, e, _⟩ := a.form
  obtain ⟨A', c', e', _⟩ := b.form
  have ha : x.hn = x.l.hs.length := by simpa using ea.symm
  have hb : x.fn = x.l.fs.length := by rw [fsCells_len] at eb; omega
  exact ⟨A, c, A', c', by rw [e, ha], by rw [e', hb]⟩
theorem tree_filt {W W' : World} {lo n m : Nat} {v1 v1' v2 : Value} {ls : List LgrV} {hs : List HndV} (hn : n = ls.length) (hm : m = (ls.filter keepV).length) (hr : Rows W lo (treeRows n v1 ls hs.length v2 hs))
    (ho : W'.ownsRow lo 72 6 v1' m ((ls.filter keepV).flatMap lcells)) (hg : W.grownBy W' v1.ownBlock) (hv : v1'.ownBlock = v1.ownBlock) :
    Rows W' lo (treeRows (ls.filter keepV).length v1' (ls.filter keepV) hs.length v2 hs) ∧ ∀ b, (∀ r ∈ treeRows n v1 ls hs.length v2 hs, r.v.ownBlock ≠ some b) → ∀ r ∈ treeRows (ls.filter keepV).length v1' (ls.filter keepV) hs.length v2 hs, r.v.ownBlock ≠ some b := by
  subst hn hm
  have h0 : Rows W lo ([] ++ ⟨72, 6, ls.length, v1, ls.flatMap lcells⟩ :: (ls.flatMap lrows ++ two 47 3 hs.length v2 hcells hrows hs)) := by
    rw [treeRows_eq] at hr
    simpa [two] using hr
  have h1 := Rows.app h0 hg ho (.inl hv)
  have ht : treeRows (ls.filter keepV).length v1' (ls.filter keepV) hs.length v2 hs = ⟨72, 6, (ls.filter keepV).length, v1', (ls.filter keepV).flatMap lcells⟩ :: ((ls.filter keepV).flatMap lrows ++ two 47 3 hs.length v2 hcells hrows hs) := by
    rw [treeRows_eq, two]; simp
  have hsub : ((ls.filter keepV).flatMap lrows).Sublist (ls.flatMap lrows) := sub_flatM List.filter_sublist
  rw [ht]
  refine ⟨h1.sub (List.Sublist.cons_cons _ (hsub.append (List.Sublist.refl _))), fun b hb r hr' => ?_⟩
  rw [treeRows_eq] at hb
  rcases List.mem_cons.1 hr' with rfl | hr'
  · show v1'.ownBlock ≠ _
    rw [hv]
    exact hb ⟨72, 6, ls.length, v1, ls.flatMap lcells⟩ (by simp [two])
  · rcases List.mem_append.1 hr' with hr' | hr'
    · exact hb r (List.mem_append.2 (.inl (by simp only [two, List.mem_cons]; exact .inr (hsub.subset hr'))))
    · exact hb r (List.mem_append.2 (.inr hr'))

set_option maxHeartbeats 8000000 in
set_option maxRecDepth 100000 in
theorem dropPClo_c {w : World} {L : List Lgr} {H : List Hnd} {q : Int} (hok : treeOk L H q = true)
    (W : World) (lo bc : Nat) (v1 v2 : Value) (rs : List Row) (hp : CloPre w lo bc W v1 v2 rs L H q) :
    Calls Tryz.prog 76 #[.pointer (some ⟨bc, 0, none⟩)] W (CloPost lo bc W (some (L.filter keepL, H, q))) := by
  obtain ⟨hb, hlo, hbc, hkb, hs, hr, hap, hd⟩ := hp
  obtain ⟨_, _, _, h8, h1l, _⟩ := tree_names hok
  have HD := hid (sub_fit hd (List.filter_sublist (p := keepL) (l := L)) (List.Sublist.refl H))
  obtain ⟨u1, u2, ls, hs', e, h1, h2, h3⟩ := hs
  have e' : v1 = u1 ∧ v2 = u2 := by simpa using e
  obtain ⟨rfl, rfl⟩ := e'
  subst h3
  have hll : ls.length = L.length := by rw [← h1]; simp [lsOf]
  obtain ⟨hl, hh⟩ := hr.lsIn
  obtain ⟨A, c, rfl, hnc, hcm⟩ := hl.1.form
  obtain ⟨A4, c4, rfl, _, _⟩ := hh.1.form
  have hown : W.ownsRow lo 72 6 (.slice A ls.length c) ls.length (ls.flatMap lcells) := hr.1 ⟨72, 6, ls.length, .slice A ls.length c, ls.flatMap lcells⟩ (by rw [treeRows_eq]; simp [two])
  obtain ⟨g, rfl, hglt⟩ := own_some hown (by omega)
  have hgl : lo ≤ g := (hown.lt g rfl).1
  have hgb : g ≠ bc := fun e => hap ⟨72, 6, ls.length, .slice (some ⟨g, 0, none⟩) ls.length c, ls.flatMap lcells⟩ (by rw [treeRows_eq]; simp [two]) (by rw [← e]; rfl)
  have CD := hid (deleteLgrFn_c hown rfl (by omega) (rows_lform hr))
  have HR := hid hr
  have HAP := hid hap
  have HKB := hid hkb
  have HL := hid (And.intro h1 h2)
  have HLO := hid (And.intro hlo hbc)
  have HLw := hid (show lo ≤ W.heap.size by have := hkb.1; omega)
  have d0 := (HKB.out.2 0 _ rfl).1
  clear hl hh hr hap hkb hd h1 h2 e hb hok hll h8 hown hlo hbc h1l
  go_enter Tryz.func76, Tryz.ntmps76
  go_wp2_with fail
  refine (CD.out).mono ?_
  rintro e w1 ⟨m, rfl, hm, ho1, hg1⟩
  have HK1 := hid (HKB.out.kept hg1 (show some bc ≠ some g from fun e => hgb (Option.some.inj e).symm))
  obtain ⟨hR1, hoff⟩ := tree_filt rfl hm HR.out ho1 hg1 rfl
  have HR1 := hid (hR1.off (j := 0) (u := .slice (some ⟨g, 0, none⟩) m c) (hoff bc HAP.out))
  have HB1 := hid (show Below lo W w1 from (Below.refl lo W).grown hg1 HLw.out (fun z hz => by obtain rfl := Option.some.inj hz; exact hgl))
  have HM := hid hm
  have o9 := (HK1.out.2 0 _ rfl).1
  have o9f := (HK1.out.2 0 _ rfl).2
  clear d0 ho1 hg1 hR1 hoff hm
  have hlob := HLO.out.2
  go_wp2_with fail
  go_ret
  refine ⟨HB1.out.setCell hlob _, rfl, fun x hx => ?_⟩
  obtain rfl := Option.some.inj hx
  refine ⟨_, _, _, _, _, _, _, HK1.out.set 0 _, ⟨_, _, ls.filter keepV, hs', rfl, by rw [lsOf_filt, HL.out.1], HL.out.2, rfl⟩, ?_, HD.out⟩
  exact HR1.out

set_option maxHeartbeats 8000000 in
set_option maxRecDepth 100000 in
theorem implDropPlain_c {w : World} {B : Nat} {v : Value} {L : List Lgr} {H : List Hnd} {q : Int} (h : TreeIn w B v L H q) (hB : B ≤ w.heap.size) :
    Calls Tryz.prog 34 #[v] w (TreePost w (resL (dropPX L H q)) (resH (dropPX L H q)) (resQ (dropPX L H q))) := by
  obtain ⟨A1, n1, k1, A2, n2, k2, rfl⟩ := h.form
  have HW := hid (show Below w.heap.size w ((w.alloc (.cells #[.slice A1 n1 k1, .slice A2 n2 k2, .int .i64 q] 26)).alloc (.cells #[.slice none 0 0, .slice none 0 0, .int .i64 0] 26)) from ((Below.refl _ _).alloc (Nat.le_refl _) _).alloc (by simp) _)
  have KB := hid ((Blk.new w #[.slice A1 n1 k1, .slice A2 n2 k2, .int .i64 q] 26).alloc (.cells #[.slice none 0 0, .slice none 0 0, .int .i64 0] 26))
  have KR := hid (Blk.new (w.alloc (.cells #[.slice A1 n1 k1, .slice A2 n2 k2, .int .i64 q] 26)) #[.slice none 0 0, .slice none 0 0, .int .i64 0] 26)
  simp only [World.size_alloc] at KR
  have hsz3 : ((w.alloc (.cells #[.slice A1 n1 k1, .slice A2 n2 k2, .int .i64 q] 26)).alloc (.cells #[.slice none 0 0, .slice none 0 0, .int .i64 0] 26)).heap.size = w.heap.size + 2 := by simp
  have hmf : ∀ (fn : Fn) (first cap : Array Value) (w : World), (Instr.makeFunc fn first cap).run Tryz.prog w = .ok (.func fn first cap) w := fun _ _ _ _ => rfl
  have CQ := hid (implChanged0_c 76 (some (L.filter keepL, H, q)) (h.below HW.out hB) (Nat.le_trans hB HW.out.size) (fun args w => enters rfl (by kernel_rfl) rfl args w)
      (fun W lo bc v1 v2 rs hok hp => dropPClo_c hok W lo bc v1 v2 rs hp))
  have HX := hid (show dropPX L H q = changedO L H q (some (L.filter keepL, H, q)) from rfl)
  generalize dropPX L H q = X at *
  clear h
  have d0 := (KB.out.2 0 _ rfl).1
  have d1 := (KB.out.2 1 _ rfl).1
  have d2 := (KB.out.2 2 _ rfl).1
  go_enter Tryz.func34, Tryz.ntmps34
  go_wp2_with fail
  refine (CQ.out).mono ?_
  rintro e w5 ⟨v', rs, rfl, hs, hr, hb5⟩
  rw [← HX.out] at hs
  obtain ⟨u1, u2, ls, hs', rfl, hL, hH, rfl⟩ := hs
  have HB5 := hid (HW.out.trans (hb5.mono HW.out.size))
  have HS5 := hid (show TreeS (treeRows ls.length u1 ls hs'.length u2 hs') (.agg #[u1, u2, .int .i64 (resQ X)]) (resL X) (resH X) (resQ X) from ⟨u1, u2, ls, hs', rfl, hL, hH, rfl⟩)
  obtain ⟨hl, hh⟩ := hr.lsIn
  obtain ⟨A3, c3, rfl, _, _⟩ := hl.1.form
  obtain ⟨A4, c4, rfl, _, _⟩ := hh.1.form
  have HR5 := hid hr
  have KR5 := hid ((KR.out.to hb5).alloc (.cells #[.slice A3 ls.length c3, .slice A4 hs'.length c4, .int .i64 (resQ X)] 26))
  have HBa := hid (show Below w5.heap.size w5 (w5.alloc (.cells #[.slice A3 ls.length c3, .slice A4 hs'.length c4, .int .i64 (resQ X)] 26)) from (Below.refl _ _).alloc (Nat.le_refl _) _)
  generalize hq0 : resQ X = q0 at *
  generalize hi0 : (changedO L H q (some (L.filter keepL, H, q))).isSome = i0 at *
  clear hq0 hi0 hb5 hr hl hh hL hH d0 d1 d2
  obtain ⟨q0c, q0f⟩ := KR5.out.2 0 _ rfl
  obtain ⟨q1c, q1f⟩ := KR5.out.2 1 _ rfl
  obtain ⟨q2c, q2f⟩ := KR5.out.2 2 _ rfl
  go_wp2_with fail
  have RB := ((KR5.out.set 0 (.slice A3 ls.length c3)).set 1 (.slice A4 hs'.length c4)).set 2 (.int .i64 q0)
  have f0 := (RB.2 0 _ rfl).1
  have f1 := (RB.2 1 _ rfl).1
  have f2 := (RB.2 2 _ rfl).1
  refine bodyPost_ret (v := .agg #[.slice A3 ls.length c3, .slice A4 hs'.length c4, .int .i64 q0]) (by simp [results, Tryz.results34, go_sem, f0, f1, f2]) rfl ?_
  refine ⟨_, _, rfl, HS5.out, ?_, ?_⟩
  · refine Rows.base ?_ (show w.heap.size ≤ _ from HW.out.size)
    iterate 3 refine Rows.low ?_ (by omega)
    exact HR5.out.below HBa.out
  · iterate 3 refine Below.setCell ?_ (by simp; try omega) _
    exact HB5.out.trans (HBa.out.mono HB5.out.size)

theorem run_keep (W : World) {lo n c : Nat} {A : Option Addr} {xs : List Value} {a0 a1 a2 a3 a4 a5 : Value} (htop : W.ownsRow lo 72 6 (.slice A n c) n xs) (h1 : ∀ u ∈ [a0, a1, a2, a3, a4, a5], Value.oneCell' u = true) (h8 : n ≤ 64) (hlo : lo ≤ W.heap.size) :
    ∃ A5 c5 W', (Builtin.append_ #[23, 23] 23 #[.slice A n c, .slice (some ⟨W.heap.size, 0, none⟩) 1 1]).run Tryz.prog (W.alloc (.cells #[a0, a1, a2, a3, a4, a5] 72)) = .ok (.slice A5 (n + 1) c5) W' ∧
      W'.ownsRow lo 72 6 (.slice A5 (n + 1) c5) (n + 1) (xs ++ [a0, a1, a2, a3, a4, a5]) ∧ W.grownBy W' (Value.slice A n c).ownBlock ∧ ((Value.slice A5 (n + 1) c5).ownBlock = (Value.slice A n c).ownBlock ∨ (Value.slice A5 (n + 1) c5).ownBlock = some (W.heap.size + 1)) := by
  obtain ⟨iL, hLi, hLz0, hLz1, hLz2⟩ := info_parts Tryz.infoLogger
  obtain ⟨v5, w4, hrun, ho4, hg4, hloc⟩ := run_app1P (P := Tryz.prog) W 23 lo 72 iL _ 6 80 Tryz.underlying23 hLi hLz0 hLz1 hLz2 rfl (by decide) _ n _ htop [a0, a1, a2, a3, a4, a5] 72 rfl h1 (by unfold maxLen; omega) (by omega) hlo
  obtain ⟨A5, c5, rfl, _, _⟩ := (Sl.of_own ho4).form
  exact ⟨A5, c5, w4, hrun, ho4, hg4, hloc⟩
/-- the rows of a tree that is built out of another's loggers -/
def keepRows (m : Nat) (u : Value) (kept : List LgrV) (n : Nat) (v1 : Value) (ls : List LgrV) (n2 : Nat) (v2 : Value) (hs : List HndV) : List Row := ⟨72, 6, m, u, kept.flatMap lcells⟩ :: treeRows n v1 ls n2 v2 hs
theorem keepRows_end {w : World} {lo m n n2 : Nat} {u v1 v2 : Value} {kept ls : List LgrV} {hs : List HndV} (h : Rows w lo (keepRows m u kept n v1 ls n2 v2 hs)) (hk : kept.Sublist ls) : Rows w lo (treeRows m u kept n2 v2 hs) := by
  have e1 : treeRows m u kept n2 v2 hs = ⟨72, 6, m, u, kept.flatMap lcells⟩ :: (kept.flatMap lrows ++ two 47 3 n2 v2 hcells hrows hs) := rfl
  have e2 : treeRows n v1 ls n2 v2 hs = ⟨72, 6, n, v1, ls.flatMap lcells⟩ :: (ls.flatMap lrows ++ two 47 3 n2 v2 hcells hrows hs) := rfl
  refine h.sub ?_
  unfold keepRows
  rw [e1, e2]
  exact List.Sublist.cons_cons _ (List.Sublist.cons _ ((sub_flatM hk).append (List.Sublist.refl _)))
theorem keepRows_top {w : World} {lo m n n2 : Nat} {u v1 v2 : Value} {kept ls : List LgrV} {hs : List HndV} (h : Rows w lo (keepRows m u kept n v1 ls n2 v2 hs)) : w.ownsRow lo 72 6 u m (kept.flatMap lcells) := h.1 ⟨72, 6, m, u, kept.flatMap lcells⟩ (by simp [keepRows])
theorem keepRows_old {w : World} {lo m n n2 : Nat} {u v1 v2 : Value} {kept ls : List LgrV} {hs : List HndV} (h : Rows w lo (keepRows m u kept n v1 ls n2 v2 hs)) : w.ownsRow lo 72 6 v1 n (ls.flatMap lcells) := h.1 ⟨72, 6, n, v1, ls.flatMap lcells⟩ (by simp [keepRows, treeRows_eq, two])
theorem keepRows_app {W W' : World} {lo m n n2 : Nat} {u u' v1 v2 : Value} {kept ls : List LgrV} {hs : List HndV} {x : LgrV} (h : Rows W lo (keepRows m u kept n v1 ls n2 v2 hs)) (ho : W'.ownsRow lo 72 6 u' (m + 1) (kept.flatMap lcells ++ lcells x))
    (hg : W.grownBy W' u.ownBlock) (hloc : u'.ownBlock = u.ownBlock ∨ u'.ownBlock = some (W.heap.size + 1)) :
    Rows W' lo (keepRows (m + 1) u' (kept ++ [x]) n v1 ls n2 v2 hs) ∧ ∀ b, (∀ r ∈ keepRows m u kept n v1 ls n2 v2 hs, r.v.ownBlock ≠ some b) → b ≤ W.heap.size → ∀ r ∈ keepRows (m + 1) u' (kept ++ [x]) n v1 ls n2 v2 hs, r.v.ownBlock ≠ some b := by
  have e1 : (kept ++ [x]).flatMap lcells = kept.flatMap lcells ++ lcells x := by rw [List.flatMap_append]; simp
  have h1 := Rows.app (pre := []) (r := ⟨72, 6, m, u, kept.flatMap lcells⟩) (post := treeRows n v1 ls n2 v2 hs) h hg ho hloc
  unfold keepRows
  rw [e1]
  refine ⟨h1, fun b hb hbl r hr => ?_⟩
  rcases List.mem_cons.1 hr with rfl | hr
  · show u'.ownBlock ≠ _
    rcases hloc with e | e
    · rw [e]; exact hb ⟨72, 6, m, u, kept.flatMap lcells⟩ (by simp [keepRows])
    · rw [e]; intro e2; have := Option.some.inj e2; omega
  · exact hb r (List.mem_cons_of_mem _ hr)
theorem keep_root {l : Lgr} (h : l.nm = []) : keepL l = true := by rw [keep_eq, h]; simp
theorem keep_other {l : Lgr} (h : l.nm ≠ []) : keepL l = !bareB l.lv l.hs.length l.fs.length l.stop l.off := by rw [keep_eq, decide_eq_false h]; simp
theorem root_only {L : List Lgr} {H : List Hnd} {q : Int} (h : treeOk L H q = true) {k : Nat} {l : Lgr} (hl : L[k]? = some l) : (k = 0 → l.nm = []) ∧ (k ≠ 0 → l.nm ≠ []) := by
  obtain ⟨h0, hnd, _, hlen, _, h1⟩ := tree_ns h
  have hk := (List.getElem?_eq_some_iff.1 hl).1
  have hn : (nsOf L).getD k [] = l.nm := by unfold nsOf; simp [List.getD, hl]
  have hz : (nsOf L).getD 0 [] = [] := by simp [List.getD, h0]
  refine ⟨fun e => ?_, fun e e2 => ?_⟩
  · subst e; rw [← hn, hz]
  · exact e (nodup_at hnd (by omega) (by omega) (by rw [hn, hz, e2]))

set_option maxHeartbeats 16000000 in
set_option maxRecDepth 100000 in
theorem specDropPlain_c {w : World} {B : Nat} {v : Value} {L : List Lgr} {H : List Hnd} {q : Int} (h : TreeIn w B v L H q) (hB : B ≤ w.heap.size) :
    Calls Tryz.prog 35 #[v] w (TreePost w (resL (dropPX L H q)) (resH (dropPX L H q)) (resQ (dropPX L H q))) := by
  obtain ⟨A1, n1, k1, A2, n2, k2, rfl⟩ := h.form
  have HW := hid (show Below w.heap.size w ((w.alloc (.cells #[.slice A1 n1 k1, .slice A2 n2 k2, .int .i64 q] 26)).alloc (.cells #[.slice none 0 0, .slice none 0 0, .int .i64 0] 26)) from ((Below.refl _ _).alloc (Nat.le_refl _) _).alloc (by simp) _)
  have KB := hid ((Blk.new w #[.slice A1 n1 k1, .slice A2 n2 k2, .int .i64 q] 26).alloc (.cells #[.slice none 0 0, .slice none 0 0, .int .i64 0] 26))
  have KR := hid (Blk.new (w.alloc (.cells #[.slice A1 n1 k1, .slice A2 n2 k2, .int .i64 q] 26)) #[.slice none 0 0, .slice none 0 0, .int .i64 0] 26)
  simp only [World.size_alloc] at KR
  have hsz3 : ((w.alloc (.cells #[.slice A1 n1 k1, .slice A2 n2 k2, .int .i64 q] 26)).alloc (.cells #[.slice none 0 0, .slice none 0 0, .int .i64 0] 26)).heap.size = w.heap.size + 2 := by simp
  have CV := specTreeX_c (h.below HW.out hB) (Nat.le_trans hB HW.out.size)
  have CC := fun (hz : treeOk L H q = true) (W : World) (hW : Below w.heap.size w W) => specCopy_c (h.below hW hB) hz (Nat.le_trans hB hW.size)
  clear h
  have d0 := (KB.out.2 0 _ rfl).1
  have d1 := (KB.out.2 1 _ rfl).1
  have d2 := (KB.out.2 2 _ rfl).1
  cases hz : treeOk L H q with
  | false =>
    have HX := hid (show dropPX L H q = none by unfold dropPX changedO; rw [hz]; rfl)
    rw [hz] at CV
    generalize dropPX L H q = X at *
    replace CV := hid CV
    clear hz CC
    go_enter Tryz.func35, Tryz.ntmps35
    go_wp2_with fail
    refine (CV.out).mono ?_
    rintro e w4 ⟨rfl, hb4⟩
    have HW4 := hid (HW.out.trans (hb4.mono HW.out.size))
    have KR4 := hid (KR.out.to hb4)
    clear hb4 d0 d1 d2 hsz3
    obtain ⟨q0c, q0f⟩ := KR4.out.2 0 _ rfl
    obtain ⟨q1c, q1f⟩ := KR4.out.2 1 _ rfl
    obtain ⟨q2c, q2f⟩ := KR4.out.2 2 _ rfl
    go_wp2_with fail
    have RB := ((KR4.out.set 0 (.slice none 0 0)).set 1 (.slice none 0 0)).set 2 (.int .i64 0)
    have f0 := (RB.2 0 _ rfl).1
    have f1 := (RB.2 1 _ rfl).1
    have f2 := (RB.2 2 _ rfl).1
    refine bodyPost_ret (v := .agg #[.slice none 0 0, .slice none 0 0, .int .i64 0]) (by simp [results, Tryz.results35, go_sem, f0, f1, f2]) rfl ?_
    refine post_noneP (by rw [HX.out]; rfl) (by rw [HX.out]; rfl) (by rw [HX.out]; rfl) rfl ?_
    iterate 3 refine Below.setCell ?_ (by simp; try omega) _
    exact HW4.out
  | true =>
    have HX := hid (dropP_some hz)
    rw [hz] at CV
    generalize dropPX L H q = X at *
    replace CV := hid CV
    have HRO := hid (fun (k : Nat) (l : Lgr) (hl : L[k]? = some l) => root_only hz hl)
    replace CC := hid (CC hz)
    obtain ⟨_, _, _, h8, _, _⟩ := tree_names hz
    clear hz
    go_enter Tryz.func35, Tryz.ntmps35
    go_wp2_with fail
    refine (CV.out).mono ?_
    rintro e w1 ⟨rfl, hb4⟩
    have HW1 := hid (HW.out.trans (hb4.mono HW.out.size))
    have KB1 := hid (KB.out.to hb4)
    have KR1 := hid (KR.out.to hb4)
    have hw1 : w.heap.size + 2 ≤ w1.heap.size := by have := hb4.size; rw [hsz3] at this; exact this
    clear hb4 d0 d1 d2 hsz3
    have d0 := (KB1.out.2 0 _ rfl).1
    have d1 := (KB1.out.2 1 _ rfl).1
    have d2 := (KB1.out.2 2 _ rfl).1
    go_wp2_with fail
    refine (CC.out _ HW1.out).mono ?_
    rintro e w2 ⟨v', rs, rfl, hs, hr, hb2⟩
    obtain ⟨u1, u2, ls, hs', rfl, hL, hH, rfl⟩ := hs
    have hll : ls.length = L.length := by rw [← hL]; simp [lsOf]
    obtain ⟨hl, hh⟩ := hr.lsIn
    obtain ⟨A, c, rfl, hnc, hcm⟩ := hl.1.form
    obtain ⟨A4, c4, rfl, hnc4, hcm4⟩ := hh.1.form
    have HLF := hid (rows_lform hr)
    have HONE := hid (treeL_slices hr).1
    clear hl hh
    generalize hN : ls.length = n at *
    generalize hN2 : hs'.length = n2 at *
    have hn8 : n ≤ 8 := by omega
    have HLn := hid hN
    have HLn2 := hid hN2
    have hb3 : Below w2.heap.size w2 (w2.alloc (.cells #[.slice A n c, .slice A4 n2 c4, .int .i64 q] 26)) := (Below.refl _ _).alloc (Nat.le_refl _) _
    have hs3 : (w2.alloc (.cells #[.slice A n c, .slice A4 n2 c4, .int .i64 q] 26)).heap.size = w2.heap.size + 1 := by simp
    have K3 := Blk.new w2 #[.slice A n c, .slice A4 n2 c4, .int .i64 q] 26
    have hb34 : Below (w2.alloc (.cells #[.slice A n c, .slice A4 n2 c4, .int .i64 q] 26)).heap.size (w2.alloc (.cells #[.slice A n c, .slice A4 n2 c4, .int .i64 q] 26)) ((w2.alloc (.cells #[.slice A n c, .slice A4 n2 c4, .int .i64 q] 26)).alloc (.cells #[.slice none 0 0, .slice A4 n2 c4, .int .i64 q] 26)) := (Below.refl _ _).alloc (Nat.le_refl _) _
    have K4 := Blk.new (w2.alloc (.cells #[.slice A n c, .slice A4 n2 c4, .int .i64 q] 26)) #[.slice none 0 0, .slice A4 n2 c4, .int .i64 q] 26
    have HB3 := hid (show Below w1.heap.size w1 ((w2.alloc (.cells #[.slice A n c, .slice A4 n2 c4, .int .i64 q] 26)).alloc (.cells #[.slice none 0 0, .slice A4 n2 c4, .int .i64 q] 26)) from (show Below w1.heap.size w1 w2 from hb2).trans ((hb3.trans (hb34.mono hb3.size)).mono hb2.size))
    have HR3 := hid (show Rows ((w2.alloc (.cells #[.slice A n c, .slice A4 n2 c4, .int .i64 q] 26)).alloc (.cells #[.slice none 0 0, .slice A4 n2 c4, .int .i64 q] 26)) w1.heap.size (keepRows 0 (.slice none 0 0) [] n (.slice A n c) ls n2 (.slice A4 n2 c4) hs') from ((hr.below hb3).below hb34).cons_nil)
    have hnr : ∀ r ∈ keepRows 0 (.slice none 0 0) [] n (.slice A n c) ls n2 (.slice A4 n2 c4) hs', r.v.ownBlock ≠ some w2.heap.size ∧ r.v.ownBlock ≠ some (w2.alloc (.cells #[.slice A n c, .slice A4 n2 c4, .int .i64 q] 26)).heap.size := fun r hr' => by
      rcases List.mem_cons.1 hr' with rfl | hr'
      · exact ⟨(by intro e; cases e), (by intro e; cases e)⟩
      · exact ⟨rows_below hr r hr', rows_below (hr.below hb3) r hr'⟩
    rw [hs3] at hnr K4
    have HNr := hid hnr
    have HK3 := hid (K3.alloc (.cells #[.slice none 0 0, .slice A4 n2 c4, .int .i64 q] 26))
    have HK4 := hid K4
    have HH := hid hH
    have HL := hid hL
    have hbo1 : w1.heap.size ≤ w2.heap.size := hb2.size
    have hbo3 : w1.heap.size ≤ w2.heap.size + 1 := by omega
    have hbo34 : w2.heap.size ≠ w2.heap.size + 1 := by omega
    have a2 := (((KB1.out.to hb2).alloc (.cells #[.slice A n c, .slice A4 n2 c4, .int .i64 q] 26)).2 2 _ rfl).1
    unfold maxLen at hcm
    clear hr hb2 hL hH d0 d1 d2 hll hN hN2 hb3 hb34 K3 K4 hs3 hnr
    go_wp2_with fail
    clear a2
    generalize hbo4 : w2.heap.size + 1 = bq at *
    generalize hbo2 : w2.heap.size = bo at *
    generalize ((w2.alloc (.cells #[.slice A n c, .slice A4 n2 c4, .int .i64 q] 26)).alloc (.cells #[.slice none 0 0, .slice A4 n2 c4, .int .i64 q] 26)) = w4 at *
    clear hbo2 hbo4
    go_loopw [5] (fun iv wr => ∃ (k m : Nat) (kept : List LgrV) (Ac : Option Addr) (cc : Nat), iv = .int .i64 k ∧ k ≤ n ∧ m ≤ k ∧ Hid (kept.length = m) ∧ Hid (kept = (ls.take k).filter keepV) ∧ Hid (Rows wr w1.heap.size (keepRows m (.slice Ac m cc) kept n (.slice A n c) ls n2 (.slice A4 n2 c4) hs')) ∧
      Hid (Blk wr bo [.slice A n c, .slice A4 n2 c4, .int .i64 q]) ∧ Hid (Blk wr bq [.slice Ac m cc, .slice A4 n2 c4, .int .i64 q]) ∧ Hid (∀ r ∈ keepRows m (.slice Ac m cc) kept n (.slice A n c) ls n2 (.slice A4 n2 c4) hs', r.v.ownBlock ≠ some bo ∧ r.v.ownBlock ≠ some bq) ∧ Hid (Below w1.heap.size w1 wr)) (fun iv _ => n - (intOf iv).toNat)
    case atStart => exact ⟨0, 0, [], none, 0, rfl, by omega, by omega, rfl, by simp [Hid], HR3.out, HK3.out, HK4.out, HNr.out, HB3.out⟩
    case round =>
      obtain ⟨k, m, kept, Ac, cc, rfl, hk, hm, HLk, HC, HRx, HKx, HQx, HNx, HBx⟩ := hrel
      have hlw : w1.heap.size ≤ wr.heap.size := HBx.out.size
      have HWx := hid (HW1.out.trans (HBx.out.mono HW1.out.size))
      have y0 := (HKx.out.2 0 _ rfl).1
      by_cases hlt : k < n
      · obtain ⟨x, hx⟩ : ∃ x, ls[k]? = some x := ⟨_, List.getElem?_eq_getElem (by have := HLn.out; omega)⟩
        have hlx : L[k]? = some x.l := by rw [← HL.out]; unfold lsOf; rw [List.getElem?_map, hx]; rfl
        obtain ⟨hro1, hro2⟩ := HRO.out k x.l hlx
        obtain ⟨p, A9, c9, A10, c10, hp, hcs⟩ := lform_cells (HLF.out x (List.mem_of_getElem? hx))
        have hoo := keepRows_old HRx.out
        obtain ⟨g, rfl, hglt⟩ := own_some hoo (by omega)
        have hgl : w1.heap.size ≤ g := (hoo.lt g rfl).1
        have HQG := hid (show bq ≠ g from fun e => (HNx.out ⟨72, 6, n, .slice (some ⟨g, 0, none⟩) n c, ls.flatMap lcells⟩ (by simp [keepRows, treeRows_eq, two])).2 (by rw [e]; rfl))
        have g0 := (own_lcell hoo hx (d := 0) (u := .string p) (by rw [hcs]; rfl)).1
        have g1 := (own_lcell hoo hx (d := 1) (u := .int .i64 x.l.lv) (by rw [hcs]; rfl)).1
        have g2 := (own_lcell hoo hx (d := 2) (u := .slice A9 x.l.hs.length c9) (by rw [hcs]; rfl)).1
        have g3 := (own_lcell hoo hx (d := 3) (u := .slice A10 x.l.fs.length c10) (by rw [hcs]; rfl)).1
        have g4 := (own_lcell hoo hx (d := 4) (u := .bool x.l.stop) (by rw [hcs]; rfl)).1
        have g5 := (own_lcell hoo hx (d := 5) (u := .bool x.l.off) (by rw [hcs]; rfl)).1
        simp only [Nat.add_zero] at g0
        have CP := hid (fun (W : World) => plain_c p x.l.lv A9 A10 x.l.hs.length c9 x.l.fs.length c10 x.l.stop x.l.off W)
        have h1c := HONE.out
        have hone : ∀ u ∈ [Value.string p, .int .i64 x.l.lv, .slice A9 x.l.hs.length c9, .slice A10 x.l.fs.length c10, .bool x.l.stop, .bool x.l.off], u.oneCell' = true := by
          intro u hu; rw [← hcs] at hu; exact h1c u (List.mem_flatMap.2 ⟨x, List.mem_of_getElem? hx, hu⟩)
        have HCX := hid hcs
        have HX1 := hid (And.intro hx hro1)
        have hko := fun (h : k ≠ 0) => keep_other (hro2 h)
        have s0 : (0 : Int) ≤ (k : Int) := by omega
        have s1 : (k : Int) < (n : Int) := by omega
        have s2 : ((k : Int)).toNat = k := by simp
        have HKO := hid hko
        have HOne := hid hone
        generalize x.l.lv = lv at *
        generalize x.l.hs.length = hn at *
        generalize x.l.fs.length = fn at *
        generalize x.l.stop = st at *
        generalize x.l.off = off at *
        clear hx hlx hp hcs hoo h1c hone hro1 hro2 hko
        obtain ⟨bv, hbv⟩ : ∃ b, bareB lv hn fn st off = b := ⟨_, rfl⟩
        rw [hbv] at CP
        have HBV := hid hbv
        have HADD := hid (fun (hkeep : keepV x = true) => (show ((ls.take (k + 1)).filter keepV) = kept ++ [x] by rw [filtP_keep HX1.out.1 hkeep, HC.out]))
        have HSK := hid (fun (hkeep : keepV x = false) => (show ((ls.take (k + 1)).filter keepV) = kept by rw [filtP_drop HX1.out.1 hkeep, HC.out]))
        clear hbv
        by_cases hk0 : k = 0
        · have hkt : keepV x = true := keep_root (HX1.out.2 hk0)
          have z0 : ((k : Int) == 0) = true := by simp; omega
          replace HADD := hid (HADD.out hkt)
          have HWc := hid (Below.refl wr.heap.size wr)
          clear hkt hk0
          go_wp2_with fail
          have HRc := hid (HRx.out.below HWc.out)
          have HKc := hid (HKx.out.to HWc.out)
          have HQc := hid (HQx.out.to HWc.out)
          have HBc := hid (HBx.out.trans (HWc.out.mono HBx.out.size))
          have hszc : wr.heap.size ≤ wr.heap.size := HWc.out.size
          have hbob : bo < wr.heap.size := HKc.out.1
          have hbqb : bq < wr.heap.size := HQc.out.1
          have oc := keepRows_old HRc.out
          have u0 := (own_lcell oc HX1.out.1 (d := 0) (u := .string p) (by rw [HCX.out]; rfl)).1
          have u1 := (own_lcell oc HX1.out.1 (d := 1) (u := .int .i64 lv) (by rw [HCX.out]; rfl)).1
          have u2 := (own_lcell oc HX1.out.1 (d := 2) (u := .slice A9 hn c9) (by rw [HCX.out]; rfl)).1
          have u3 := (own_lcell oc HX1.out.1 (d := 3) (u := .slice A10 fn c10) (by rw [HCX.out]; rfl)).1
          have u4 := (own_lcell oc HX1.out.1 (d := 4) (u := .bool st) (by rw [HCX.out]; rfl)).1
          have u5 := (own_lcell oc HX1.out.1 (d := 5) (u := .bool off) (by rw [HCX.out]; rfl)).1
          simp only [Nat.add_zero] at u0
          have o0 := (HQc.out.2 0 _ rfl).1
          have yc := (HKc.out.2 0 _ rfl).1
          have hgW : g < wr.heap.size := (oc.lt g rfl).2
          clear oc y0 g0 g1 g2 g3 g4 g5
          obtain ⟨A5, c5, w6, hrun, ho4, hg4, hloc⟩ := run_keep (wr.drew) (keepRows_top HRc.out.dr) HOne.out (by omega) (show w1.heap.size ≤ wr.drew.heap.size from Nat.le_trans hlw hszc)
          obtain ⟨hR4, hoff⟩ := keepRows_app (x := x) HRc.out.dr (by rw [HCX.out]; exact ho4) hg4 hloc
          have hne : some bo ≠ (Value.slice Ac m cc).ownBlock := fun e => (HNx.out ⟨72, 6, m, .slice Ac m cc, kept.flatMap lcells⟩ (by simp [keepRows])).1 e.symm
          have hneq : some bq ≠ (Value.slice Ac m cc).ownBlock := fun e => (HNx.out ⟨72, 6, m, .slice Ac m cc, kept.flatMap lcells⟩ (by simp [keepRows])).2 e.symm
          have hob := hoff bo (fun r hr => (HNx.out r hr).1) (Nat.le_of_lt hbob)
          have hoq := hoff bq (fun r hr => (HNx.out r hr).2) (Nat.le_of_lt hbqb)
          have HK6 := hid ((HKc.out.dr 1).kept hg4 hne)
          have HQ6 := hid ((HQc.out.dr 1).kept hg4 hneq)
          have HR6 := hid (hR4.off (j := 0) (u := .slice A5 (m + 1) c5) hoq)
          have HN6 := hid (fun r hr => And.intro (hob r hr) (hoq r hr))
          have hlo4 : ∀ z, (Value.slice Ac m cc).ownBlock = some z → w1.heap.size ≤ z := fun z hz => ((keepRows_top HRc.out).lt z hz).1
          have HB6 := hid (HBc.out.drew.grown hg4 (Nat.le_trans hlw hszc) hlo4)
          have HRun := hid hrun
          have o6 := keepRows_old hR4
          have v0 := (own_lcell o6 HX1.out.1 (d := 0) (u := .string p) (by rw [HCX.out]; rfl)).1
          have v1 := (own_lcell o6 HX1.out.1 (d := 1) (u := .int .i64 lv) (by rw [HCX.out]; rfl)).1
          have v2 := (own_lcell o6 HX1.out.1 (d := 2) (u := .slice A9 hn c9) (by rw [HCX.out]; rfl)).1
          have v3 := (own_lcell o6 HX1.out.1 (d := 3) (u := .slice A10 fn c10) (by rw [HCX.out]; rfl)).1
          have v4 := (own_lcell o6 HX1.out.1 (d := 4) (u := .bool st) (by rw [HCX.out]; rfl)).1
          have v5 := (own_lcell o6 HX1.out.1 (d := 5) (u := .bool off) (by rw [HCX.out]; rfl)).1
          simp only [Nat.add_zero] at v0
          have y6 := (HK6.out.2 0 _ rfl).1
          have HV := hid (And.intro y6 (And.intro v0 (And.intro v1 (And.intro v2 (And.intro v3 (And.intro v4 v5))))))
          clear hrun ho4 hg4 hloc hR4 hoff hne hneq hob hoq hlo4 o6 v0 v1 v2 v3 v4 v5 y6
          refine wp_region_let 10 (fun w' : World => w'.cell? ⟨bo, 0, none⟩ = some (.slice (some ⟨g, 0, none⟩) n c) ∧ w'.cell? ⟨g, k * 6, none⟩ = some (.string p) ∧ w'.cell? ⟨g, k * 6 + 1, none⟩ = some (.int .i64 lv) ∧ w'.cell? ⟨g, k * 6 + 2, none⟩ = some (.slice A9 hn c9) ∧ w'.cell? ⟨g, k * 6 + 3, none⟩ = some (.slice A10 fn c10) ∧ w'.cell? ⟨g, k * 6 + 4, none⟩ = some (.bool st) ∧ w'.cell? ⟨g, k * 6 + 5, none⟩ = some (.bool off)) (fun w' : World => w'.cell? ⟨bq, 0, none⟩ = some (.slice Ac m cc)) (by kernel_rfl) ⟨yc, u0, u1, u2, u3, u4, u5⟩ o0 (fun hS => ?_)
          refine wpAnyL_take (i := 0) (oi := ?oi101) (v := ?v101) ?hi101 (by kernel_rfl) ?hf101 ?hr101 (by decide) ?hQ101 (Or.inl ⟨?hw101, ?hy101⟩) (⟨hS.1, fun h => hS.2 (by first | rfl | exact h)⟩) ?rest101
          case hi101 => simp only [List.getElem?_toArray, List.getElem?_cons_succ, List.getElem?_cons_zero]; rfl
          case hf101 => kernel_rfl
          case hr101 => kernel_rfl
          case hw101 => rfl
          case hy101 => (intro w hSw; (try dsimp only at hSw); go_simp; all_goals (first | done | with_reducible rfl))
          case hQ101 => exact fun _ _ _ h => h
          simp only [Act.put, List.setIfInBounds_toArray, List.set_cons_zero, List.set_cons_succ]
          refine wpAnyL_take (i := 2) (oi := ?oi102) (v := ?v102) ?hi102 (by kernel_rfl) ?hf102 ?hr102 (by decide) ?hQ102 (Or.inl ⟨?hw102, ?hy102⟩) (⟨hS.1, fun h => hS.2 (by first | rfl | exact h)⟩) ?rest102
          case hi102 => simp only [List.getElem?_toArray, List.getElem?_cons_succ, List.getElem?_cons_zero]; rfl
          case hf102 => kernel_rfl
          case hr102 => kernel_rfl
          case hw102 => rfl
          case hy102 => (intro w hSw; (try dsimp only at hSw); go_simp; all_goals (first | done | with_reducible rfl))
          case hQ102 => exact fun _ _ _ h => h
          simp only [Act.put, List.setIfInBounds_toArray, List.set_cons_zero, List.set_cons_succ]
          refine wpAnyL_take (i := 4) (oi := ?oi103) (v := ?v103) ?hi103 (by kernel_rfl) ?hf103 ?hr103 (by decide) ?hQ103 (Or.inl ⟨?hw103, ?hy103⟩) (⟨hS.1, fun h => hS.2 (by first | rfl | exact h)⟩) ?rest103
          case hi103 => simp only [List.getElem?_toArray, List.getElem?_cons_succ, List.getElem?_cons_zero]; rfl
          case hf103 => kernel_rfl
          case hr103 => kernel_rfl
          case hw103 => rfl
          case hy103 => (intro w hSw; (try dsimp only at hSw); go_simp; all_goals (first | done | with_reducible rfl))
          case hQ103 => exact fun _ _ _ h => h
          simp only [Act.put, List.setIfInBounds_toArray, List.set_cons_zero, List.set_cons_succ]
          refine wpAnyL_take1 (i := 1) (oi := ?oi104) (om := ?om104) (v := ?v104) ?hi104 (by kernel_rfl) ?hf104 ?hr104 (by decide) ?hm104 ?hd104 (by rfl) ?hQ104 (Or.inl ⟨?hw104, ?hy104⟩) (⟨hS.1, fun h => hS.2 (by first | rfl | exact h)⟩) ?rest104
          case hi104 => simp only [List.getElem?_toArray, List.getElem?_cons_succ, List.getElem?_cons_zero]; rfl
          case hm104 => simp only [List.getElem?_toArray, List.getElem?_cons_succ, List.getElem?_cons_zero]; rfl
          case hd104 => kernel_rfl
          case hf104 => kernel_rfl
          case hr104 => kernel_rfl
          case hw104 => rfl
          case hy104 => (intro w hSw; (try dsimp only at hSw); go_simp; all_goals (first | done | with_reducible rfl))
          case hQ104 => exact fun _ _ _ h => h
          simp only [Act.put, List.setIfInBounds_toArray, List.set_cons_zero, List.set_cons_succ]
          refine wpAnyL_take (i := 3) (oi := ?oi105) (v := ?v105) ?hi105 (by kernel_rfl) ?hf105 ?hr105 (by decide) ?hQ105 (Or.inl ⟨?hw105, ?hy105⟩) (⟨hS.1, fun h => hS.2 (by first | rfl | exact h)⟩) ?rest105
          case hi105 => simp only [List.getElem?_toArray, List.getElem?_cons_succ, List.getElem?_cons_zero]; rfl
          case hf105 => kernel_rfl
          case hr105 => kernel_rfl
          case hw105 => rfl
          case hy105 => (intro w hSw; (try dsimp only at hSw); go_simp; all_goals (first | done | with_reducible rfl))
          case hQ105 => exact fun _ _ _ h => h
          simp only [Act.put, List.setIfInBounds_toArray, List.set_cons_zero, List.set_cons_succ]
          refine wpAnyL_take (i := 5) (oi := ?oi106) (v := ?v106) ?hi106 (by kernel_rfl) ?hf106 ?hr106 (by decide) ?hQ106 (Or.inl ⟨?hw106, ?hy106⟩) (⟨hS.1, fun h => hS.2 (by first | rfl | exact h)⟩) ?rest106
          case hi106 => simp only [List.getElem?_toArray, List.getElem?_cons_succ, List.getElem?_cons_zero]; rfl
          case hf106 => kernel_rfl
          case hr106 => kernel_rfl
          case hw106 => rfl
          case hy106 => (intro w hSw; (try dsimp only at hSw); go_simp; all_goals (first | done | with_reducible rfl))
          case hQ106 => exact fun _ _ _ h => h
          simp only [Act.put, List.setIfInBounds_toArray, List.set_cons_zero, List.set_cons_succ]
          refine wpAnyL_take (i := 6) (oi := ?oi107) (v := ?v107) ?hi107 (by kernel_rfl) ?hf107 ?hr107 (by decide) ?hQ107 (Or.inl ⟨?hw107, ?hy107⟩) (⟨hS.1, fun h => hS.2 (by first | rfl | exact h)⟩) ?rest107
          case hi107 => simp only [List.getElem?_toArray, List.getElem?_cons_succ, List.getElem?_cons_zero]; rfl
          case hf107 => kernel_rfl
          case hr107 => kernel_rfl
          case hw107 => rfl
          case hy107 => (intro w hSw; (try dsimp only at hSw); go_simp; all_goals (first | done | with_reducible rfl))
          case hQ107 => exact fun _ _ _ h => h
          simp only [Act.put, List.setIfInBounds_toArray, List.set_cons_zero, List.set_cons_succ]
          refine wpAnyL_ready (rs := [7]) (by kernel_rfl) (by simp) ?_
          refine AllReadyL.cons (o := ?oi108) ?hi108 (fun K hK => ?step108) AllReadyL.nil
          case hi108 => simp only [List.getElem?_toArray, List.getElem?_cons_succ, List.getElem?_cons_zero]; rfl
          rw [if_pos (by rfl)]
          go_simp
          refine hK.out _ _ ⟨⟨(World.cell?_alloc_past _ _ _ hbob).trans yc, (World.cell?_alloc_past _ _ _ hgW).trans u0, (World.cell?_alloc_past _ _ _ hgW).trans u1, (World.cell?_alloc_past _ _ _ hgW).trans u2, (World.cell?_alloc_past _ _ _ hgW).trans u3, (World.cell?_alloc_past _ _ _ hgW).trans u4, (World.cell?_alloc_past _ _ _ hgW).trans u5⟩, fun _ => (World.cell?_alloc_past _ _ _ hbqb).trans o0⟩ (fun hS => ?_)
          refine wpAnyL_ready (rs := [8]) (by kernel_rfl) (by simp) ?_
          refine AllReadyL.cons (o := ?oi109) ?hi109 (fun K hK => ?step109) AllReadyL.nil
          case hi109 => simp only [List.getElem?_toArray, List.getElem?_cons_succ, List.getElem?_cons_zero]; rfl
          rw [if_pos (by rfl)]
          refine wp_app rfl (by rfl) (by rfl) HRun.out ?_
          refine hK.out _ _ ⟨HV.out, fun _ => (HQ6.out.2 0 _ rfl).1⟩ (fun hS => ?_)
          simp only [Act.put, List.setIfInBounds_toArray, List.set_cons_zero, List.set_cons_succ]
          refine wpAnyL_take (i := 9) (oi := ?oi110) (v := ?v110) ?hi110 (by kernel_rfl) ?hf110 ?hr110 (by decide) ?hQ110 (Or.inl ⟨?hw110, ?hy110⟩) (⟨hS.1, fun h => hS.2 (by first | rfl | exact h)⟩) ?rest110
          case hi110 => simp only [List.getElem?_toArray, List.getElem?_cons_succ, List.getElem?_cons_zero]; rfl
          case hf110 => kernel_rfl
          case hr110 => kernel_rfl
          case hw110 => rfl
          case hy110 => (intro w hSw; (try dsimp only at hSw); go_simp; all_goals (first | done | with_reducible rfl))
          case hQ110 => exact fun _ _ _ h => h
          simp only [Act.put, List.setIfInBounds_toArray, List.set_cons_zero, List.set_cons_succ]
          have o9 := (HQ6.out.2 0 _ rfl).1
          have o9f := (HQ6.out.2 0 _ rfl).2
          have hqb : bq ≠ bo := fun e => hbo34 e.symm
          have hqg : bq ≠ g := HQG.out
          refine wpAnyL_ready (rs := [10]) (by kernel_rfl) (by simp) ?_
          refine AllReadyL.cons (o := ?oi111) ?hi111 (fun K hK => ?step111) AllReadyL.nil
          case hi111 => simp only [List.getElem?_toArray, List.getElem?_cons_succ, List.getElem?_cons_zero]; rfl
          rw [if_pos (by rfl)]
          go_simp
          refine hK.out _ _ ⟨⟨(World.cell?_setCell_far _ _ _ _ hqb).trans HV.out.1, (World.cell?_setCell_far _ _ _ _ hqg).trans HV.out.2.1, (World.cell?_setCell_far _ _ _ _ hqg).trans HV.out.2.2.1, (World.cell?_setCell_far _ _ _ _ hqg).trans HV.out.2.2.2.1, (World.cell?_setCell_far _ _ _ _ hqg).trans HV.out.2.2.2.2.1, (World.cell?_setCell_far _ _ _ _ hqg).trans HV.out.2.2.2.2.2.1, (World.cell?_setCell_far _ _ _ _ hqg).trans HV.out.2.2.2.2.2.2⟩, fun h => absurd h (by decide)⟩ (fun hS => ?_)
          refine wpAnyL_done (by kernel_rfl) ?_ _
          clear hS o0 o9 o9f u0 u1 u2 u3 u4 u5 yc
          go_wp2_with fail
          go_roundw
          case rel =>
            refine ⟨k + 1, m + 1, kept ++ [x], A5, c5, by go_num, by omega, by omega, ?_, HADD.out.symm, HR6.out, HK6.out.apart _ _ hqb, ?_, HN6.out, HB6.out.setCell hbo3 _⟩
            · show List.length _ = _; rw [List.length_append, HLk.out]; rfl
            · have h9 := HQ6.out.set 0 (.slice A5 (m + 1) c5)
              exact hid (by simpa using h9)
          case measure => simp [intOf]; omega
        · have z0 : ((k : Int) == 0) = false := by simp; omega
          have hkx : keepV x = !bv := by have := HKO.out hk0; rw [HBV.out] at this; exact this
          cases bv with
          | true =>
            replace HSK := hid (HSK.out hkx)
            clear hkx
            go_wp2_with fail
            refine (CP.out _).mono ?_
            rintro e w5 ⟨rfl, hb⟩
            have HR5 := hid (HRx.out.below hb)
            have HK5 := hid (HKx.out.to hb)
            have HQ5 := hid (HQx.out.to hb)
            have HB5 := hid (HBx.out.trans (hb.mono HBx.out.size))
            clear hb y0 g0 g1 g2 g3 g4 g5
            go_wp2_with fail
            go_roundw
            case rel => exact ⟨k + 1, m, kept, Ac, cc, by go_num, by omega, by omega, HLk.out, HSK.out.symm, HR5.out, HK5.out, HQ5.out, HNx.out, HB5.out⟩
            case measure => simp [intOf]; omega
          | false =>
            replace HADD := hid (HADD.out hkx)
            clear hkx
            go_wp2_with fail
            refine (CP.out _).mono ?_
            rintro e wp ⟨rfl, hb⟩
            have HWc := hid hb
            clear hb
            go_wp2_with fail
            have HRc := hid (HRx.out.below HWc.out)
            have HKc := hid (HKx.out.to HWc.out)
            have HQc := hid (HQx.out.to HWc.out)
            have HBc := hid (HBx.out.trans (HWc.out.mono HBx.out.size))
            have hszc : wr.heap.size ≤ wp.heap.size := HWc.out.size
            have hbob : bo < wp.heap.size := HKc.out.1
            have hbqb : bq < wp.heap.size := HQc.out.1
            have oc := keepRows_old HRc.out
            have u0 := (own_lcell oc HX1.out.1 (d := 0) (u := .string p) (by rw [HCX.out]; rfl)).1
            have u1 := (own_lcell oc HX1.out.1 (d := 1) (u := .int .i64 lv) (by rw [HCX.out]; rfl)).1
            have u2 := (own_lcell oc HX1.out.1 (d := 2) (u := .slice A9 hn c9) (by rw [HCX.out]; rfl)).1
            have u3 := (own_lcell oc HX1.out.1 (d := 3) (u := .slice A10 fn c10) (by rw [HCX.out]; rfl)).1
            have u4 := (own_lcell oc HX1.out.1 (d := 4) (u := .bool st) (by rw [HCX.out]; rfl)).1
            have u5 := (own_lcell oc HX1.out.1 (d := 5) (u := .bool off) (by rw [HCX.out]; rfl)).1
            simp only [Nat.add_zero] at u0
            have o0 := (HQc.out.2 0 _ rfl).1
            have yc := (HKc.out.2 0 _ rfl).1
            have hgW : g < wp.heap.size := (oc.lt g rfl).2
            clear oc y0 g0 g1 g2 g3 g4 g5
            obtain ⟨A5, c5, w6, hrun, ho4, hg4, hloc⟩ := run_keep (wp.drew) (keepRows_top HRc.out.dr) HOne.out (by omega) (show w1.heap.size ≤ wp.drew.heap.size from Nat.le_trans hlw hszc)
            obtain ⟨hR4, hoff⟩ := keepRows_app (x := x) HRc.out.dr (by rw [HCX.out]; exact ho4) hg4 hloc
            have hne : some bo ≠ (Value.slice Ac m cc).ownBlock := fun e => (HNx.out ⟨72, 6, m, .slice Ac m cc, kept.flatMap lcells⟩ (by simp [keepRows])).1 e.symm
            have hneq : some bq ≠ (Value.slice Ac m cc).ownBlock := fun e => (HNx.out ⟨72, 6, m, .slice Ac m cc, kept.flatMap lcells⟩ (by simp [keepRows])).2 e.symm
            have hob := hoff bo (fun r hr => (HNx.out r hr).1) (Nat.le_of_lt hbob)
            have hoq := hoff bq (fun r hr => (HNx.out r hr).2) (Nat.le_of_lt hbqb)
            have HK6 := hid ((HKc.out.dr 1).kept hg4 hne)
            have HQ6 := hid ((HQc.out.dr 1).kept hg4 hneq)
            have HR6 := hid (hR4.off (j := 0) (u := .slice A5 (m + 1) c5) hoq)
            have HN6 := hid (fun r hr => And.intro (hob r hr) (hoq r hr))
            have hlo4 : ∀ z, (Value.slice Ac m cc).ownBlock = some z → w1.heap.size ≤ z := fun z hz => ((keepRows_top HRc.out).lt z hz).1
            have HB6 := hid (HBc.out.drew.grown hg4 (Nat.le_trans hlw hszc) hlo4)
            have HRun := hid hrun
            have o6 := keepRows_old hR4
            have v0 := (own_lcell o6 HX1.out.1 (d := 0) (u := .string p) (by rw [HCX.out]; rfl)).1
            have v1 := (own_lcell o6 HX1.out.1 (d := 1) (u := .int .i64 lv) (by rw [HCX.out]; rfl)).1
            have v2 := (own_lcell o6 HX1.out.1 (d := 2) (u := .slice A9 hn c9) (by rw [HCX.out]; rfl)).1
            have v3 := (own_lcell o6 HX1.out.1 (d := 3) (u := .slice A10 fn c10) (by rw [HCX.out]; rfl)).1
            have v4 := (own_lcell o6 HX1.out.1 (d := 4) (u := .bool st) (by rw [HCX.out]; rfl)).1
            have v5 := (own_lcell o6 HX1.out.1 (d := 5) (u := .bool off) (by rw [HCX.out]; rfl)).1
            simp only [Nat.add_zero] at v0
            have y6 := (HK6.out.2 0 _ rfl).1
            have HV := hid (And.intro y6 (And.intro v0 (And.intro v1 (And.intro v2 (And.intro v3 (And.intro v4 v5))))))
            clear hrun ho4 hg4 hloc hR4 hoff hne hneq hob hoq hlo4 o6 v0 v1 v2 v3 v4 v5 y6
            refine wp_region_let 10 (fun w' : World => w'.cell? ⟨bo, 0, none⟩ = some (.slice (some ⟨g, 0, none⟩) n c) ∧ w'.cell? ⟨g, k * 6, none⟩ = some (.string p) ∧ w'.cell? ⟨g, k * 6 + 1, none⟩ = some (.int .i64 lv) ∧ w'.cell? ⟨g, k * 6 + 2, none⟩ = some (.slice A9 hn c9) ∧ w'.cell? ⟨g, k * 6 + 3, none⟩ = some (.slice A10 fn c10) ∧ w'.cell? ⟨g, k * 6 + 4, none⟩ = some (.bool st) ∧ w'.cell? ⟨g, k * 6 + 5, none⟩ = some (.bool off)) (fun w' : World => w'.cell? ⟨bq, 0, none⟩ = some (.slice Ac m cc)) (by kernel_rfl) ⟨yc, u0, u1, u2, u3, u4, u5⟩ o0 (fun hS => ?_)
            refine wpAnyL_take (i := 0) (oi := ?oi112) (v := ?v112) ?hi112 (by kernel_rfl) ?hf112 ?hr112 (by decide) ?hQ112 (Or.inl ⟨?hw112, ?hy112⟩) (⟨hS.1, fun h => hS.2 (by first | rfl | exact h)⟩) ?rest112
            case hi112 => simp only [List.getElem?_toArray, List.getElem?_cons_succ, List.getElem?_cons_zero]; rfl
            case hf112 => kernel_rfl
            case hr112 => kernel_rfl
            case hw112 => rfl
            case hy112 => (intro w hSw; (try dsimp only at hSw); go_simp; all_goals (first | done | with_reducible rfl))
            case hQ112 => exact fun _ _ _ h => h
            simp only [Act.put, List.setIfInBounds_toArray, List.set_cons_zero, List.set_cons_succ]
            refine wpAnyL_take (i := 2) (oi := ?oi113) (v := ?v113) ?hi113 (by kernel_rfl) ?hf113 ?hr113 (by decide) ?hQ113 (Or.inl ⟨?hw113, ?hy113⟩) (⟨hS.1, fun h => hS.2 (by first | rfl | exact h)⟩) ?rest113
            case hi113 => simp only [List.getElem?_toArray, List.getElem?_cons_succ, List.getElem?_cons_zero]; rfl
            case hf113 => kernel_rfl
            case hr113 => kernel_rfl
            case hw113 => rfl
            case hy113 => (intro w hSw; (try dsimp only at hSw); go_simp; all_goals (first | done | with_reducible rfl))
            case hQ113 => exact fun _ _ _ h => h
            simp only [Act.put, List.setIfInBounds_toArray, List.set_cons_zero, List.set_cons_succ]
            refine wpAnyL_take (i := 4) (oi := ?oi114) (v := ?v114) ?hi114 (by kernel_rfl) ?hf114 ?hr114 (by decide) ?hQ114 (Or.inl ⟨?hw114, ?hy114⟩) (⟨hS.1, fun h => hS.2 (by first | rfl | exact h)⟩) ?rest114
            case hi114 => simp only [List.getElem?_toArray, List.getElem?_cons_succ, List.getElem?_cons_zero]; rfl
            case hf114 => kernel_rfl
            case hr114 => kernel_rfl
            case hw114 => rfl
            case hy114 => (intro w hSw; (try dsimp only at hSw); go_simp; all_goals (first | done | with_reducible rfl))
            case hQ114 => exact fun _ _ _ h => h
            simp only [Act.put, List.setIfInBounds_toArray, List.set_cons_zero, List.set_cons_succ]
            refine wpAnyL_take1 (i := 1) (oi := ?oi115) (om := ?om115) (v := ?v115) ?hi115 (by kernel_rfl) ?hf115 ?hr115 (by decide) ?hm115 ?hd115 (by rfl) ?hQ115 (Or.inl ⟨?hw115, ?hy115⟩) (⟨hS.1, fun h => hS.2 (by first | rfl | exact h)⟩) ?rest115
            case hi115 => simp only [List.getElem?_toArray, List.getElem?_cons_succ, List.getElem?_cons_zero]; rfl
            case hm115 => simp only [List.getElem?_toArray, List.getElem?_cons_succ, List.getElem?_cons_zero]; rfl
            case hd115 => kernel_rfl
            case hf115 => kernel_rfl
            case hr115 => kernel_rfl
            case hw115 => rfl
            case hy115 => (intro w hSw; (try dsimp only at hSw); go_simp; all_goals (first | done | with_reducible rfl))
            case hQ115 => exact fun _ _ _ h => h
            simp only [Act.put, List.setIfInBounds_toArray, List.set_cons_zero, List.set_cons_succ]
            refine wpAnyL_take (i := 3) (oi := ?oi116) (v := ?v116) ?hi116 (by kernel_rfl) ?hf116 ?hr116 (by decide) ?hQ116 (Or.inl ⟨?hw116, ?hy116⟩) (⟨hS.1, fun h => hS.2 (by first | rfl | exact h)⟩) ?rest116
            case hi116 => simp only [List.getElem?_toArray, List.getElem?_cons_succ, List.getElem?_cons_zero]; rfl
            case hf116 => kernel_rfl
            case hr116 => kernel_rfl
            case hw116 => rfl
            case hy116 => (intro w hSw; (try dsimp only at hSw); go_simp; all_goals (first | done | with_reducible rfl))
            case hQ116 => exact fun _ _ _ h => h
            simp only [Act.put, List.setIfInBounds_toArray, List.set_cons_zero, List.set_cons_succ]
            refine wpAnyL_take (i := 5) (oi := ?oi117) (v := ?v117) ?hi117 (by kernel_rfl) ?hf117 ?hr117 (by decide) ?hQ117 (Or.inl ⟨?hw117, ?hy117⟩) (⟨hS.1, fun h => hS.2 (by first | rfl | exact h)⟩) ?rest117
            case hi117 => simp only [List.getElem?_toArray, List.getElem?_cons_succ, List.getElem?_cons_zero]; rfl
            case hf117 => kernel_rfl
            case hr117 => kernel_rfl
            case hw117 => rfl
            case hy117 => (intro w hSw; (try dsimp only at hSw); go_simp; all_goals (first | done | with_reducible rfl))
            case hQ117 => exact fun _ _ _ h => h
            simp only [Act.put, List.setIfInBounds_toArray, List.set_cons_zero, List.set_cons_succ]
            refine wpAnyL_take (i := 6) (oi := ?oi118) (v := ?v118) ?hi118 (by kernel_rfl) ?hf118 ?hr118 (by decide) ?hQ118 (Or.inl ⟨?hw118, ?hy118⟩) (⟨hS.1, fun h => hS.2 (by first | rfl | exact h)⟩) ?rest118
            case hi118 => simp only [List.getElem?_toArray, List.getElem?_cons_succ, List.getElem?_cons_zero]; rfl
            case hf118 => kernel_rfl
            case hr118 => kernel_rfl
            case hw118 => rfl
            case hy118 => (intro w hSw; (try dsimp only at hSw); go_simp; all_goals (first | done | with_reducible rfl))
            case hQ118 => exact fun _ _ _ h => h
            simp only [Act.put, List.setIfInBounds_toArray, List.set_cons_zero, List.set_cons_succ]
            refine wpAnyL_ready (rs := [7]) (by kernel_rfl) (by simp) ?_
            refine AllReadyL.cons (o := ?oi119) ?hi119 (fun K hK => ?step119) AllReadyL.nil
            case hi119 => simp only [List.getElem?_toArray, List.getElem?_cons_succ, List.getElem?_cons_zero]; rfl
            rw [if_pos (by rfl)]
            go_simp
            refine hK.out _ _ ⟨⟨(World.cell?_alloc_past _ _ _ hbob).trans yc, (World.cell?_alloc_past _ _ _ hgW).trans u0, (World.cell?_alloc_past _ _ _ hgW).trans u1, (World.cell?_alloc_past _ _ _ hgW).trans u2, (World.cell?_alloc_past _ _ _ hgW).trans u3, (World.cell?_alloc_past _ _ _ hgW).trans u4, (World.cell?_alloc_past _ _ _ hgW).trans u5⟩, fun _ => (World.cell?_alloc_past _ _ _ hbqb).trans o0⟩ (fun hS => ?_)
            refine wpAnyL_ready (rs := [8]) (by kernel_rfl) (by simp) ?_
            refine AllReadyL.cons (o := ?oi120) ?hi120 (fun K hK => ?step120) AllReadyL.nil
            case hi120 => simp only [List.getElem?_toArray, List.getElem?_cons_succ, List.getElem?_cons_zero]; rfl
            rw [if_pos (by rfl)]
            refine wp_app rfl (by rfl) (by rfl) HRun.out ?_
            refine hK.out _ _ ⟨HV.out, fun _ => (HQ6.out.2 0 _ rfl).1⟩ (fun hS => ?_)
            simp only [Act.put, List.setIfInBounds_toArray, List.set_cons_zero, List.set_cons_succ]
            refine wpAnyL_take (i := 9) (oi := ?oi121) (v := ?v121) ?hi121 (by kernel_rfl) ?hf121 ?hr121 (by decide) ?hQ121 (Or.inl ⟨?hw121, ?hy121⟩) (⟨hS.1, fun h => hS.2 (by first | rfl | exact h)⟩) ?rest121
            case hi121 => simp only [List.getElem?_toArray, List.getElem?_cons_succ, List.getElem?_cons_zero]; rfl
            case hf121 => kernel_rfl
            case hr121 => kernel_rfl
            case hw121 => rfl
            case hy121 => (intro w hSw; (try dsimp only at hSw); go_simp; all_goals (first | done | with_reducible rfl))
            case hQ121 => exact fun _ _ _ h => h
            simp only [Act.put, List.setIfInBounds_toArray, List.set_cons_zero, List.set_cons_succ]
            have o9 := (HQ6.out.2 0 _ rfl).1
            have o9f := (HQ6.out.2 0 _ rfl).2
            have hqb : bq ≠ bo := fun e => hbo34 e.symm
            have hqg : bq ≠ g := HQG.out
            refine wpAnyL_ready (rs := [10]) (by kernel_rfl) (by simp) ?_
            refine AllReadyL.cons (o := ?oi122) ?hi122 (fun K hK => ?step122) AllReadyL.nil
            case hi122 => simp only [List.getElem?_toArray, List.getElem?_cons_succ, List.getElem?_cons_zero]; rfl
            rw [if_pos (by rfl)]
            go_simp
            refine hK.out _ _ ⟨⟨(World.cell?_setCell_far _ _ _ _ hqb).trans HV.out.1, (World.cell?_setCell_far _ _ _ _ hqg).trans HV.out.2.1, (World.cell?_setCell_far _ _ _ _ hqg).trans HV.out.2.2.1, (World.cell?_setCell_far _ _ _ _ hqg).trans HV.out.2.2.2.1, (World.cell?_setCell_far _ _ _ _ hqg).trans HV.out.2.2.2.2.1, (World.cell?_setCell_far _ _ _ _ hqg).trans HV.out.2.2.2.2.2.1, (World.cell?_setCell_far _ _ _ _ hqg).trans HV.out.2.2.2.2.2.2⟩, fun h => absurd h (by decide)⟩ (fun hS => ?_)
            refine wpAnyL_done (by kernel_rfl) ?_ _
            clear hS o0 o9 o9f u0 u1 u2 u3 u4 u5 yc
            go_wp2_with fail
            go_roundw
            case rel =>
              refine ⟨k + 1, m + 1, kept ++ [x], A5, c5, by go_num, by omega, by omega, ?_, HADD.out.symm, HR6.out, HK6.out.apart _ _ hqb, ?_, HN6.out, HB6.out.setCell hbo3 _⟩
              · show List.length _ = _; rw [List.length_append, HLk.out]; rfl
              · have h9 := HQ6.out.set 0 (.slice A5 (m + 1) c5)
                exact hid (by simpa using h9)
            case measure => simp [intOf]; omega
      · obtain rfl : k = n := by omega
        have hkall : kept = ls.filter keepV := by rw [HC.out, List.take_of_length_le (by have := HLn.out; omega)]
        have HKA := hid hkall
        have b0 := (HQx.out.2 0 _ rfl).1
        have b1 := (HQx.out.2 1 _ rfl).1
        have b2 := (HQx.out.2 2 _ rfl).1
        have KR9 := hid (KR1.out.to HBx.out)
        clear hkall
        obtain ⟨q0c, q0f⟩ := KR9.out.2 0 _ rfl
        obtain ⟨q1c, q1f⟩ := KR9.out.2 1 _ rfl
        obtain ⟨q2c, q2f⟩ := KR9.out.2 2 _ rfl
        go_wp2_with fail
        have RB := ((KR9.out.set 0 (.slice Ac m cc)).set 1 (.slice A4 n2 c4)).set 2 (.int .i64 q)
        have f0 := (RB.2 0 _ rfl).1
        have f1 := (RB.2 1 _ rfl).1
        have f2 := (RB.2 2 _ rfl).1
        refine bodyPost_ret (v := .agg #[.slice Ac m cc, .slice A4 n2 c4, .int .i64 q]) (by simp [results, Tryz.results35, go_sem, f0, f1, f2]) rfl ?_
        rw [HX.out]
        refine ⟨_, _, rfl, ⟨_, _, kept, hs', rfl, ?_, HH.out, rfl⟩, ?_, ?_⟩
        · rw [HKA.out, lsOf_filt, HL.out]; rfl
        · refine Rows.base ?_ (show w.heap.size ≤ w1.heap.size by omega)
          iterate 3 refine Rows.low ?_ (by omega)
          have h9 := keepRows_end HRx.out (by rw [HKA.out]; exact List.filter_sublist)
          rw [HLk.out, HLn2.out]
          exact h9
        · iterate 3 refine Below.setCell ?_ (by simp; try omega) _
          exact HWx.out
end Go.Proofs.YtioegkcekbkblaaGreat
