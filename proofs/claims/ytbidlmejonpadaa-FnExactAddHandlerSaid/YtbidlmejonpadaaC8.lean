/-
  TREES changed: one cell of a logger: the program's SetLevel, SetStop, SetOff. By gen_c8.py.
-/
import Derived.Test.YtbidlmejonpadaaC7
namespace Go.Proofs.Ytbidlmejonpadaa
open Go.RowKit Nm
set_option linter.unusedSimpArgs false
set_option linter.unusedVariables false

def updL (L : List Lgr) (k : Nat) (f : Lgr → Lgr) : List Lgr := match L[k]? with | some l => L.set k (f l) | none => L
/-- a change of one cell of a logger -/
structure OneCell (f : Lgr → Lgr) (j : Nat) (u : Value) : Prop where
  nm : ∀ l, (f l).nm = l.nm
  hs : ∀ l, (f l).hs = l.hs
  fs : ∀ l, (f l).fs = l.fs
  cells : ∀ x : LgrV, lcells { x with l := f x.l } = (lcells x).set j u
  lt : j < 6
theorem lsOf_upd {ls : List LgrV} {k : Nat} {x : LgrV} (h : ls[k]? = some x) (f : Lgr → Lgr) : lsOf (ls.set k { x with l := f x.l }) = updL (lsOf ls) k f := by
  have e : (lsOf ls)[k]? = some x.l := by unfold lsOf; rw [List.getElem?_map, h]; rfl
  unfold updL
  rw [e]
  unfold lsOf
  rw [List.map_set]
theorem upd_fit {f : Lgr → Lgr} {j : Nat} {u : Value} (hf : OneCell f j u) {L : List Lgr} {H : List Hnd} {k : Nat} (h : dataFit L H) : dataFit (updL L k f) H := by
  unfold updL
  cases e : L[k]? with
  | none => exact h
  | some l =>
    refine ⟨⟨by show (L.set k (f l)).length ≤ _; rw [List.length_set]; exact h.1.1, fun a ha => ?_⟩, h.2⟩
    rcases List.mem_or_eq_of_mem_set ha with ha | rfl
    · exact h.1.2 a ha
    · have := h.1.2 l (List.mem_of_getElem? e)
      unfold lgrFit at this ⊢
      rw [hf.nm, hf.hs, hf.fs]; exact this
theorem idx_nat {ns : List (List UInt8)} {x : List UInt8} {k : Nat} (h : idxL ns x = (k : Int)) : k < ns.length ∧ ns[k]? = some x := by
  unfold idxL at h
  split at h
  · rename_i hm
    have h2 := List.idxOf_lt_length_of_mem hm
    have h3 : ns.idxOf x = k := by omega
    subst h3
    exact ⟨h2, by rw [List.getElem?_eq_getElem h2]; simp⟩
  · omega

set_option maxHeartbeats 1000000 in
theorem cloLgr_c {f : Lgr → Lgr} {j : Nat} {u : Value} (hf : OneCell f j u) {w : World} {L : List Lgr} {H : List Hnd} {q : Int} {k bf ba : Nat} {cf : Value} (hk : k < L.length) (hbf : w.cell? ⟨bf, 0, none⟩ = some cf) (hba : w.cell? ⟨ba, 0, none⟩ = some (.int .i64 k))
    (hC : ∀ (W : World) (bc g n c : Nat) (v2 x : Value), Below w.heap.size w W → k < n → n ≤ c → c ≤ maxLen → Blk W bc [.slice (some ⟨g, 0, none⟩) n c, v2, .int .i64 q] → W.cell? ⟨bf, 0, none⟩ = some cf → W.cell? ⟨ba, 0, none⟩ = some (.int .i64 k) → W.cell? ⟨g, k * 6 + j, none⟩ = some x → W.frozen? ⟨g, k * 6 + j, none⟩ = false → g ≠ bc → g ≠ bf → g ≠ ba →
      Calls Try.prog 96 #[.pointer (some ⟨bc, 0, none⟩), .pointer (some ⟨bf, 0, none⟩), .pointer (some ⟨ba, 0, none⟩)] W fun e w' => e = .returned (.bool true) ∧ w' = W.drew.setCell ⟨g, k * 6 + j, none⟩ u)
    (W : World) (lo bc : Nat) (v1 v2 : Value) (rs : List Row) (hp : CloPre w lo bc W v1 v2 rs L H q) :
    Calls Try.prog 96 #[.pointer (some ⟨bc, 0, none⟩), .pointer (some ⟨bf, 0, none⟩), .pointer (some ⟨ba, 0, none⟩)] W (CloPost lo bc W (some (updL L k f, H, q))) := by
  obtain ⟨hb, hlo, hbc, hkb, hs, hr, hap, hd⟩ := hp
  obtain ⟨u1, u2, ls, hs', e, h1, h2, h3⟩ := hs
  have e' : v1 = u1 ∧ v2 = u2 := by simpa using e
  obtain ⟨rfl, rfl⟩ := e'
  subst h3
  have hkl : k < ls.length := by rw [← h1] at hk; simpa [lsOf] using hk
  obtain ⟨hl, hh⟩ := hr.lsIn
  obtain ⟨A, c, rfl, hnc, hcm⟩ := hl.1.form
  obtain ⟨A4, c4, rfl, _, _⟩ := hh.1.form
  clear hl hh
  rw [treeRows_eq] at hr hap
  have hr0 : Rows W lo ([] ++ two 65 6 ls.length (.slice A ls.length c) lcells lrows ls ++ two 49 3 hs'.length (.slice A4 hs'.length c4) hcells hrows hs') := by simpa using hr
  obtain ⟨g, rfl, hglt⟩ := own_some hr0.top (by omega)
  have hgl : lo ≤ g := (hr0.top.lt g rfl).1
  obtain ⟨x, hx⟩ : ∃ x, ls[k]? = some x := ⟨_, List.getElem?_eq_getElem hkl⟩
  obtain ⟨y, hy⟩ : ∃ y, (lcells x)[j]? = some y := ⟨_, List.getElem?_eq_getElem (by rw [lcells_len]; exact hf.lt)⟩
  obtain ⟨c1, c2⟩ := hr0.cell_at (j := j) lcells_len hx hy
  have hgb : g ≠ bc := fun e => hap ⟨65, 6, ls.length, .slice (some ⟨g, 0, none⟩) ls.length c, ls.flatMap lcells⟩ (by simp [two]) (by rw [← e]; rfl)
  have hbfw : bf < w.heap.size := World.block_lt_of_cell? w _ hbf
  have hbaw : ba < w.heap.size := World.block_lt_of_cell? w _ hba
  refine (hC W bc g ls.length c _ y hb hkl hnc hcm hkb ((hb.cell (p := ⟨bf, 0, none⟩) hbfw).trans hbf) ((hb.cell (p := ⟨ba, 0, none⟩) hbaw).trans hba) c1 c2 hgb (by omega) (by omega)).mono ?_
  rintro e w' ⟨rfl, rfl⟩
  have hbd : Below W.heap.size W W.drew := (Below.refl _ _).drew
  refine ⟨((Below.refl lo W).drew).setCell hgl _, rfl, fun x' hx' => ?_⟩
  obtain rfl := Option.some.inj hx'
  have hr1 : Rows W.drew lo _ := hr0.below hbd
  have hr2 := hr1.cellset (j := j) (e := 2) (x := x) (y := { x with l := f x.l }) (u := u) lcells_len lrows_len hx hf.lt (hf.cells x) (by simp [lrows, hf.hs, hf.fs])
  refine ⟨_, _, _, _, _, _, treeRows (ls.set k { x with l := f x.l }).length _ (ls.set k { x with l := f x.l }) hs'.length _ hs', (hkb.dr 1).apart ⟨g, _, none⟩ _ hgb, ⟨_, _, ls.set k { x with l := f x.l }, hs', rfl, by rw [lsOf_upd hx f, h1], h2, rfl⟩, ?_, upd_fit hf hd⟩
  rw [treeRows_eq, List.length_set]
  simpa using hr2

/-- what a change of the logger of a name gives -/
def lgrX (L : List Lgr) (H : List Hnd) (q : Int) (s : List UInt8) (f : Lgr → Lgr) : Option TreeD :=
  if idxL (namesOf L) s < 0 then none else changedO L H q (some (updL L (idxL (namesOf L) s).toNat f, H, q))
theorem lgr_fit (L : List Lgr) (H : List Hnd) (q : Int) (s : List UInt8) (f : Lgr → Lgr) : dataFit (resL (lgrX L H q s f)) (resH (lgrX L H q s f)) := by
  unfold lgrX
  split
  · exact ⟨⟨by simp [resL], by simp [resL]⟩, ⟨by simp [resH], by simp [resH]⟩⟩
  · exact changed_fit _ _ _ _

set_option maxHeartbeats 4000000 in
set_option maxRecDepth 100000 in
theorem implChangedLogger_c {w : World} {B : Nat} {v : Value} {L : List Lgr} {H : List Hnd} {q : Int} (s : ByteArray) (G : Nat) (cg : Value) {f : Lgr → Lgr} {j : Nat} {u : Value} (hf : OneCell f j u) (h : TreeIn w B v L H q) (hB : B ≤ w.heap.size)
    (hC : ∀ (w1 W : World) (k bc bf ba g n c : Nat) (v2 x : Value), Below w.heap.size w w1 → Below w1.heap.size w1 W → k < n → n ≤ c → c ≤ maxLen → Blk W bc [.slice (some ⟨g, 0, none⟩) n c, v2, .int .i64 q] → W.cell? ⟨bf, 0, none⟩ = some (.func (.func G) #[] #[cg]) → W.cell? ⟨ba, 0, none⟩ = some (.int .i64 k) → W.cell? ⟨g, k * 6 + j, none⟩ = some x → W.frozen? ⟨g, k * 6 + j, none⟩ = false → g ≠ bc → g ≠ bf → g ≠ ba →
      Calls Try.prog 96 #[.pointer (some ⟨bc, 0, none⟩), .pointer (some ⟨bf, 0, none⟩), .pointer (some ⟨ba, 0, none⟩)] W fun e w' => e = .returned (.bool true) ∧ w' = W.drew.setCell ⟨g, k * 6 + j, none⟩ u) :
    Calls Try.prog 71 #[v, .string s, .func (.func G) #[] #[cg]] w (TreePostO w (lgrX L H q s.data.toList f)) := by
  have C := fun (W : World) (hW : Below w.heap.size w W) => implLoggerAtX_c s (h.below hW hB) (Nat.le_trans hB hW.size)
  have CH := hid (fun (W : World) (hW : Below w.heap.size w W) => h.below hW hB)
  obtain ⟨A1, n1, k1, A2, n2, k2, rfl⟩ := h.form
  have hmf : ∀ (fn : Fn) (first cap : Array Value) (w : World), (Instr.makeFunc fn first cap).run Try.prog w = .ok (.func fn first cap) w := fun _ _ _ _ => rfl
  clear h
  by_cases hneg : (if treeOk L H q then idxL (namesOf L) s.data.toList else -1) < 0
  · have HE := hid (show lgrX L H q s.data.toList f = none by
      unfold lgrX
      by_cases hz : treeOk L H q = true
      · rw [if_pos hz] at hneg; rw [if_pos hneg]
      · unfold changedO; rw [if_neg hz]; split <;> rfl)
    generalize (if treeOk L H q then idxL (namesOf L) s.data.toList else -1) = z at C hneg
    replace C := hid C
    clear hC CH
    go_enter Try.func71, Try.ntmps71
    go_wp2_with fail
    refine (C.out _ ?_).mono ?_
    case refine_1 => go_grown
    rintro e w1 ⟨rfl, hb1⟩
    have K1 := ((Blk.new _ _ _).to hb1)
    simp only [World.size_alloc] at K1
    have HK1 := hid K1
    have HB1 := hid (Below.trans (by go_grown) (hb1.mono (by simp; try omega)) : Below w.heap.size w w1)
    have HK2 := hid (HK1.out.alloc (.cells #[.int .i64 z] 3))
    have HB2 := hid (HB1.out.alloc HB1.out.size (.cells #[.int .i64 z] 3))
    obtain ⟨q0c, q0f⟩ := HK2.out.2 0 _ rfl
    obtain ⟨q1c, q1f⟩ := HK2.out.2 1 _ rfl
    obtain ⟨q2c, q2f⟩ := HK2.out.2 2 _ rfl
    clear hb1 K1
    go_wp2_with fail
    have RB := ((HK2.out.set 0 (.slice none 0 0)).set 1 (.slice none 0 0)).set 2 (.int .i64 0)
    have f0 := (RB.2 0 _ rfl).1
    have f1 := (RB.2 1 _ rfl).1
    have f2 := (RB.2 2 _ rfl).1
    refine bodyPost_ret (v := .tuple #[.agg #[.slice none 0 0, .slice none 0 0, .int .i64 0], .bool false]) (by simp [results, Try.results71, go_sem, f0, f1, f2]) rfl ?_
    refine postO_none HE.out rfl ?_
    iterate 3 refine Below.setCell ?_ (by simp; try omega) _
    exact HB2.out
  · obtain ⟨k, hzk⟩ : ∃ k : Nat, (if treeOk L H q then idxL (namesOf L) s.data.toList else -1) = (k : Int) := ⟨_, (Int.toNat_of_nonneg (by omega)).symm⟩
    have hzt : treeOk L H q = true := by
      by_cases hz : treeOk L H q = true
      · exact hz
      · rw [if_neg hz] at hneg; omega
    rw [hzk] at C
    rw [if_pos hzt] at hzk
    have hkl : k < L.length := by have := (idx_nat hzk).1; simpa [namesOf] using this
    have HE := hid (show lgrX L H q s.data.toList f = changedO L H q (some (updL L k f, H, q)) by unfold lgrX; rw [hzk, if_neg (by omega)]; rfl)
    replace C := hid C
    have HC := hid hC
    clear hC hneg hzk hzt
    generalize hX : lgrX L H q s.data.toList f = X at HE ⊢
    clear hX
    go_enter Try.func71, Try.ntmps71
    go_wp2_with fail
    refine (C.out _ ?_).mono ?_
    case refine_1 => go_grown
    rintro e w1 ⟨rfl, hb1⟩
    have K0 := ((((Blk.new _ _ _).alloc _).alloc _).to hb1)
    have KF := (((Blk.new _ _ _).alloc _).to hb1)
    have K1 := ((Blk.new _ _ _).to hb1)
    simp only [World.size_alloc] at K0 KF K1
    have HB1 := hid (Below.trans (by go_grown) (hb1.mono (by simp; try omega)) : Below w.heap.size w w1)
    have hw1 : w.heap.size + 3 ≤ w1.heap.size := by have := hb1.size; simp at this; omega
    have HK1 := hid K1
    have HW := hid (show Below w.heap.size w (w1.alloc (.cells #[.int .i64 k] 3)) from HB1.out.alloc HB1.out.size _)
    have HKF := hid (KF.alloc (.cells #[.int .i64 k] 3))
    have HKA := hid (Blk.new w1 #[.int .i64 k] 3)
    have HK2 := hid (K1.alloc (.cells #[.int .i64 k] 3))
    have CQ := hid (implChanged2_c 96 (.pointer (some ⟨w.heap.size + 1, 0, none⟩)) (.pointer (some ⟨w1.heap.size, 0, none⟩)) (some (updL L k f, H, q)) (CH.out _ HW.out) (Nat.le_trans hB HW.out.size) (fun args w => enters rfl (by kernel_rfl) rfl args w)
      (fun W lo bc v1 v2 rs _ hp => cloLgr_c hf hkl (HKF.out.2 0 _ rfl).1 (HKA.out.2 0 _ rfl).1 (fun W' bc' g n c v2' x hb' => HC.out _ W' k bc' _ _ g n c v2' x HW.out hb') W lo bc v1 v2 rs hp))
    have K0' := K0.alloc (.cells #[.int .i64 k] 3)
    have d0 := (K0'.2 0 _ rfl).1
    have d1 := (K0'.2 1 _ rfl).1
    have d2 := (K0'.2 2 _ rfl).1
    clear hb1 K0 K0' K1 KF
    go_wp2_with fail
    refine (CQ.out).mono ?_
    rintro e w2 ⟨v', rs, rfl, hs, hr, hb2⟩
    have HX' := hid (show changedO L H q (some (updL L k f, H, q)) = X from HE.out.symm)
    rw [HX'.out] at hs
    obtain ⟨u1, u2, ls, hs', rfl, hL, hH, rfl⟩ := hs
    have KR1 := hid (HK2.out.to hb2)
    have HB2 := hid (HW.out.trans (hb2.mono HW.out.size))
    have HR1 := hid (hr.base (show w.heap.size + 3 ≤ _ by simp; omega))
    have HS1 := hid (show TreeS (treeRows ls.length u1 ls hs'.length u2 hs') (.agg #[u1, u2, .int .i64 (resQ X)]) (resL X) (resH X) (resQ X) from ⟨u1, u2, ls, hs', rfl, hL, hH, rfl⟩)
    obtain ⟨hl, hh⟩ := hr.lsIn
    obtain ⟨A3, c3, rfl, _, _⟩ := hl.1.form
    obtain ⟨A4, c4, rfl, _, _⟩ := hh.1.form
    obtain ⟨q0c, q0f⟩ := KR1.out.2 0 _ rfl
    obtain ⟨q1c, q1f⟩ := KR1.out.2 1 _ rfl
    obtain ⟨q2c, q2f⟩ := KR1.out.2 2 _ rfl
    generalize hq0 : resQ X = q0 at *
    generalize hi0 : (changedO L H q (some (updL L k f, H, q))).isSome = i0 at *
    have HI := hid (show X.isSome = i0 by rw [← HX'.out]; exact hi0)
    have HQ0 := hid hq0
    clear hq0 hi0 hb2 hr hl hh hL hH
    go_wp2_with fail
    have RB := ((KR1.out.set 0 (.slice A3 ls.length c3)).set 1 (.slice A4 hs'.length c4)).set 2 (.int .i64 q0)
    have f0 := (RB.2 0 _ rfl).1
    have f1 := (RB.2 1 _ rfl).1
    have f2 := (RB.2 2 _ rfl).1
    refine bodyPost_ret (v := .tuple #[.agg #[.slice A3 ls.length c3, .slice A4 hs'.length c4, .int .i64 q0], .bool i0]) (by simp [results, Try.results71, go_sem, f0, f1, f2]) rfl ?_
    refine ⟨_, _, by rw [HI.out], (by rw [HQ0.out]; exact HS1.out), ?_, ?_⟩
    · refine Rows.base ?_ (show w.heap.size ≤ w.heap.size + 3 by omega)
      iterate 3 refine Rows.low ?_ (by omega)
      exact HR1.out
    · iterate 3 refine Below.setCell ?_ (by simp; try omega) _
      exact HB2.out

def setLevelF (lv : Int) (l : Lgr) : Lgr := { l with lv := lv }
theorem setLevel_one (lv : Int) : OneCell (setLevelF lv) 1 (.int .i64 lv) := ⟨fun _ => rfl, fun _ => rfl, fun _ => rfl, fun _ => rfl, by omega⟩
def setStopF (b : Bool) (l : Lgr) : Lgr := { l with stop := b }
theorem setStop_one (b : Bool) : OneCell (setStopF b) 4 (.bool b) := ⟨fun _ => rfl, fun _ => rfl, fun _ => rfl, fun _ => rfl, by omega⟩
def setOffF (b : Bool) (l : Lgr) : Lgr := { l with off := b }
theorem setOff_one (b : Bool) : OneCell (setOffF b) 5 (.bool b) := ⟨fun _ => rfl, fun _ => rfl, fun _ => rfl, fun _ => rfl, by omega⟩
end Go.Proofs.Ytbidlmejonpadaa
