/-
  TREES changed: one cell of a logger: the program's SetLevel, SetStop, SetOff. By gen_c8.py.
-/
import Derived.Test.YtpfnjkmkenaipaaC7
namespace Go.Proofs.Ytpfnjkmkenaipaa
open Go.RowKit Nm
set_option linter.unusedSimpArgs false
set_option linter.unusedVariables false

def updL (L : List Lgr) (k : Nat) (f : Lgr → Lgr) : List Lgr := match L[k]? with | some l => L.set k (f l) | none => L
/-- a change of one cell of a logger -/
structure OneCell (f : Lgr → Lgr) (j : Nat) (u : Value) : Prop where
  nm : ∀ l, (f l).nm = l.nm
  hs : ∀ l, (f l).hs = l.hs
  fs : ∀ l, (f l).fs = l.fs
  cells : ∀ x : LgrV, lcells { x with l := f x.l } = (lcells x).set j u
  lt : j < 6
theorem lsOf_upd {ls : List LgrV} {k : Nat} {x : LgrV} (h : ls[k]? = some x) (f : Lgr → Lgr) : lsOf (ls.set k { x with l := f x.l }) = updL (lsOf ls) k f := by
  have e : (lsOf ls)[k]? = some x.l := by unfold lsOf; rw [List.getElem?_map, h]; rfl
  unfold updL
  rw [e]
  unfold lsOf
  rw [List.map_set]
theorem upd_fit {f : Lgr → Lgr} {j : Nat} {u : Value} (hf : OneCell f j u) {L : List Lgr} {H : List Hnd} {k : Nat} (h : dataFit L H) : dataFit (updL L k f) H := by
  unfold updL
  cases e : L[k]? with
  | none => exact h
  | some l =>
    refine ⟨⟨by show (L.set k (f l)).length ≤ _; rw [List.length_set]; exact h.1.1, fun a ha => ?_⟩, h.2⟩
    rcases List.mem_or_eq_of_mem_set ha with ha | rfl
    · exact h.1.2 a ha
    · have := h.1.2 l (List.mem_of_getElem? e)
      unfold lgrFit at this ⊢
      rw [hf.nm, hf.hs, hf.fs]; exact this
theorem idx_nat {ns : List (List UInt8)} {x : List UInt8} {k : Nat} (h : idxL ns x = (k : Int)) : k < ns.length ∧ ns[k]? = some x := by
  unfold idxL at h
  split at h
  · rename_i hm
    have h2 := List.idxOf_lt_length_of_mem hm
    have h3 : ns.idxOf x = k := by omega
    subst h3
    exact ⟨h2, by rw [List.getElem?_eq_getElem h2]; simp⟩
  · omega

set_option maxHeartbeats 1000000 in
theorem cloLgr_c {f : Lgr → Lgr} {j : Nat} {u : Value} (hf : OneCell f j u) {w : World} {L : List Lgr} {H : List Hnd} {q : Int} {k bf ba : Nat} {cf : Value} (hk : k < L.length) (hbf : w.cell? ⟨bf, 0, none⟩ = some cf) (hba : w.cell? ⟨ba, 0, none⟩ = some (.int .i64 k))
    (hC : ∀ (W : World) (bc g n c : Nat) (v2 x : Value), Below w.heap.size w W → k < n → n ≤ c → c ≤ maxLen → Blk W bc [.slice (some ⟨g, 0, none⟩) n c, v2, .int .i64 q] → W.cell? ⟨bf, 0, none⟩ = some cf → W.cell? ⟨ba, 0, none⟩ = some (.int .i64 k) → W.cell? ⟨g, k * 6 + j, none⟩ = some x → W.frozen? ⟨g, k * 6 + j, none⟩ = false → g ≠ bc → g ≠ bf → g ≠ ba →
      Calls Try.prog 91 #[.pointer (some ⟨bc, 0, none⟩), .pointer (some ⟨bf, 0, none⟩), .pointer (some ⟨ba, 0, none⟩)] W fun e w' => e = .returned (.bool true) ∧ w' = W.drew.setCell ⟨g, k * 6 + j, none⟩ u)
    (W : World) (lo bc : Nat) (v1 v2 : Value) (rs : List Row) (hp : CloPre w lo bc W v1 v2 rs L H q) :
    Calls Try.prog 91 #[.pointer (some ⟨bc, 0, none⟩), .pointer (some ⟨bf, 0, none⟩), .pointer (some ⟨ba, 0, none⟩)] W (CloPost lo bc W (some (updL L k f, H, q))) := by
  obtain ⟨hb, hlo, hbc, hkb, hs, hr, hap, hd⟩ := hp
  obtain ⟨u1, u2, ls, hs', e, h1, h2, h3⟩ := hs
  have e' : v1 = u1 ∧ v2 = u2 := by simpa using e
  obtain ⟨rfl, rfl⟩ := e'
  subst h3
  have hkl : k < ls.length := by rw [← h1] at hk; simpa [lsOf] using hk
  obtain ⟨hl, hh⟩ := hr.lsIn
  obtain ⟨A, c, rfl, hnc, hcm⟩ := hl.1.form
  obtain ⟨A4, c4, rfl, _, _⟩ := hh.1.form
  clear hl hh
  rw [treeRows_eq] at hr hap
  have hr0 : Rows W lo ([] ++ two 47 6 ls.length (.slice A ls.length c) lcells lrows ls ++ two 60 3 hs'.length (.slice A4 hs'.length c4) hcells hrows hs') := by simpa using hr
  obtain ⟨g, rfl, hglt⟩ := own_some hr0.top (by omega)
  have hgl : lo ≤ g := (hr0.top.lt g rfl).1
  obtain ⟨x, hx⟩ : ∃ x, ls[k]? = some x := ⟨_, List.getElem?_eq_getElem hkl⟩
  obtain ⟨y, hy⟩ : ∃ y, (lcells x)[j]? = some y := ⟨_, List.getElem?_eq_getElem (by rw [lcells_len]; exact hf.lt)⟩
  obtain ⟨c1, c2⟩ := hr0.cell_at (j := j) lcells_len hx hy
  have hgb : g ≠ bc := fun e => hap ⟨47, 6, ls.length, .slice (some ⟨g, 0, none⟩) ls.length c, ls.flatMap lcells⟩ (by simp [two]) (by rw [← e]; rfl)
  have hbfw : bf < w.heap.size := World.block_lt_of_cell? w _ hbf
  have hbaw : ba < w.heap.size := World.block_lt_of_cell? w _ hba
  refine (hC W bc g ls.length c _ y hb hkl hnc hcm hkb ((hb.cell (p := ⟨bf, 0, none⟩) hbfw).trans hbf) ((hb.cell (p := ⟨ba, 0, none⟩) hbaw).trans hba) c1 c2 hgb (by omega) (by omega)).mono ?_
  rintro e w' ⟨rfl, rfl⟩
  have hbd : Below W.heap.size W W.drew := (Below.refl _ _).drew
  refine ⟨((Below.refl lo W).drew).setCell hgl _, rfl, fun x' hx' => ?_⟩
  obtain rfl := Option.some.inj hx'
  have hr1 : Rows W.drew lo _ := hr0.below hbd
  have hr2 := hr1.cellset (j := j) (e := 2) (x := x) (y := { x with l := f x.l }) (u := u) lcells_len lrows_len hx hf.lt (hf.cells x) (by simp [lrows, hf.hs, hf.fs])
  refine ⟨_, _, _, _, _, _, treeRows (ls.set k { x with l := f x.l }).length _ (ls.set k { x with l := f x.l }) hs'.length _ hs', (hkb.dr 1).apart ⟨g, _, none⟩ _ hgb, ⟨_, _, ls.set k { x with l := f x.l }, hs', rfl, by rw [lsOf_upd hx f, h1], h2, rfl⟩, ?_, upd_fit hf hd⟩
  rw [treeRows_eq, List.length_set]
  simpa using hr2

/-- what a change of the logger of a name gives -/
def lgrX (L : List Lgr) (H : List Hnd) (q : Int) (s : List UInt8) (f : Lgr → Lgr) : Option TreeD :=
  if idxL (namesOf L) s < 0 then none else changedO L H q (some (updL L (idxL (namesOf L) s).toNat f, H, q))
theorem lgr_fit (L : List Lgr) (H : List Hnd) (q : Int) (s : List UInt8) (f : Lgr → Lgr) : dataFit (resL (lgrX L H q s f)) (resH (lgrX L H q s f)) := by
  unfold lgrX
  split
  · exact ⟨⟨by simp [resL], by simp [resL]⟩, ⟨by simp [resH], by simp [resH]⟩⟩
  · exact changed_fit _ _ _ _

set_option maxHeartbeats 4000000 in
set_option maxRecDepth 100000 in
theorem implChangedLogger_c {w : World} {B : Nat} {v : Value} {L : List Lgr} {H : List Hnd} {q : Int} (s : ByteArray) (G : Nat) (cg : Value) {f : Lgr → Lgr} {j : Nat} {u : Value} (hf : OneCell f j u) (h : TreeIn w B v L H q) (hB : B ≤ w.heap.size)
    (hC : ∀ (w1 W : World) (k bc bf ba g n c : Nat) (v2 x : Value), Below w.heap.size w w1 → Below w1.heap.size w1 W → k < n → n ≤ c → c ≤ maxLen → Blk W bc [.slice (some ⟨g, 0, none⟩) n c, v2, .int .i64 q] → W.cell? ⟨bf, 0, none⟩ = some (.func (.func G) #[] #[cg]) → W.cell? ⟨ba, 0, none⟩ = some (.int .i64 k) → W.cell? ⟨g, k * 6 + j, none⟩ = some x → W.frozen? ⟨g, k * 6 + j, none⟩ = false → g ≠ bc → g ≠ bf → g ≠ ba →
      Calls Try.prog 91 #[.pointer (some ⟨bc, 0, none⟩), .pointer (some ⟨bf, 0, none⟩), .pointer (some ⟨ba, 0, none⟩)] W fun e w' => e = .returned (.bool true) ∧ w' = W.drew.setCell ⟨g, k * 6 + j, none⟩ u) :
    Calls Try.prog 56 #[v, .string s, .func (.func G) #[] #[cg]] w (TreePostO w (lgrX L H q s.data.toList f)) := by
  have C := fun (W : World) (hW : Below w.heap.size w W) => implLoggerAtX_c s (h.below hW hB) (Nat.le_trans hB hW.size)
  have CH := hid (fun (W : World) (hW : Below w.heap.size w W) => h.below hW hB)
  obtain ⟨A1, n1, k1, A2, n2, k2, rfl⟩ := h.form
  have hmf : ∀ (fn : Fn) (first cap : Array Value) (w : World), (Instr.makeFunc fn first cap).run Try.prog w = .ok (.func fn first cap) w := fun _ _ _ _ => rfl
  clear h
  by_cases hneg : (if treeOk L H q then idxL (namesOf L) s.data.toList else -1) < 0
  · have HE := hid (show lgrX L H q s.data.toList f = none by
      unfold lgrX
      by_cases hz : treeOk L H q = true
      · rw [if_pos hz] at hneg; rw [if_pos hneg]
      · unfold changedO; rw [if_neg hz]; split <;> rfl)
    generalize (if treeOk L H q then idxL (namesOf L) s.data.toList else -1) = z at C hneg
    replace C := hid C
    clear hC CH
    go_enter Try.func56, Try.ntmps56
    go_wp2_with fail
    refine (C.out _ ?_).mono ?_
    case refine_1 => go_grown
    rintro e w1 ⟨rfl, hb1⟩
    have K1 := ((Blk.new _ _ _).to hb1)
    simp only [World.size_alloc] at K1
    have HK1 := hid K1
    have HB1 := hid (Below.trans (by go_grown) (hb1.mono (by simp; try omega)) : Below w.heap.size w w1)
    have HK2 := hid (HK1.out.alloc (.cells #[.int .i64 z] 3))
    have HB2 := hid (HB1.out.alloc HB1.out.size (.cells #[.int .i64 z] 3))
    obtain ⟨q0c, q0f⟩ := HK2.out.2 0 _ rfl
    obtain ⟨q1c, q1f⟩ := HK2.out.2 1 _ rfl
    obtain ⟨q2c, q2f⟩ := HK2.out.2 2 _ rfl
    clear hb1 K1
    go_wp2_with fail
    have RB := ((HK2.out.set 0 (.slice none 0 0)).set 1 (.slice none 0 0)).set 2 (.int .i64 0)
    have f0 := (RB.2 0 _ rfl).1
    have f1 := (RB.2 1 _ rfl).1
    have f2 := (RB.2 2 _ rfl).1
    refine bodyPost_ret (v := .tuple #[.agg #[.slice none 0 0, .slice none 0 0, .int .i64 0], .bool false]) (by simp [results, Try.results56, go_sem, f0, f1, f2]) rfl ?_
    refine postO_none HE.out rfl ?_
    iterate 3 refine Below.setCell ?_ (by simp; try omega) _
    exact HB2.out
  · obtain ⟨k, hzk⟩ : ∃ k : Nat, (if treeOk L H q then idxL (namesOf L) s.data.toList else -1) = (k : Int) := ⟨_, (Int.toNat_of_nonneg (by omega)).symm⟩
    have hzt : treeOk L H q = true := by
      by_cases hz : treeOk L H q = true
      · exact hz
      · rw [if_neg hz] at hneg; omega
    rw [hzk] at C
    rw [if_pos hzt] at hzk
    have hkl : k < L.length := by have := (idx_nat hzk).1; simpa [namesOf] using this
    have HE := hid (show lgrX L H q s.data.toList f = changedO L H q (some (updL L k f, H, q)) by unfold lgrX; rw [hzk, if_neg (by omega)]; rfl)
    replace C := hid C
    have HC := hid hC
    clear hC hneg hzk hzt
    generalize hX : lgrX L H q s.data.toList f = X at HE ⊢
    clear hX
    go_enter Try.func56, Try.ntmps56
    go_wp2_with fail
    refine (C.out _ ?_).mono ?_
    case refine_1 => go_grown
    rintro e w1 ⟨rfl, hb1⟩
    have K0 := ((((Blk.new _ _ _).alloc _).alloc _).to hb1)
    have KF := (((Blk.new _ _ _).alloc _).to hb1)
    have K1 := ((Blk.new _ _ _).to hb1)
    simp only [World.size_alloc] at K0 KF K1
    have HB1 := hid (Below.trans (by go_grown) (hb1.mono (by simp; try omega)) : Below w.heap.size w w1)
    have hw1 : w.heap.size + 3 ≤ w1.heap.size := by have := hb1.size; simp at this; omega
    have HK1 := hid K1
    have HW := hid (show Below w.heap.size w (w1.alloc (.cells #[.int .i64 k] 3)) from HB1.out.alloc HB1.out.size _)
    have HKF := hid (KF.alloc (.cells #[.int .i64 k] 3))
    have HKA := hid (Blk.new w1 #[.int .i64 k] 3)
    have HK2 := hid (K1.alloc (.cells #[.int .i64 k] 3))
    have CQ := hid (implChanged2_c 91 (.pointer (some ⟨w.heap.size + 1, 0, none⟩)) (.pointer (some ⟨w1.heap.size, 0, none⟩)) (some (updL L k f, H, q)) (CH.out _ HW.out) (Nat.le_trans hB HW.out.size) (fun args w => enters rfl (by kernel_rfl) rfl args w)
      (fun W lo bc v1 v2 rs _ hp => cloLgr_c hf hkl (HKF.out.2 0 _ rfl).1 (HKA.out.2 0 _ rfl).1 (fun W' bc' g n c v2' x hb' => HC.out _ W' k bc' _ _ g n c v2' x HW.out hb') W lo bc v1 v2 rs hp))
    have K0' := K0.alloc (.cells #[.int .i64 k] 3)
    have d0 := (K0'.2 0 _ rfl).1
    have d1 := (K0'.2 1 _ rfl).1
    have d2 := (K0'.2 2 _ rfl).1
    clear hb1 K0 K0' K1 KF
    go_wp2_with fail
    refine (CQ.out).mono ?_
    rintro e w2 ⟨v', rs, rfl, hs, hr, hb2⟩
    have HX' := hid (show changedO L H q (some (updL L k f, H, q)) = X from HE.out.symm)
    rw [HX'.out] at hs
    obtain ⟨u1, u2, ls, hs', rfl, hL, hH, rfl⟩ := hs
    have KR1 := hid (HK2.out.to hb2)
    have HB2 := hid (HW.out.trans (hb2.mono HW.out.size))
    have HR1 := hid (hr.base (show w.heap.size + 3 ≤ _ by simp; omega))
    have HS1 := hid (show TreeS (treeRows ls.length u1 ls hs'.length u2 hs') (.agg #[u1, u2, .int .i64 (resQ X)]) (resL X) (resH X) (resQ X) from ⟨u1, u2, ls, hs', rfl, hL, hH, rfl⟩)
    obtain ⟨hl, hh⟩ := hr.lsIn
    obtain ⟨A3, c3, rfl, _, _⟩ := hl.1.form
    obtain ⟨A4, c4, rfl, _, _⟩ := hh.1.form
    obtain ⟨q0c, q0f⟩ := KR1.out.2 0 _ rfl
    obtain ⟨q1c, q1f⟩ := KR1.out.2 1 _ rfl
    obtain ⟨q2c, q2f⟩ := KR1.out.2 2 _ rfl
    generalize hq0 : resQ X = q0 at *
    generalize hi0 : (changedO L H q (some (updL L k f, H, q))).isSome = i0 at *
    have HI := hid (show X.isSome = i0 by rw [← HX'.out]; exact hi0)
    have HQ0 := hid hq0
    clear hq0 hi0 hb2 hr hl hh hL hH
    go_wp2_with fail
    have RB := ((KR1.out.set 0 (.slice A3 ls.length c3)).set 1 (.slice A4 hs'.length c4)).set 2 (.int .i64 q0)
    have f0 := (RB.2 0 _ rfl).1
    have f1 := (RB.2 1 _ rfl).1
    have f2 := (RB.2 2 _ rfl).1
    refine bodyPost_ret (v := .tuple #[.agg #[.slice A3 ls.length c3, .slice A4 hs'.length c4, .int .i64 q0], .bool i0]) (by simp [results, Try.results56, go_sem, f0, f1, f2]) rfl ?_
    refine ⟨_, _, by rw [HI.out], (by rw [HQ0.out]; exact HS1.out), ?_, ?_⟩
    · refine Rows.base ?_ (show w.heap.size ≤ w.heap.size + 3 by omega)
      iterate 3 refine Rows.low ?_ (by omega)
      exact HR1.out
    · iterate 3 refine Below.setCell ?_ (by simp; try omega) _
      exact HB2.out

def setLevelF (lv : Int) (l : Lgr) : Lgr := { l with lv := lv }
theorem setLevel_one (lv : Int) : OneCell (setLevelF lv) 1 (.int .i64 lv) := ⟨fun _ => rfl, fun _ => rfl, fun _ => rfl, fun _ => rfl, by omega⟩
def setStopF (b : Bool) (l : Lgr) : Lgr := { l with stop := b }
theorem setStop_one (b : Bool) : OneCell (setStopF b) 4 (.bool b) := ⟨fun _ => rfl, fun _ => rfl, fun _ => rfl, fun _ => rfl, by omega⟩
set_option maxHeartbeats 1000000 in
set_option maxRecDepth 100000 in
theorem setStopFn_c (g o bl : Nat) (b : Bool) (y : Value) (W : World) (h1 : W.cell? ⟨bl, 0, none⟩ = some (.bool b)) (h3 : W.cell? ⟨g, o + 4, none⟩ = some y) (h4 : W.frozen? ⟨g, o + 4, none⟩ = false) :
    Calls Try.prog 57 #[.pointer (some ⟨g, o, none⟩), .pointer (some ⟨bl, 0, none⟩)] W fun e w' => e = .returned (.tuple #[]) ∧ w' = W.setCell ⟨g, o + 4, none⟩ (.bool b) := by
  go_enter Try.func57, Try.ntmps57
  go_wp2_with fail
  go_end0
  exact ⟨rfl, rfl⟩
set_option maxHeartbeats 1000000 in
set_option maxRecDepth 100000 in
theorem setStopClo_c {w : World} {q : Int} {bl : Nat} (b : Bool) (hbl : w.cell? ⟨bl, 0, none⟩ = some (.bool b)) (W : World) (k bc bf ba g n c : Nat) (v2 y : Value) (hW : Below w.heap.size w W) (hkn : k < n) (hnc : n ≤ c) (hcm : c ≤ maxLen) (hb : Blk W bc [.slice (some ⟨g, 0, none⟩) n c, v2, .int .i64 q])
    (h1 : W.cell? ⟨bf, 0, none⟩ = some (.func (.func 57) #[] #[.pointer (some ⟨bl, 0, none⟩)])) (h2 : W.cell? ⟨ba, 0, none⟩ = some (.int .i64 k)) (h3 : W.cell? ⟨g, k * 6 + 4, none⟩ = some y) (h4 : W.frozen? ⟨g, k * 6 + 4, none⟩ = false) (h5 : g ≠ bc) (h6 : g ≠ bf) (h7 : g ≠ ba) :
    Calls Try.prog 91 #[.pointer (some ⟨bc, 0, none⟩), .pointer (some ⟨bf, 0, none⟩), .pointer (some ⟨ba, 0, none⟩)] W fun e w' => e = .returned (.bool true) ∧ w' = W.drew.setCell ⟨g, k * 6 + 4, none⟩ (.bool b) := by
  have hblw : bl < w.heap.size := World.block_lt_of_cell? w _ hbl
  have h0 := (hW.cell (p := ⟨bl, 0, none⟩) hblw).trans hbl
  have d0 := (hb.2 0 _ rfl).1
  have s0 : (0 : Int) ≤ (k : Int) := by omega
  have s1 : (k : Int) < (n : Int) := by omega
  have s2 : ((k : Int)).toNat = k := by simp
  unfold maxLen at hcm
  have CG := hid (setStopFn_c g (k * 6) bl b y W.drew h0 h3 h4)
  clear hb hW hbl h0 h3 h4
  go_enter Try.func91, Try.ntmps91
  go_wp2_with fail
  refine wp_region_held_drew (S := (fun w' : World => w'.cell? ⟨bf, 0, none⟩ = some (.func (.func 57) #[] #[.pointer (some ⟨bl, 0, none⟩)]) ∧ w'.cell? ⟨bc, 0, none⟩ = some (.slice (some ⟨g, 0, none⟩) n c) ∧ w'.cell? ⟨ba, 0, none⟩ = some (.int .i64 k))) (by kernel_rfl) ⟨h1, d0, h2⟩ (fun hS => ?_)
  refine wpAnyH_take (i := 0) (oi := ?oi109) (v := ?v109) ?hi109 (by kernel_rfl) ?hf109 ?hr109 ?hQ109 (Or.inl ⟨?hw109, ?hy109⟩) (by assumption) ?rest109
  case hi109 => simp only [List.getElem?_toArray, List.getElem?_cons_succ, List.getElem?_cons_zero]; rfl
  case hf109 => kernel_rfl
  case hr109 => kernel_rfl
  case hw109 => rfl
  case hy109 => (intro w hSw; (try dsimp only at hSw); go_simp; all_goals (first | done | with_reducible rfl))
  case hQ109 => exact fun _ _ _ h => h
  simp only [Act.put, List.setIfInBounds_toArray, List.set_cons_zero, List.set_cons_succ]
  refine wpAnyH_take (i := 1) (oi := ?oi110) (v := ?v110) ?hi110 (by kernel_rfl) ?hf110 ?hr110 ?hQ110 (Or.inl ⟨?hw110, ?hy110⟩) (by assumption) ?rest110
  case hi110 => simp only [List.getElem?_toArray, List.getElem?_cons_succ, List.getElem?_cons_zero]; rfl
  case hf110 => kernel_rfl
  case hr110 => kernel_rfl
  case hw110 => rfl
  case hy110 => (intro w hSw; (try dsimp only at hSw); go_simp; all_goals (first | done | with_reducible rfl))
  case hQ110 => exact fun _ _ _ h => h
  simp only [Act.put, List.setIfInBounds_toArray, List.set_cons_zero, List.set_cons_succ]
  refine wpAnyH_take (i := 2) (oi := ?oi111) (v := ?v111) ?hi111 (by kernel_rfl) ?hf111 ?hr111 ?hQ111 (Or.inl ⟨?hw111, ?hy111⟩) (by assumption) ?rest111
  case hi111 => simp only [List.getElem?_toArray, List.getElem?_cons_succ, List.getElem?_cons_zero]; rfl
  case hf111 => kernel_rfl
  case hr111 => kernel_rfl
  case hw111 => rfl
  case hy111 => (intro w hSw; (try dsimp only at hSw); go_simp; all_goals (first | done | with_reducible rfl))
  case hQ111 => exact fun _ _ _ h => h
  simp only [Act.put, List.setIfInBounds_toArray, List.set_cons_zero, List.set_cons_succ]
  refine wpAnyH_take (i := 3) (oi := ?oi112) (v := ?v112) ?hi112 (by kernel_rfl) ?hf112 ?hr112 ?hQ112 (Or.inl ⟨?hw112, ?hy112⟩) (by assumption) ?rest112
  case hi112 => simp only [List.getElem?_toArray, List.getElem?_cons_succ, List.getElem?_cons_zero]; rfl
  case hf112 => kernel_rfl
  case hr112 => kernel_rfl
  case hw112 => rfl
  case hy112 => (intro w hSw; (try dsimp only at hSw); go_simp; all_goals (first | done | with_reducible rfl))
  case hQ112 => exact fun _ _ _ h => h
  simp only [Act.put, List.setIfInBounds_toArray, List.set_cons_zero, List.set_cons_succ]
  refine wpAnyH_take (i := 4) (oi := ?oi113) (v := ?v113) ?hi113 (by kernel_rfl) ?hf113 ?hr113 ?hQ113 (Or.inl ⟨?hw113, ?hy113⟩) (by assumption) ?rest113
  case hi113 => simp only [List.getElem?_toArray, List.getElem?_cons_succ, List.getElem?_cons_zero]; rfl
  case hf113 => kernel_rfl
  case hr113 => kernel_rfl
  case hw113 => rfl
  case hy113 => (intro w hSw; (try dsimp only at hSw); go_simp; all_goals (first | done | with_reducible rfl))
  case hQ113 => exact fun _ _ _ h => h
  simp only [Act.put, List.setIfInBounds_toArray, List.set_cons_zero, List.set_cons_succ]
  refine wpAnyH_take (i := 5) (oi := ?oi114) (v := ?v114) ?hi114 (by kernel_rfl) ?hf114 ?hr114 ?hQ114 (Or.inl ⟨?hw114, ?hy114⟩) (by assumption) ?rest114
  case hi114 => simp only [List.getElem?_toArray, List.getElem?_cons_succ, List.getElem?_cons_zero]; rfl
  case hf114 => kernel_rfl
  case hr114 => kernel_rfl
  case hw114 => rfl
  case hy114 => (intro w hSw; (try dsimp only at hSw); go_simp; all_goals (first | done | with_reducible rfl))
  case hQ114 => exact fun _ _ _ h => h
  simp only [Act.put, List.setIfInBounds_toArray, List.set_cons_zero, List.set_cons_succ]
  refine wpAnyH_take (i := 6) (oi := ?oi115) (v := ?v115) ?hi115 (by kernel_rfl) ?hf115 ?hr115 ?hQ115 (Or.inl ⟨?hw115, ?hy115⟩) (by assumption) ?rest115
  case hi115 => simp only [List.getElem?_toArray, List.getElem?_cons_succ, List.getElem?_cons_zero]; rfl
  case hf115 => kernel_rfl
  case hr115 => kernel_rfl
  case hw115 => rfl
  case hy115 => (intro w hSw; (try dsimp only at hSw); go_simp; all_goals (first | done | with_reducible rfl))
  case hQ115 => exact fun _ _ _ h => h
  simp only [Act.put, List.setIfInBounds_toArray, List.set_cons_zero, List.set_cons_succ]
  refine wpAnyH_ready (rs := [7]) (by kernel_rfl) (by simp) ?_
  refine AllReadyH.cons (o := ?oi116) ?hi116 (fun K hK => ?step116) AllReadyH.nil
  case hi116 => simp only [List.getElem?_toArray, List.getElem?_cons_succ, List.getElem?_cons_zero]; rfl
  rw [if_pos (by rfl)]
  go_simp
  go_at_call 57
  refine (CG.out).mono ?_
  rintro e w9 ⟨rfl, rfl⟩
  refine hK.out _ _ ⟨(World.cell?_setCell_far _ _ _ _ (show g ≠ bf by omega)).trans hS.1, (World.cell?_setCell_far _ _ _ _ (show g ≠ bc by omega)).trans hS.2.1, (World.cell?_setCell_far _ _ _ _ (show g ≠ ba by omega)).trans hS.2.2⟩ (fun _ => ?_)
  refine wpAnyH_done (by kernel_rfl) ?_ _
  go_wp2_with fail
  go_ret
  exact ⟨rfl, rfl⟩

set_option maxHeartbeats 4000000 in
set_option maxRecDepth 100000 in
theorem implSetStop_c {w : World} {B : Nat} {v : Value} {L : List Lgr} {H : List Hnd} {q : Int} (s : ByteArray) (b : Bool) (h : TreeIn w B v L H q) (hB : B ≤ w.heap.size) :
    Calls Try.prog 18 #[v, .string s, .bool b] w (TreePostO w (lgrX L H q s.data.toList (setStopF b))) := by
  obtain ⟨A1, n1, k1, A2, n2, k2, rfl⟩ := h.form
  have CC := hid (fun (W : World) (hW : Below w.heap.size w W) (bq : Nat) (hq : W.cell? ⟨bq, 0, none⟩ = some (.bool b)) =>
    implChangedLogger_c s 57 (.pointer (some ⟨bq, 0, none⟩)) (setStop_one b) (h.below hW hB) (Nat.le_trans hB hW.size) (fun w1 W' k bc bf ba g n c v2 y hw1 hW' => setStopClo_c b hq W' k bc bf ba g n c v2 y (hw1.trans (hW'.mono hw1.size))))
  have hmf : ∀ (fn : Fn) (first cap : Array Value) (w : World), (Instr.makeFunc fn first cap).run Try.prog w = .ok (.func fn first cap) w := fun _ _ _ _ => rfl
  clear h
  have HW := hid (show Below w.heap.size w (((w.alloc (.cells #[.slice A1 n1 k1, .slice A2 n2 k2, .int .i64 q] 32)).alloc (.cells #[.bool b] 4)).alloc (.cells #[.slice none 0 0, .slice none 0 0, .int .i64 0] 32)) from (((Below.refl _ _).alloc (Nat.le_refl _) _).alloc (by simp) _).alloc (by simp; omega) _)
  have KQ := hid (((Blk.new (w.alloc (.cells #[.slice A1 n1 k1, .slice A2 n2 k2, .int .i64 q] 32)) #[.bool b] 4)).alloc (.cells #[.slice none 0 0, .slice none 0 0, .int .i64 0] 32))
  have KR := hid (Blk.new ((w.alloc (.cells #[.slice A1 n1 k1, .slice A2 n2 k2, .int .i64 q] 32)).alloc (.cells #[.bool b] 4)) #[.slice none 0 0, .slice none 0 0, .int .i64 0] 32)
  simp only [World.size_alloc] at KQ KR
  have CQ := CC.out _ HW.out (w.heap.size + 1) (KQ.out.2 0 _ rfl).1
  generalize lgrX L H q s.data.toList (setStopF b) = X at CQ ⊢
  replace CQ := hid CQ
  clear CC
  go_enter Try.func18, Try.ntmps18
  go_wp2_with fail
  refine (CQ.out).mono ?_
  rintro e w1 ⟨v', rs, rfl, hs, hr, hb1⟩
  obtain ⟨u1, u2, ls, hs', rfl, hL, hH, rfl⟩ := hs
  have KR1 := hid (KR.out.to hb1)
  have HB1 := hid (Below.trans (by go_grown) (hb1.mono (by simp; omega)) : Below w.heap.size w w1)
  have HR1 := hid (hr.base (show w.heap.size + 3 ≤ _ by simp))
  have HS1 := hid (show TreeS (treeRows ls.length u1 ls hs'.length u2 hs') (.agg #[u1, u2, .int .i64 (resQ X)]) (resL X) (resH X) (resQ X) from ⟨u1, u2, ls, hs', rfl, hL, hH, rfl⟩)
  obtain ⟨hl, hh⟩ := hr.lsIn
  obtain ⟨A3, c3, rfl, _, _⟩ := hl.1.form
  obtain ⟨A4, c4, rfl, _, _⟩ := hh.1.form
  obtain ⟨q0c, q0f⟩ := KR1.out.2 0 _ rfl
  obtain ⟨q1c, q1f⟩ := KR1.out.2 1 _ rfl
  obtain ⟨q2c, q2f⟩ := KR1.out.2 2 _ rfl
  generalize hq0 : resQ X = q0 at *
  generalize hi0 : X.isSome = i0 at *
  have HI := hid hi0
  have HQ0 := hid hq0
  clear hq0 hi0 hb1 hr hl hh hL hH
  go_wp2_with fail
  have RB := ((KR1.out.set 0 (.slice A3 ls.length c3)).set 1 (.slice A4 hs'.length c4)).set 2 (.int .i64 q0)
  have f0 := (RB.2 0 _ rfl).1
  have f1 := (RB.2 1 _ rfl).1
  have f2 := (RB.2 2 _ rfl).1
  refine bodyPost_ret (v := .tuple #[.agg #[.slice A3 ls.length c3, .slice A4 hs'.length c4, .int .i64 q0], .bool i0]) (by simp [results, Try.results18, go_sem, f0, f1, f2]) rfl ?_
  refine ⟨_, _, by rw [HI.out], (by rw [HQ0.out]; exact HS1.out), ?_, ?_⟩
  · refine Rows.base ?_ (show w.heap.size ≤ w.heap.size + 3 by omega)
    iterate 3 refine Rows.low ?_ (by omega)
    exact HR1.out
  · iterate 3 refine Below.setCell ?_ (by simp; try omega) _
    exact HB1.out

def setOffF (b : Bool) (l : Lgr) : Lgr := { l with off := b }
theorem setOff_one (b : Bool) : OneCell (setOffF b) 5 (.bool b) := ⟨fun _ => rfl, fun _ => rfl, fun _ => rfl, fun _ => rfl, by omega⟩
end Go.Proofs.Ytpfnjkmkenaipaa
