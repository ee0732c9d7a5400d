/-
  TREES changed: what comes back; the program's SetQuiet.
-/
import Derived.Test.YtbidlmejonpadaaC2
namespace Go.Proofs.Ytbidlmejonpadaa
open Go.RowKit Nm
set_option linter.unusedSimpArgs false
set_option linter.unusedVariables false

abbrev TreeD := List Lgr × List Hnd × Int
def resL (o : Option TreeD) : List Lgr := match o with | some x => x.1 | none => []
def resH (o : Option TreeD) : List Hnd := match o with | some x => x.2.1 | none => []
def resQ (o : Option TreeD) : Int := match o with | some x => x.2.2 | none => 0
/-- a tree comes back, or nothing: its rows are of the call's own -/
def TreePostO (w : World) (o : Option TreeD) (e : Ending) (w' : World) : Prop :=
  ∃ v rs, e = .returned (.tuple #[v, .bool o.isSome]) ∧ TreeS rs v (resL o) (resH o) (resQ o) ∧ Rows w' w.heap.size rs ∧ Below w.heap.size w w'
def ifOk (L : List Lgr) (H : List Hnd) (q : Int) : Option TreeD := if treeOk L H q then some (L, H, q) else none
def setQuietO (L : List Lgr) (H : List Hnd) (q lv : Int) : Option TreeD := if treeOk L H q then ifOk L H lv else none
theorem Rows.none2 (w : World) (lo : Nat) : Rows w lo (treeRows 0 (.slice none 0 0) [] 0 (.slice none 0 0) []) := by
  refine ⟨fun r hr => ?_, ?_⟩
  · simp only [treeRows, lsRow, hsRow, List.flatMap_nil, List.cons_append, List.nil_append, List.mem_cons, List.not_mem_nil, or_false] at hr
    rcases hr with rfl | rfl <;> exact World.ownsRow_nil _ _ _ _
  · simp only [treeRows, lsRow, hsRow, List.flatMap_nil, List.cons_append, List.nil_append]
    exact List.pairwise_cons.2 ⟨fun b hb => ⟨.inl rfl, by rw [List.mem_singleton] at hb; subst hb; exact .inl rfl⟩, List.pairwise_singleton _ _⟩
theorem postO_none {w w' : World} {e : Ending} {o : Option TreeD} (ho : o = none) (he : e = .returned (.tuple #[.agg #[.slice none 0 0, .slice none 0 0, .int .i64 0], .bool false])) (hb : Below w.heap.size w w') : TreePostO w o e w' := by
  subst ho
  exact ⟨_, _, he, ⟨_, _, [], [], rfl, rfl, rfl, rfl⟩, Rows.none2 _ _, hb⟩
theorem name_fit {x : List UInt8} (h : nameOk x = true) : x.length ≤ maxTxt := by have := name_size x h; unfold maxTxt; omega
theorem word_fit {x : List UInt8} (h : wordOk x = true) : x.length ≤ maxTxt := by
  unfold wordOk at h
  simp only [Bool.and_eq_true, decide_eq_true_eq] at h
  unfold maxTxt
  omega
theorem flt_fit {f : Flt} (h : fltOk f = true) : f.nm.length ≤ maxTxt := by
  unfold fltOk at h
  split at h
  · simp only [Bool.and_eq_true] at h; exact name_fit h.2.1
  · split at h
    · simp only [Bool.and_eq_true] at h; exact word_fit h.1
    · split at h
      · simp only [Bool.and_eq_true, decide_eq_true_eq] at h; rw [h.1]; simp
      · cases h
theorem nodup_sub_len {α : Type} [DecidableEq α] {a b : List α} (h : a.Nodup) (hs : a ⊆ b) : a.length ≤ b.length := by
  induction a generalizing b with
  | nil => simp
  | cons x a ih =>
    obtain ⟨h1, h2⟩ := List.nodup_cons.1 h
    have hx : x ∈ b := hs (by simp)
    have := ih (b := b.erase x) h2 (fun y hy => (List.mem_erase_of_ne (fun e => h1 (by rw [← e]; exact hy))).2 (hs (by simp [hy])))
    rw [List.length_erase_of_mem hx] at this
    have hl := List.length_pos_of_mem hx
    rw [List.length_cons]; omega
/-- a valid tree fits -/
theorem fit_ok {L : List Lgr} {H : List Hnd} {q : Int} (h : treeOk L H q = true) : dataFit L H := by
  obtain ⟨_, _, _, h8, _, _⟩ := tree_names h
  obtain ⟨_, _, h6⟩ := tree_small h
  unfold treeOk lgrsOk hndsOk at h
  simp only [Bool.and_eq_true, decide_eq_true_eq, List.all_eq_true] at h
  obtain ⟨_, ⟨h1, hn1, h3⟩, h4, _⟩ := h
  refine ⟨⟨by unfold maxTxt; omega, fun l hl => ?_⟩, ⟨by unfold maxTxt; omega, fun x hx => ?_⟩⟩
  · have := h4 l hl
    unfold lgrOk filtersOk at this
    simp only [Bool.and_eq_true, decide_eq_true_eq, List.all_eq_true] at this
    obtain ⟨a, _, ⟨c1, c2⟩, d1, d2⟩ := this
    refine ⟨name_fit a, ⟨?_, fun t ht => ?_⟩, ⟨by unfold maxTxt; omega, fun f hf => flt_fit (c1 f hf)⟩⟩
    · have hsub : l.hs ⊆ H.map (·.nm) := fun t ht => by
        have := d1 t ht
        unfold hasL at this
        rw [List.any_eq_true] at this
        obtain ⟨x, hx, e⟩ := this
        exact List.mem_map.2 ⟨x, hx, of_decide_eq_true e⟩
      have := nodup_sub_len d2 hsub
      rw [List.length_map] at this
      unfold maxTxt; omega
    · have := d1 t ht
      unfold hasL at this
      rw [List.any_eq_true] at this
      obtain ⟨x, hx, e⟩ := this
      have e2 := of_decide_eq_true e
      have := h1 x hx
      unfold hndOk at this
      simp only [Bool.and_eq_true] at this
      rw [← e2]; exact word_fit this.1
  · have := h1 x hx
    unfold hndOk filtersOk at this
    simp only [Bool.and_eq_true, decide_eq_true_eq, List.all_eq_true] at this
    obtain ⟨a, _, _, c1, c2⟩ := this
    exact ⟨word_fit a, ⟨by unfold maxTxt; omega, fun f hf => flt_fit (c1 f hf)⟩⟩

/-- what a change does to the copy in box bc: 'o' the data then, nothing if it fails -/
def CloPost (lo bc : Nat) (W : World) (o : Option TreeD) (e : Ending) (W' : World) : Prop :=
  Below lo W W' ∧ e = .returned (.bool o.isSome) ∧ ∀ x, o = some x → ∃ A1 n1 k1 A2 n2 k2 rs', Blk W' bc [.slice A1 n1 k1, .slice A2 n2 k2, .int .i64 x.2.2] ∧ TreeS rs' (.agg #[.slice A1 n1 k1, .slice A2 n2 k2, .int .i64 x.2.2]) x.1 x.2.1 x.2.2 ∧ Rows W' lo rs' ∧ dataFit x.1 x.2.1
/-- what a change is called with -/
def CloPre (w : World) (lo bc : Nat) (W : World) (v1 v2 : Value) (rs : List Row) (L : List Lgr) (H : List Hnd) (q : Int) : Prop :=
  Below w.heap.size w W ∧ w.heap.size ≤ lo ∧ lo ≤ bc ∧ Blk W bc [v1, v2, .int .i64 q] ∧ TreeS rs (.agg #[v1, v2, .int .i64 q]) L H q ∧ Rows W lo rs ∧ (∀ r ∈ rs, r.v.ownBlock ≠ some bc) ∧ dataFit L H
def changedO (L : List Lgr) (H : List Hnd) (q : Int) (o : Option TreeD) : Option TreeD := if treeOk L H q then o.bind (fun x => ifOk x.1 x.2.1 x.2.2) else none
theorem rows_below {w : World} {lo : Nat} {rs : List Row} (h : Rows w lo rs) : ∀ r ∈ rs, r.v.ownBlock ≠ some w.heap.size := fun r hr e => by
  have := ((h.1 r hr).lt _ e).2
  omega

set_option maxHeartbeats 8000000 in
set_option maxRecDepth 100000 in
theorem implChanged1_c {w : World} {B : Nat} {v : Value} {L : List Lgr} {H : List Hnd} {q : Int} (F : Nat) (c1 : Value) (o : Option TreeD) (h : TreeIn w B v L H q) (hB : B ≤ w.heap.size) (hin : ∀ (args : Array Value) (W : World), (callFunc F args).run Try.prog W = .ok (.enter F args) W)
    (hF : ∀ (W : World) (lo bc : Nat) (v1 v2 : Value) (rs : List Row), treeOk L H q = true → CloPre w lo bc W v1 v2 rs L H q → Calls Try.prog F #[.pointer (some ⟨bc, 0, none⟩), c1] W (CloPost lo bc W o)) :
    Calls Try.prog 59 #[v, .func (.func F) #[] #[c1]] w (TreePostO w (changedO L H q o)) := by
  have C := hid (fun (W : World) (hW : Below w.heap.size w W) => implValidTreeX_c (h.below hW hB) (Nat.le_trans hB hW.size))
  have HF := hid hF
  clear hF
  obtain ⟨A1, n1, k1, A2, n2, k2, rfl⟩ := h.form
  cases hz : treeOk L H q with
  | false =>
    have HE := hid (show changedO L H q o = none by unfold changedO; rw [hz]; rfl)
    rw [hz] at C
    clear h hz
    go_enter Try.func59, Try.ntmps59
    go_wp2_with fail
    refine (C.out _ ?_).mono ?_
    case refine_1 => go_grown
    rintro e w1 ⟨rfl, hb1⟩
    have K1 := ((Blk.new _ _ _).to hb1)
    simp only [World.size_alloc] at K1
    have HK1 := hid K1
    have HB1 := hid (Below.trans (by go_grown) (hb1.mono (by simp; try omega)) : Below w.heap.size w w1)
    obtain ⟨q0c, q0f⟩ := HK1.out.2 0 _ rfl
    obtain ⟨q1c, q1f⟩ := HK1.out.2 1 _ rfl
    obtain ⟨q2c, q2f⟩ := HK1.out.2 2 _ rfl
    clear hb1 K1
    go_wp2_with fail
    have RB := ((HK1.out.set 0 (.slice none 0 0)).set 1 (.slice none 0 0)).set 2 (.int .i64 0)
    have f0 := (RB.2 0 _ rfl).1
    have f1 := (RB.2 1 _ rfl).1
    have f2 := (RB.2 2 _ rfl).1
    refine bodyPost_ret (v := .tuple #[.agg #[.slice none 0 0, .slice none 0 0, .int .i64 0], .bool false]) (by simp [results, Try.results59, go_sem, f0, f1, f2]) rfl ?_
    refine postO_none HE.out rfl ?_
    iterate 3 refine Below.setCell ?_ (by simp) _
    exact HB1.out
  | true =>
    have hd := fit_ok hz
    have CC := hid (fun (W : World) (hW : Below w.heap.size w W) => implCopy_c (h.below hW hB) hz (Nat.le_trans hB hW.size))
    have HD := hid hd
    have HE := hid (show changedO L H q o = o.bind (fun x => ifOk x.1 x.2.1 x.2.2) by unfold changedO; rw [hz]; rfl)
    have HZ := hid hz
    rw [hz] at C
    clear h hz hd
    go_enter Try.func59, Try.ntmps59
    go_wp2_with fail
    refine (C.out _ ?_).mono ?_
    case refine_1 => go_grown
    rintro e w1 ⟨rfl, hb1⟩
    have K0 := (((Blk.new _ _ _).alloc _).to hb1)
    have K1 := ((Blk.new _ _ _).to hb1)
    simp only [World.size_alloc] at K0 K1
    have HK0 := hid K0
    have HK1 := hid K1
    have HB1 := hid (Below.trans (by go_grown) (hb1.mono (by simp; try omega)) : Below w.heap.size w w1)
    have hsz1 : w.heap.size + 2 ≤ w1.heap.size := by have := hb1.size; simp at this; omega
    have d0 := (HK0.out.2 0 _ rfl).1
    have d1 := (HK0.out.2 1 _ rfl).1
    have d2 := (HK0.out.2 2 _ rfl).1
    clear hb1 K0 K1
    go_wp2_with fail
    refine (CC.out _ HB1.out).mono ?_
    rintro e w2 ⟨v', rs, rfl, hs, hr, hb2⟩
    obtain ⟨A3, n3, k3, A4, n4, k4, rfl⟩ := (hs.at_ hr HD.out).form
    have HB2 := hid (HB1.out.trans (hb2.mono HB1.out.size))
    have HB12 := hid hb2
    have HS2 := hid hs
    have HRl := hid hr
    have hsz12 : w1.heap.size ≤ w2.heap.size := hb2.size
    have hww1 : w.heap.size ≤ w1.heap.size := HB1.out.size
    clear hb2 hs hr d0 d1 d2
    have HW2 := hid (show Below w2.heap.size w2 (w2.alloc (.cells #[.slice A3 n3 k3, .slice A4 n4 k4, .int .i64 q] 32)) from (Below.refl _ _).alloc (Nat.le_refl _) _)
    have KC := hid (Blk.new w2 #[.slice A3 n3 k3, .slice A4 n4 k4, .int .i64 q] 32)
    have CF := hid (HF.out (w2.alloc (.cells #[.slice A3 n3 k3, .slice A4 n4 k4, .int .i64 q] 32)) w1.heap.size w2.heap.size (.slice A3 n3 k3) (.slice A4 n4 k4) rs HZ.out
      ⟨HB2.out.trans (HW2.out.mono HB2.out.size), hww1, hsz12, KC.out, HS2.out, HRl.out.below HW2.out, rows_below HRl.out, HD.out⟩)
    go_wp2_with fail
    refine (CF.out).mono ?_
    rintro e w3 ⟨hb3, rfl, hx⟩
    have HW3 := hid ((HW2.out.mono hsz12).trans hb3)
    have HX := hid hx
    have HK3 := hid (HK1.out.below ((show Below w1.heap.size w1 w2 from HB12.out).trans HW3.out) (by omega))
    have HB3 := hid (HB1.out.trans (((show Below w1.heap.size w1 w2 from HB12.out).trans HW3.out).mono hww1))
    clear hx hb3 CF
    cases ho : o with
    | none =>
      subst ho
      have HN := hid (show changedO L H q none = none by rw [HE.out]; rfl)
      obtain ⟨q0c, q0f⟩ := HK3.out.2 0 _ rfl
      obtain ⟨q1c, q1f⟩ := HK3.out.2 1 _ rfl
      obtain ⟨q2c, q2f⟩ := HK3.out.2 2 _ rfl
      go_wp2_with fail
      have RB := ((HK3.out.set 0 (.slice none 0 0)).set 1 (.slice none 0 0)).set 2 (.int .i64 0)
      have f0 := (RB.2 0 _ rfl).1
      have f1 := (RB.2 1 _ rfl).1
      have f2 := (RB.2 2 _ rfl).1
      refine bodyPost_ret (v := .tuple #[.agg #[.slice none 0 0, .slice none 0 0, .int .i64 0], .bool false]) (by simp [results, Try.results59, go_sem, f0, f1, f2]) rfl ?_
      refine postO_none HN.out rfl ?_
      iterate 3 refine Below.setCell ?_ (by simp) _
      exact HB3.out
    | some x =>
    subst ho
    obtain ⟨L', H', q'⟩ := x
    obtain ⟨A5, n5, k5, A6, n6, k6, rs', KS, HS3, HR3, HD3⟩ := HX.out _ rfl
    simp only at KS HS3 HR3 HD3
    have CV := hid (implValidTreeX_c (HS3.at_ HR3 HD3) (Nat.le_refl _))
    have g0 := (KS.2 0 _ rfl).1
    have g1 := (KS.2 1 _ rfl).1
    have g2 := (KS.2 2 _ rfl).1
    have HKS := hid KS
    have HS4 := hid HS3
    have HR4 := hid HR3
    clear KS HS3 HR3 HD3
    cases hy : treeOk L' H' q' with
    | false =>
      rw [hy] at CV
      have HN := hid (show changedO L H q (some (L', H', q')) = none by rw [HE.out]; show ifOk L' H' q' = none; unfold ifOk; rw [hy]; rfl)
      clear hy
      go_wp2_with fail
      refine (CV.out).mono ?_
      rintro e w4 ⟨rfl, hb4⟩
      have HB4 := hid (HB3.out.trans (hb4.mono HB3.out.size))
      have HK4 := hid (HK3.out.to hb4)
      obtain ⟨q0c, q0f⟩ := HK4.out.2 0 _ rfl
      obtain ⟨q1c, q1f⟩ := HK4.out.2 1 _ rfl
      obtain ⟨q2c, q2f⟩ := HK4.out.2 2 _ rfl
      clear hb4 g0 g1 g2
      go_wp2_with fail
      have RB := ((HK4.out.set 0 (.slice none 0 0)).set 1 (.slice none 0 0)).set 2 (.int .i64 0)
      have f0 := (RB.2 0 _ rfl).1
      have f1 := (RB.2 1 _ rfl).1
      have f2 := (RB.2 2 _ rfl).1
      refine bodyPost_ret (v := .tuple #[.agg #[.slice none 0 0, .slice none 0 0, .int .i64 0], .bool false]) (by simp [results, Try.results59, go_sem, f0, f1, f2]) rfl ?_
      refine postO_none HN.out rfl ?_
      iterate 3 refine Below.setCell ?_ (by simp) _
      exact HB4.out
    | true =>
      rw [hy] at CV
      have HN := hid (show changedO L H q (some (L', H', q')) = some (L', H', q') by rw [HE.out]; show ifOk L' H' q' = _; unfold ifOk; rw [hy]; rfl)
      clear hy
      go_wp2_with fail
      refine (CV.out).mono ?_
      rintro e w4 ⟨rfl, hb4⟩
      have HB4 := hid (HB3.out.trans (hb4.mono HB3.out.size))
      have HK4 := hid (HK3.out.to hb4)
      have HR5 := hid (HR4.out.below hb4)
      have KS4 := HKS.out.to hb4
      have g0 := (KS4.2 0 _ rfl).1
      have g1 := (KS4.2 1 _ rfl).1
      have g2 := (KS4.2 2 _ rfl).1
      obtain ⟨q0c, q0f⟩ := HK4.out.2 0 _ rfl
      obtain ⟨q1c, q1f⟩ := HK4.out.2 1 _ rfl
      obtain ⟨q2c, q2f⟩ := HK4.out.2 2 _ rfl
      clear hb4 KS4
      go_wp2_with fail
      have RB := ((HK4.out.set 0 (.slice A5 n5 k5)).set 1 (.slice A6 n6 k6)).set 2 (.int .i64 q')
      have f0 := (RB.2 0 _ rfl).1
      have f1 := (RB.2 1 _ rfl).1
      have f2 := (RB.2 2 _ rfl).1
      refine bodyPost_ret (v := .tuple #[.agg #[.slice A5 n5 k5, .slice A6 n6 k6, .int .i64 q'], .bool true]) (by simp [results, Try.results59, go_sem, f0, f1, f2]) rfl ?_
      rw [show changedO L H q (some (L', H', q')) = some (L', H', q') from HN.out]
      refine ⟨_, rs', rfl, HS4.out, ?_, ?_⟩
      · refine Rows.base ?_ hww1
        iterate 3 refine Rows.low ?_ (by omega)
        exact HR5.out
      · iterate 3 refine Below.setCell ?_ (by simp) _
        exact HB4.out
set_option maxHeartbeats 8000000 in
set_option maxRecDepth 100000 in
theorem implChanged2_c {w : World} {B : Nat} {v : Value} {L : List Lgr} {H : List Hnd} {q : Int} (F : Nat) (c1 c2 : Value) (o : Option TreeD) (h : TreeIn w B v L H q) (hB : B ≤ w.heap.size) (hin : ∀ (args : Array Value) (W : World), (callFunc F args).run Try.prog W = .ok (.enter F args) W)
    (hF : ∀ (W : World) (lo bc : Nat) (v1 v2 : Value) (rs : List Row), treeOk L H q = true → CloPre w lo bc W v1 v2 rs L H q → Calls Try.prog F #[.pointer (some ⟨bc, 0, none⟩), c1, c2] W (CloPost lo bc W o)) :
    Calls Try.prog 59 #[v, .func (.func F) #[] #[c1, c2]] w (TreePostO w (changedO L H q o)) := by
  have C := hid (fun (W : World) (hW : Below w.heap.size w W) => implValidTreeX_c (h.below hW hB) (Nat.le_trans hB hW.size))
  have HF := hid hF
  clear hF
  obtain ⟨A1, n1, k1, A2, n2, k2, rfl⟩ := h.form
  cases hz : treeOk L H q with
  | false =>
    have HE := hid (show changedO L H q o = none by unfold changedO; rw [hz]; rfl)
    rw [hz] at C
    clear h hz
    go_enter Try.func59, Try.ntmps59
    go_wp2_with fail
    refine (C.out _ ?_).mono ?_
    case refine_1 => go_grown
    rintro e w1 ⟨rfl, hb1⟩
    have K1 := ((Blk.new _ _ _).to hb1)
    simp only [World.size_alloc] at K1
    have HK1 := hid K1
    have HB1 := hid (Below.trans (by go_grown) (hb1.mono (by simp; try omega)) : Below w.heap.size w w1)
    obtain ⟨q0c, q0f⟩ := HK1.out.2 0 _ rfl
    obtain ⟨q1c, q1f⟩ := HK1.out.2 1 _ rfl
    obtain ⟨q2c, q2f⟩ := HK1.out.2 2 _ rfl
    clear hb1 K1
    go_wp2_with fail
    have RB := ((HK1.out.set 0 (.slice none 0 0)).set 1 (.slice none 0 0)).set 2 (.int .i64 0)
    have f0 := (RB.2 0 _ rfl).1
    have f1 := (RB.2 1 _ rfl).1
    have f2 := (RB.2 2 _ rfl).1
    refine bodyPost_ret (v := .tuple #[.agg #[.slice none 0 0, .slice none 0 0, .int .i64 0], .bool false]) (by simp [results, Try.results59, go_sem, f0, f1, f2]) rfl ?_
    refine postO_none HE.out rfl ?_
    iterate 3 refine Below.setCell ?_ (by simp) _
    exact HB1.out
  | true =>
    have hd := fit_ok hz
    have CC := hid (fun (W : World) (hW : Below w.heap.size w W) => implCopy_c (h.below hW hB) hz (Nat.le_trans hB hW.size))
    have HD := hid hd
    have HE := hid (show changedO L H q o = o.bind (fun x => ifOk x.1 x.2.1 x.2.2) by unfold changedO; rw [hz]; rfl)
    have HZ := hid hz
    rw [hz] at C
    clear h hz hd
    go_enter Try.func59, Try.ntmps59
    go_wp2_with fail
    refine (C.out _ ?_).mono ?_
    case refine_1 => go_grown
    rintro e w1 ⟨rfl, hb1⟩
    have K0 := (((Blk.new _ _ _).alloc _).to hb1)
    have K1 := ((Blk.new _ _ _).to hb1)
    simp only [World.size_alloc] at K0 K1
    have HK0 := hid K0
    have HK1 := hid K1
    have HB1 := hid (Below.trans (by go_grown) (hb1.mono (by simp; try omega)) : Below w.heap.size w w1)
    have hsz1 : w.heap.size + 2 ≤ w1.heap.size := by have := hb1.size; simp at this; omega
    have d0 := (HK0.out.2 0 _ rfl).1
    have d1 := (HK0.out.2 1 _ rfl).1
    have d2 := (HK0.out.2 2 _ rfl).1
    clear hb1 K0 K1
    go_wp2_with fail
    refine (CC.out _ HB1.out).mono ?_
    rintro e w2 ⟨v', rs, rfl, hs, hr, hb2⟩
    obtain ⟨A3, n3, k3, A4, n4, k4, rfl⟩ := (hs.at_ hr HD.out).form
    have HB2 := hid (HB1.out.trans (hb2.mono HB1.out.size))
    have HB12 := hid hb2
    have HS2 := hid hs
    have HRl := hid hr
    have hsz12 : w1.heap.size ≤ w2.heap.size := hb2.size
    have hww1 : w.heap.size ≤ w1.heap.size := HB1.out.size
    clear hb2 hs hr d0 d1 d2
    have HW2 := hid (show Below w2.heap.size w2 (w2.alloc (.cells #[.slice A3 n3 k3, .slice A4 n4 k4, .int .i64 q] 32)) from (Below.refl _ _).alloc (Nat.le_refl _) _)
    have KC := hid (Blk.new w2 #[.slice A3 n3 k3, .slice A4 n4 k4, .int .i64 q] 32)
    have CF := hid (HF.out (w2.alloc (.cells #[.slice A3 n3 k3, .slice A4 n4 k4, .int .i64 q] 32)) w1.heap.size w2.heap.size (.slice A3 n3 k3) (.slice A4 n4 k4) rs HZ.out
      ⟨HB2.out.trans (HW2.out.mono HB2.out.size), hww1, hsz12, KC.out, HS2.out, HRl.out.below HW2.out, rows_below HRl.out, HD.out⟩)
    go_wp2_with fail
    refine (CF.out).mono ?_
    rintro e w3 ⟨hb3, rfl, hx⟩
    have HW3 := hid ((HW2.out.mono hsz12).trans hb3)
    have HX := hid hx
    have HK3 := hid (HK1.out.below ((show Below w1.heap.size w1 w2 from HB12.out).trans HW3.out) (by omega))
    have HB3 := hid (HB1.out.trans (((show Below w1.heap.size w1 w2 from HB12.out).trans HW3.out).mono hww1))
    clear hx hb3 CF
    cases ho : o with
    | none =>
      subst ho
      have HN := hid (show changedO L H q none = none by rw [HE.out]; rfl)
      obtain ⟨q0c, q0f⟩ := HK3.out.2 0 _ rfl
      obtain ⟨q1c, q1f⟩ := HK3.out.2 1 _ rfl
      obtain ⟨q2c, q2f⟩ := HK3.out.2 2 _ rfl
      go_wp2_with fail
      have RB := ((HK3.out.set 0 (.slice none 0 0)).set 1 (.slice none 0 0)).set 2 (.int .i64 0)
      have f0 := (RB.2 0 _ rfl).1
      have f1 := (RB.2 1 _ rfl).1
      have f2 := (RB.2 2 _ rfl).1
      refine bodyPost_ret (v := .tuple #[.agg #[.slice none 0 0, .slice none 0 0, .int .i64 0], .bool false]) (by simp [results, Try.results59, go_sem, f0, f1, f2]) rfl ?_
      refine postO_none HN.out rfl ?_
      iterate 3 refine Below.setCell ?_ (by simp) _
      exact HB3.out
    | some x =>
    subst ho
    obtain ⟨L', H', q'⟩ := x
    obtain ⟨A5, n5, k5, A6, n6, k6, rs', KS, HS3, HR3, HD3⟩ := HX.out _ rfl
    simp only at KS HS3 HR3 HD3
    have CV := hid (implValidTreeX_c (HS3.at_ HR3 HD3) (Nat.le_refl _))
    have g0 := (KS.2 0 _ rfl).1
    have g1 := (KS.2 1 _ rfl).1
    have g2 := (KS.2 2 _ rfl).1
    have HKS := hid KS
    have HS4 := hid HS3
    have HR4 := hid HR3
    clear KS HS3 HR3 HD3
    cases hy : treeOk L' H' q' with
    | false =>
      rw [hy] at CV
      have HN := hid (show changedO L H q (some (L', H', q')) = none by rw [HE.out]; show ifOk L' H' q' = none; unfold ifOk; rw [hy]; rfl)
      clear hy
      go_wp2_with fail
      refine (CV.out).mono ?_
      rintro e w4 ⟨rfl, hb4⟩
      have HB4 := hid (HB3.out.trans (hb4.mono HB3.out.size))
      have HK4 := hid (HK3.out.to hb4)
      obtain ⟨q0c, q0f⟩ := HK4.out.2 0 _ rfl
      obtain ⟨q1c, q1f⟩ := HK4.out.2 1 _ rfl
      obtain ⟨q2c, q2f⟩ := HK4.out.2 2 _ rfl
      clear hb4 g0 g1 g2
      go_wp2_with fail
      have RB := ((HK4.out.set 0 (.slice none 0 0)).set 1 (.slice none 0 0)).set 2 (.int .i64 0)
      have f0 := (RB.2 0 _ rfl).1
      have f1 := (RB.2 1 _ rfl).1
      have f2 := (RB.2 2 _ rfl).1
      refine bodyPost_ret (v := .tuple #[.agg #[.slice none 0 0, .slice none 0 0, .int .i64 0], .bool false]) (by simp [results, Try.results59, go_sem, f0, f1, f2]) rfl ?_
      refine postO_none HN.out rfl ?_
      iterate 3 refine Below.setCell ?_ (by simp) _
      exact HB4.out
    | true =>
      rw [hy] at CV
      have HN := hid (show changedO L H q (some (L', H', q')) = some (L', H', q') by rw [HE.out]; show ifOk L' H' q' = _; unfold ifOk; rw [hy]; rfl)
      clear hy
      go_wp2_with fail
      refine (CV.out).mono ?_
      rintro e w4 ⟨rfl, hb4⟩
      have HB4 := hid (HB3.out.trans (hb4.mono HB3.out.size))
      have HK4 := hid (HK3.out.to hb4)
      have HR5 := hid (HR4.out.below hb4)
      have KS4 := HKS.out.to hb4
      have g0 := (KS4.2 0 _ rfl).1
      have g1 := (KS4.2 1 _ rfl).1
      have g2 := (KS4.2 2 _ rfl).1
      obtain ⟨q0c, q0f⟩ := HK4.out.2 0 _ rfl
      obtain ⟨q1c, q1f⟩ := HK4.out.2 1 _ rfl
      obtain ⟨q2c, q2f⟩ := HK4.out.2 2 _ rfl
      clear hb4 KS4
      go_wp2_with fail
      have RB := ((HK4.out.set 0 (.slice A5 n5 k5)).set 1 (.slice A6 n6 k6)).set 2 (.int .i64 q')
      have f0 := (RB.2 0 _ rfl).1
      have f1 := (RB.2 1 _ rfl).1
      have f2 := (RB.2 2 _ rfl).1
      refine bodyPost_ret (v := .tuple #[.agg #[.slice A5 n5 k5, .slice A6 n6 k6, .int .i64 q'], .bool true]) (by simp [results, Try.results59, go_sem, f0, f1, f2]) rfl ?_
      rw [show changedO L H q (some (L', H', q')) = some (L', H', q') from HN.out]
      refine ⟨_, rs', rfl, HS4.out, ?_, ?_⟩
      · refine Rows.base ?_ hww1
        iterate 3 refine Rows.low ?_ (by omega)
        exact HR5.out
      · iterate 3 refine Below.setCell ?_ (by simp) _
        exact HB4.out
end Go.Proofs.Ytbidlmejonpadaa
