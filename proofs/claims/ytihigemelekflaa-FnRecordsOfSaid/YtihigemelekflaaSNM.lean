/-
  SN4, SN5, SN6 laid together.
-/
import Derived.Test.YtihigemelekflaaSN3
import Derived.Test.YtihigemelekflaaUM
import Derived.Test.YtihigemelekflaaLookS
import Derived.Test.YtihigemelekflaaFRM
/-
  RECORDS SENT: the program's SendRecord, ExplainRecord, RunRecords. By gen_sn4.py.
-/
namespace Go.Proofs.Ytihigemelekflaa
open Go.RowKit Go.Proofs.Ytihigemelekflaa.Nm
set_option linter.unusedSimpArgs false
set_option linter.unusedVariables false

theorem spotsI_max {L : List Lgr} {H : List Hnd} {q : Int} {x : Name} (h1 : treeOk L H q = true) (h2 : nameOk x = true) : (spotsI L (pathN (nsOf L) x)).length ≤ 30 := by
  have h9 := spotsT_len L H q x
  rwa [show spotsT L H q x = spotsI L (pathN (nsOf L) x) by unfold spotsT; rw [h1, h2]; rfl] at h9
theorem ocX_len (L : List Lgr) (H : List Hnd) (q : Int) (r : Rec) : (ocX L H q r).length ≤ 30 := by
  unfold ocX
  split
  · rename_i h
    simp only [Bool.and_eq_true] at h
    split
    · rw [outs_len]; unfold spX; split
      · simp
      · exact spotsI_max h.1 (recOk_rng h.2).2.2
    · simp
  · simp
theorem occells_at {w : World} {B n c : Nat} {A : Option Addr} {nm tx : ByteArray} {sq : Int} {l : List Oc} (h : Sl w B 7 n (.slice A n c) (l.flatMap (occells nm.data.toList tx.data.toList sq))) {k : Nat} (hk : k < n) :
    ∃ (b o : Nat) (lg hd : ByteArray) (kd lv : Int), A = some ⟨b, o, none⟩ ∧ b < B ∧ l[k]? = some ⟨lg.data.toList, hd.data.toList, kd, lv⟩ ∧ w.cell? ⟨b, o + k * 7, none⟩ = some (.string lg) ∧ w.cell? ⟨b, o + k * 7 + 1, none⟩ = some (.string hd) ∧ w.cell? ⟨b, o + k * 7 + 2, none⟩ = some (.int .i64 kd) ∧ w.cell? ⟨b, o + k * 7 + 3, none⟩ = some (.string nm) ∧ w.cell? ⟨b, o + k * 7 + 4, none⟩ = some (.int .i64 lv) ∧ w.cell? ⟨b, o + k * 7 + 5, none⟩ = some (.string tx) ∧ w.cell? ⟨b, o + k * 7 + 6, none⟩ = some (.int .i64 sq) := by
  obtain ⟨b, o, x, e, hb, hx, hc⟩ := Sl.elem (occells_len _ _ _) h (by omega) hk
  obtain ⟨lg, hd, kd, lv⟩ := x
  refine ⟨b, o, ⟨lg.toArray⟩, ⟨hd.toArray⟩, kd, lv, e, hb, by simpa using hx, hc 0 _ rfl, hc 1 _ rfl, hc 2 _ rfl, ?_, hc 4 _ rfl, ?_, hc 6 _ rfl⟩
  · have := hc 3 _ rfl; rwa [txt_data] at this
  · have := hc 5 _ rfl; rwa [txt_data] at this
theorem sentOf_step {nm tx : List UInt8} {sq : Int} {X : List Oc} {k : Nat} {o : Oc} (h : X[k]? = some o) : sentOf nm tx sq (X.take (k + 1)) = sentOf nm tx sq (X.take k) ++ (if o.kd = 0 then [sent1 nm tx sq o] else []) := by
  rw [List.take_add_one, h, Option.toList_some, sentOf_app]
  congr 1
  unfold sentOf
  by_cases e : o.kd = 0 <;> simp [e]
theorem whyOf_step {X : List Oc} {k : Nat} {o : Oc} (h : X[k]? = some o) : whyOf (X.take (k + 1)) = whyOf (X.take k) ++ [⟨o.kd, o.lg, o.hd⟩] := by
  rw [List.take_add_one, h, Option.toList_some, whyOf_app]; rfl

end Go.Proofs.Ytihigemelekflaa

/-
  RECORDS SENT: the program's RunRecords. By gen_sn5.py.
-/
namespace Go.Proofs.Ytihigemelekflaa
open Go.RowKit Go.Proofs.Ytihigemelekflaa.Nm
set_option linter.unusedSimpArgs false
set_option linter.unusedVariables false

theorem sendX_len (L : List Lgr) (H : List Hnd) (q : Int) (r : Rec) : (sendX L H q r).length ≤ 30 := Nat.le_trans (sentOf_len _ _ _ _) (ocX_len _ _ _ _)
def runX (L : List Lgr) (H : List Hnd) (q : Int) (rs : List Rec) : List Snt := if recsOk rs then rs.flatMap (sendX L H q) else []
theorem run_len (L : List Lgr) (H : List Hnd) (q : Int) (rs : List Rec) : (rs.flatMap (sendX L H q)).length ≤ 30 * rs.length := by
  induction rs with
  | nil => simp
  | cons r t ih => rw [List.flatMap_cons, List.length_append, List.length_cons]; have := sendX_len L H q r; omega
theorem run_step {f : Rec → List Snt} {rs : List Rec} {k : Nat} {r : Rec} (h : rs[k]? = some r) : (rs.take (k + 1)).flatMap f = (rs.take k).flatMap f ++ f r := by
  rw [List.take_add_one, h, Option.toList_some, List.flatMap_append]; simp
theorem recsOk_len {l : List Rec} (h : recsOk l = true) : l.length ≤ 12 := by
  unfold recsOk at h; simp only [Bool.and_eq_true, decide_eq_true_eq] at h; omega
end Go.Proofs.Ytihigemelekflaa


/-
  RECORDS SENT: the model: plain facts, ownFilters.
-/
namespace Go.Proofs.Ytihigemelekflaa
open Go.RowKit Go.Proofs.Ytihigemelekflaa.Nm
set_option linter.unusedSimpArgs false
set_option linter.unusedVariables false

theorem en_parts {L : List Lgr} {q : Int} {x : List UInt8} {lv : Int} (h : enabledT L q x lv = true) : offT L x = false ∧ ¬ lv ≤ q ∧ ¬ lv < levelN (nsOf L) (lvAt L) x := by
  have e : enabledT L q x lv = (!offT L x && (decide (q < lv) && decide (levelN (nsOf L) (lvAt L) x ≤ lv))) := rfl
  rw [e] at h
  simp only [Bool.and_eq_true, Bool.not_eq_true', decide_eq_true_eq] at h
  exact ⟨h.1, by omega, by omega⟩
theorem ent_dis {L : List Lgr} {q : Int} {nm tx : List UInt8} {lv : Int} (h : enabledT L q nm lv = false) : (entX L q nm tx lv).1 ≠ 0 := by
  have e : enabledT L q nm lv = (!offT L nm && (decide (q < lv) && decide (levelN (nsOf L) (lvAt L) nm ≤ lv))) := rfl
  unfold entX
  by_cases h1 : offT L nm = true
  · rw [if_pos h1]; show (1 : Int) ≠ 0; decide
  · rw [if_neg h1]
    by_cases h2 : lv ≤ q
    · rw [if_pos h2]; show (2 : Int) ≠ 0; decide
    · rw [if_neg h2]
      by_cases h3 : lv < levelN (nsOf L) (lvAt L) nm
      · rw [if_pos h3]; show (3 : Int) ≠ 0; decide
      · exfalso
        rw [e] at h
        have a1 : offT L nm = false := by simpa using h1
        rw [a1, decide_eq_true (by omega), decide_eq_true (by omega)] at h
        cases h
theorem sentOf_bad (nm tx : List UInt8) (sq : Int) {kd lv : Int} (h : kd ≠ 0) (a b : List UInt8) : sentOf nm tx sq [⟨a, b, kd, lv⟩] = [] := by unfold sentOf; simp [h]
theorem sendX_bad {L : List Lgr} {H : List Hnd} {q : Int} {r : Rec} (h : (entX L q r.nm r.tx r.lv).1 ≠ 0) : sendX L H q r = [] := by
  unfold sendX ocX
  split
  · first | exact sentOf_bad _ _ _ h _ _ | (rw [if_neg h]; exact sentOf_bad _ _ _ h _ _)
  · rfl
theorem sendX_ok {L : List Lgr} {H : List Hnd} {q : Int} {r : Rec} {g : Int} (ht : treeOk L H q = true) (hr : recOk r = true) (h : entX L q r.nm r.tx r.lv = (0, g)) : sendX L H q r = sentOf r.nm r.tx r.sq (outs H r.nm r.tx (spX L r.nm) g) := by
  unfold sendX ocX; rw [ht, hr, h]; rfl
theorem sent_last {H : List Hnd} (hl : ∀ y ∈ H, y.nm ≠ lastL) (nm tx : List UInt8) (sq g : Int) : sentOf nm tx sq (outs H nm tx [⟨[], lastL⟩] g) = if 30 ≤ g then [⟨[], lastL, ⟨nm, g, tx, sq⟩⟩] else [] := by
  have hO : hOf H lastL = lastH := hOf_miss hl
  have e : outs H nm tx [⟨[], lastL⟩] g = [⟨[], lastL, (askH nm tx lastH g).1, (askH nm tx lastH g).2⟩] := by simp only [outs, hO]
  rw [e]
  by_cases h : (30 : Int) ≤ g
  · rw [if_pos h, askH_sent (q := g) (by unfold lastH; show ¬ g < 30; omega) (by unfold lastH; rfl)]; rfl
  · rw [if_neg h, askH_low (by unfold lastH; show g < 30; omega)]; rfl
theorem sent_step {H : List Hnd} {nm tx : List UInt8} {sq g q : Int} {ss : List Spt} {k : Nat} {s : Spt} (hx : ss[k]? = some s) (hq : lvAfter H nm tx (ss.take k) g = q) :
    sentOf nm tx sq (outs H nm tx (ss.take (k + 1)) g) = sentOf nm tx sq (outs H nm tx (ss.take k) g) ++ (if (askH nm tx (hOf H s.hd) q).1 = 0 then [⟨s.lg, s.hd, ⟨nm, (askH nm tx (hOf H s.hd) q).2, tx, sq⟩⟩] else []) ∧ lvAfter H nm tx (ss.take (k + 1)) g = (askH nm tx (hOf H s.hd) q).2 := by
  obtain ⟨e1, e2⟩ := outs_step (H := H) (nm := nm) (tx := tx) (lv := g) hx hq
  refine ⟨?_, e2⟩
  rw [e1, sentOf_app]
  congr 1
  unfold sentOf
  by_cases e : (askH nm tx (hOf H s.hd) q).1 = 0 <;> simp [e, sent1]
/-- the handler of a spot: where it lies -/
theorem hand_idx {H : List Hnd} {hs : List HndV} (hH : hsOf hs = H) (hn : (H.map (·.nm)).Nodup) {x : List UInt8} (hx : hasL H x = true) : ∃ j, j < hs.length ∧ idxL (hnames hs) x = ((j : Nat) : Int) ∧ H[j]? = some (hOf H x) ∧ (hOf H x).nm = x := by
  unfold hasL at hx
  obtain ⟨y, hy, e⟩ := List.any_eq_true.1 hx
  have ey : y.nm = x := by simpa using e
  have hns : hnames hs = H.map (·.nm) := by rw [← hH]; simp [hnames, hsOf]
  have hm : x ∈ hnames hs := by rw [hns]; exact List.mem_map.2 ⟨y, hy, ey⟩
  have hl := List.idxOf_lt_length_of_mem hm
  have hlen : (hnames hs).length = hs.length := by simp [hnames]
  have hlH : H.length = hs.length := by rw [← hH]; simp [hsOf]
  have hj : (hnames hs).idxOf x < H.length := by omega
  have he : H[(hnames hs).idxOf x].nm = x := by
    have h1 : (hnames hs)[(hnames hs).idxOf x]'hl = x := List.getElem_idxOf hl
    have h2 : (hnames hs)[(hnames hs).idxOf x]? = some x := by rw [List.getElem?_eq_getElem hl, h1]
    rw [hns, List.getElem?_map, ← hns, List.getElem?_eq_getElem hj] at h2
    simpa using h2
  have hg : H[(hnames hs).idxOf x]? = some H[(hnames hs).idxOf x] := List.getElem?_eq_getElem hj
  have hO := hOf_at hn hg
  rw [he] at hO
  refine ⟨(hnames hs).idxOf x, by omega, ?_, by rw [hg, hO], by rw [hO]; exact he⟩
  unfold idxL; rw [if_pos hm]

set_option maxHeartbeats 4000000 in
set_option maxRecDepth 100000 in
theorem specOwnFilters_c {w : World} {B b o n1 k1 n2 k2 : Nat} {A2 : Option Addr} {L : List Lgr} {ls : List LgrV} (q : Int) (x : ByteArray) (hl : Ls w B n1 (.slice (some ⟨b, o, none⟩) n1 k1) ls) (hL : lsOf ls = L) (hN : lnames ls = nsOf L) (hlen : (nsOf L).length = n1) (hB : B ≤ w.heap.size) (hbB : b < B)
    (h0 : (nsOf L)[0]? = some []) (hnd : (nsOf L).Nodup) :
    Calls Try.prog 22 #[.agg #[.slice (some ⟨b, o, none⟩) n1 k1, .slice A2 n2 k2, .int .i64 q], .string x] w (fun e w' => ∃ (A : Option Addr) (fn c : Nat), e = .returned (.slice A fn c) ∧ Fs w' w'.heap.size fn (.slice A fn c) (ownF L x.data.toList) ∧ Below w.heap.size w w') := by
  have HB0 := hid (show Below w.heap.size w (w.alloc (.cells #[.slice (some ⟨b, o, none⟩) n1 k1, .slice A2 n2 k2, .int .i64 q] 41)) from (Below.refl _ _).alloc (Nat.le_refl _) _)
  have AT := hid (loggerAt_c (.slice (some ⟨b, o, none⟩) n1 k1) n1 B ls x (w.alloc (.cells #[.slice (some ⟨b, o, none⟩) n1 k1, .slice A2 n2 k2, .int .i64 q] 41)) (hl.below HB0.out hB))
  rw [hN] at AT
  have hcap := hl.1.cap
  unfold maxLen at hcap
  by_cases hm : x.data.toList ∈ nsOf L
  · have hns := near_self h0 hnd hm
    have hlt : nearN (nsOf L) x.data.toList < n1 := by rw [← hlen]; exact hns.1
    have hix : idxL (nsOf L) x.data.toList = ((nearN (nsOf L) x.data.toList : Nat) : Int) := by
      unfold idxL
      rw [if_pos hm]
      have : (nsOf L).idxOf x.data.toList = nearN (nsOf L) x.data.toList := (near_hit h0 hnd _ _ (by rw [List.getElem?_eq_getElem (List.idxOf_lt_length_of_mem hm), List.getElem_idxOf])).symm
      rw [this]
    rw [hix] at AT
    have HO := hid (show ownF L x.data.toList = fsAt L (nearN (nsOf L) x.data.toList) by unfold ownF; rw [if_pos hm])
    obtain ⟨p, A3, hn', k3, A4, fn, k4, hp, hps, _, hff, g0, g1, g2, g3, g4, g5⟩ := logger_at (hl.below HB0.out hB) hL hlt
    have HF := hid hff
    clear hns hm hix hp hps hff g0 g1 g2 g4 g5 hl hL hN hlen h0 hnd
    generalize ownF L x.data.toList = Y at HO ⊢
    generalize hk : nearN (nsOf L) x.data.toList = k at *
    clear hk
    have s0 : (0 : Int) ≤ (k : Int) := by omega
    have s1 : (k : Int) < (n1 : Int) := by omega
    have s2 : ((k : Int)).toNat = k := by simp
    go_enter Try.func22, Try.ntmps22
    go_wp2_with (go_at_call 18; refine (AT.out).mono ?_; rintro e w2 ⟨rfl, hw2⟩; have hw2 := hw2.symm; subst hw2)
    go_ret
    exact ⟨_, _, _, rfl, by rw [HO.out]; exact ⟨HF.out.1.more (by simp; omega), HF.out.2⟩, HB0.out⟩
  · have hix : idxL (nsOf L) x.data.toList = -1 := idx_miss _ _ hm
    rw [hix] at AT
    have HO := hid (show ownF L x.data.toList = [] by unfold ownF; rw [if_neg hm])
    clear hm hix hl hL hN hlen h0 hnd
    generalize ownF L x.data.toList = Y at HO ⊢
    go_enter Try.func22, Try.ntmps22
    go_wp2_with (go_at_call 18; refine (AT.out).mono ?_; rintro e w2 ⟨rfl, hw2⟩; have hw2 := hw2.symm; subst hw2)
    go_ret
    exact ⟨_, _, _, rfl, by rw [HO.out]; exact ⟨⟨by simp [fsCells], _, _, rfl, Nat.le_refl _, Nat.zero_le _, fun h => by omega⟩, fun f hf => by cases hf⟩, HB0.out.alloc HB0.out.size _⟩
end Go.Proofs.Ytihigemelekflaa
