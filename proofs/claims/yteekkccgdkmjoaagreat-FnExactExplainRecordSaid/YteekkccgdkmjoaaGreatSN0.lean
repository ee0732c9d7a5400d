/-
  RECORDS SENT: plain: what becomes of a record at its spots.
-/
import Derived.Test.YteekkccgdkmjoaaGreatFR0
import Derived.Test.YteekkccgdkmjoaaGreatSpots
import Derived.Test.YteekkccgdkmjoaaGreatGReason
import Derived.Test.YteekkccgdkmjoaaGreatGSent
namespace Go.Proofs.YteekkccgdkmjoaaGreat
open Go.RowKit Nm
set_option linter.unusedSimpArgs false
set_option linter.unusedVariables false

/-- what becomes of a record at a spot -/
structure Oc where
  lg : List UInt8
  hd : List UInt8
  kd : Int
  lv : Int
def occells (nm tx : List UInt8) (sq : Int) (o : Oc) : List Value := [txt o.lg, txt o.hd, .int .i64 o.kd, txt nm, .int .i64 o.lv, txt tx, .int .i64 sq]
theorem occells_len (nm tx : List UInt8) (sq : Int) (o : Oc) : (occells nm tx sq o).length = 7 := rfl
/-- a handler is asked: the kind of the reason, the level as it goes on -/
def askH (nm tx : List UInt8) (h : Hnd) (lv : Int) : Int × Int :=
  if lv < h.lv then (5, lv) else match filtL nm tx h.fs lv with
    | none => (6, lv)
    | some q => (0, q)
theorem askH_low {nm tx : List UInt8} {h : Hnd} {lv : Int} (hq : lv < h.lv) : askH nm tx h lv = (5, lv) := by unfold askH; rw [if_pos hq]
theorem askH_drop {nm tx : List UInt8} {h : Hnd} {lv : Int} (hq : ¬ lv < h.lv) (hf : filtL nm tx h.fs lv = none) : askH nm tx h lv = (6, lv) := by unfold askH; rw [if_neg hq, hf]
theorem askH_sent {nm tx : List UInt8} {h : Hnd} {lv q : Int} (hq : ¬ lv < h.lv) (hf : filtL nm tx h.fs lv = some q) : askH nm tx h lv = (0, q) := by unfold askH; rw [if_neg hq, hf]
def lastH : Hnd := ⟨lastL, 30, []⟩
def hOf (H : List Hnd) (x : List UInt8) : Hnd := (H.find? fun h => decide (h.nm = x)).getD lastH
def outs (H : List Hnd) (nm tx : List UInt8) : List Spt → Int → List Oc
  | [], _ => []
  | s :: ss, lv => ⟨s.lg, s.hd, (askH nm tx (hOf H s.hd) lv).1, (askH nm tx (hOf H s.hd) lv).2⟩ :: outs H nm tx ss (askH nm tx (hOf H s.hd) lv).2
def lvAfter (H : List Hnd) (nm tx : List UInt8) : List Spt → Int → Int
  | [], lv => lv
  | s :: ss, lv => lvAfter H nm tx ss (askH nm tx (hOf H s.hd) lv).2
section
variable {H : List Hnd} {nm tx : List UInt8}
theorem outs_app (a b : List Spt) (lv : Int) : outs H nm tx (a ++ b) lv = outs H nm tx a lv ++ outs H nm tx b (lvAfter H nm tx a lv) := by
  induction a generalizing lv with
  | nil => rfl
  | cons s a ih =>
    show _ :: outs H nm tx (a ++ b) _ = _ :: (outs H nm tx a _ ++ _)
    rw [ih]; rfl
theorem lvAfter_app (a b : List Spt) (lv : Int) : lvAfter H nm tx (a ++ b) lv = lvAfter H nm tx b (lvAfter H nm tx a lv) := by
  induction a generalizing lv with
  | nil => rfl
  | cons s a ih => exact ih _
theorem outs_len (a : List Spt) (lv : Int) : (outs H nm tx a lv).length = a.length := by
  induction a generalizing lv with
  | nil => rfl
  | cons s a ih => show (outs H nm tx a _).length + 1 = a.length + 1; rw [ih]
theorem outs_step {ss : List Spt} {k : Nat} {s : Spt} {lv q : Int} (hx : ss[k]? = some s) (hq : lvAfter H nm tx (ss.take k) lv = q) :
    outs H nm tx (ss.take (k + 1)) lv = outs H nm tx (ss.take k) lv ++ [⟨s.lg, s.hd, (askH nm tx (hOf H s.hd) q).1, (askH nm tx (hOf H s.hd) q).2⟩] ∧ lvAfter H nm tx (ss.take (k + 1)) lv = (askH nm tx (hOf H s.hd) q).2 := by
  rw [List.take_add_one, hx]
  show outs H nm tx (ss.take k ++ [s]) lv = _ ∧ lvAfter H nm tx (ss.take k ++ [s]) lv = _
  rw [outs_app, lvAfter_app, hq]
  exact ⟨rfl, rfl⟩
theorem askH_range {h : Hnd} {lv : Int} (hf : filtersOk h.fs = true) (h1 : 1 ≤ lv) (h2 : lv ≤ 60) : 1 ≤ (askH nm tx h lv).2 ∧ (askH nm tx h lv).2 ≤ 60 := by
  unfold askH
  split
  · exact ⟨h1, h2⟩
  · cases e : filtL nm tx h.fs lv with
    | none => exact ⟨h1, h2⟩
    | some q =>
      unfold filtersOk at hf
      rw [Bool.and_eq_true] at hf
      exact filtL_range hf.1 h1 h2 e
theorem askH_kind (h : Hnd) (lv : Int) : (askH nm tx h lv).1 = 5 ∨ (askH nm tx h lv).1 = 6 ∨ (askH nm tx h lv).1 = 0 := by
  unfold askH
  split
  · exact .inl rfl
  · cases e : filtL nm tx h.fs lv with
    | none => exact .inr (.inl rfl)
    | some q => exact .inr (.inr rfl)
theorem hOf_ok {L : List Lgr} {q : Int} (ht : treeOk L H q = true) (x : List UInt8) : filtersOk (hOf H x).fs = true := by
  unfold hOf
  cases e : H.find? fun h => decide (h.nm = x) with
  | none => rfl
  | some h =>
    have hm := List.mem_of_find?_eq_some e
    unfold treeOk hndsOk at ht
    simp only [Bool.and_eq_true, List.all_eq_true] at ht
    have := ht.2.1.1 h hm
    unfold hndOk at this
    simp only [Bool.and_eq_true] at this
    exact this.2.2.2
theorem hOf_name {x : List UInt8} {h : Hnd} (e : H.find? (fun h => decide (h.nm = x)) = some h) : hOf H x = h ∧ h.nm = x := by
  unfold hOf
  rw [e]
  exact ⟨rfl, by have := List.find?_some e; simpa using this⟩
end
theorem recOk_lv {nm tx : List UInt8} {lv q sq : Int} (h : recOk ⟨nm, lv, tx, sq⟩ = true) (h1 : 1 ≤ q) (h2 : q ≤ 60) : recOk ⟨nm, q, tx, sq⟩ = true := by
  unfold recOk at h ⊢
  simp only [Bool.and_eq_true, decide_eq_true_eq] at h ⊢
  exact ⟨h.1, h1, h2, h.2.2.2⟩
theorem recOk_rng {nm tx : List UInt8} {lv sq : Int} (h : recOk ⟨nm, lv, tx, sq⟩ = true) : 1 ≤ lv ∧ lv ≤ 60 ∧ nameOk nm = true := by
  unfold recOk at h; simp only [Bool.and_eq_true, decide_eq_true_eq] at h; exact ⟨h.2.1, h.2.2.1, h.1⟩
/-- the filters of the record's own logger -/
def ownF (L : List Lgr) (nm : List UInt8) : List Flt := if nm ∈ nsOf L then fsAt L (nearN (nsOf L) nm) else []
/-- the record's logger: the kind of the reason, the level as it goes on -/
def entX (L : List Lgr) (q : Int) (nm tx : List UInt8) (lv : Int) : Int × Int :=
  if offT L nm then (1, lv) else if lv ≤ q then (2, lv) else if lv < levelN (nsOf L) (lvAt L) nm then (3, lv) else match filtL nm tx (ownF L nm) lv with
    | none => (4, lv)
    | some v => (0, v)
def spX (L : List Lgr) (nm : List UInt8) : List Spt := if spotsI L (pathN (nsOf L) nm) = [] then [⟨[], lastL⟩] else spotsI L (pathN (nsOf L) nm)
def ocX (L : List Lgr) (H : List Hnd) (q : Int) (r : Rec) : List Oc :=
  if treeOk L H q && recOk r then
    (if (entX L q r.nm r.tx r.lv).1 = 0 then outs H r.nm r.tx (spX L r.nm) (entX L q r.nm r.tx r.lv).2 else [⟨[], [], (entX L q r.nm r.tx r.lv).1, (entX L q r.nm r.tx r.lv).2⟩])
  else []
def sent1 (nm tx : List UInt8) (sq : Int) (o : Oc) : Snt := ⟨o.lg, o.hd, ⟨nm, o.lv, tx, sq⟩⟩
def sentOf (nm tx : List UInt8) (sq : Int) (l : List Oc) : List Snt := (l.filter fun o => o.kd == 0).map (sent1 nm tx sq)
def whyOf (l : List Oc) : List Rsn := l.map fun o => ⟨o.kd, o.lg, o.hd⟩
def sendX (L : List Lgr) (H : List Hnd) (q : Int) (r : Rec) : List Snt := sentOf r.nm r.tx r.sq (ocX L H q r)
def whyX (L : List Lgr) (H : List Hnd) (q : Int) (r : Rec) : List Rsn := whyOf (ocX L H q r)
theorem sentOf_app (nm tx : List UInt8) (sq : Int) (a b : List Oc) : sentOf nm tx sq (a ++ b) = sentOf nm tx sq a ++ sentOf nm tx sq b := by simp [sentOf]
theorem whyOf_app (a b : List Oc) : whyOf (a ++ b) = whyOf a ++ whyOf b := by simp [whyOf]
theorem sentOf_len (nm tx : List UInt8) (sq : Int) (a : List Oc) : (sentOf nm tx sq a).length ≤ a.length := by
  unfold sentOf; rw [List.length_map]; exact List.length_filter_le _ _
theorem ent_range {L : List Lgr} {H : List Hnd} {q t : Int} {nm tx : List UInt8} {lv : Int} (ht : treeOk L H t = true) (h1 : 1 ≤ lv) (h2 : lv ≤ 60) : 1 ≤ (entX L q nm tx lv).2 ∧ (entX L q nm tx lv).2 ≤ 60 := by
  unfold entX
  split
  · exact ⟨h1, h2⟩
  split
  · exact ⟨h1, h2⟩
  split
  · exact ⟨h1, h2⟩
  cases e : filtL nm tx (ownF L nm) lv with
  | none => exact ⟨h1, h2⟩
  | some v =>
    refine filtL_range (?_ : (ownF L nm).all fltOk = true) h1 h2 e
    unfold ownF
    split
    · unfold fsAt
      by_cases hk : nearN (nsOf L) nm < L.length
      · have e2 : (L.map (·.fs)).getD (nearN (nsOf L) nm) [] = L[nearN (nsOf L) nm].fs := by simp [List.getD, hk]
        rw [e2]
        unfold treeOk lgrsOk at ht
        simp only [Bool.and_eq_true, List.all_eq_true] at ht
        have := ht.2.2.1 _ (List.getElem_mem hk)
        unfold lgrOk filtersOk at this
        simp only [Bool.and_eq_true] at this
        exact this.2.2.1.1
      · simp [List.getD, hk]
    · rfl
end Go.Proofs.YteekkccgdkmjoaaGreat
