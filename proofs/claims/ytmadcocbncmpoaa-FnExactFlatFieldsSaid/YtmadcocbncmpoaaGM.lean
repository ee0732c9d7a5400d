/-
  FR0, GSpot, Spots, GReason, GRecord, GSent, SN0 laid together.
-/
import Derived.Test.YtmadcocbncmpoaaHelps
import Derived.Test.YtmadcocbncmpoaaLookS
/-
  FILTERS ASKED: plain: what becomes of a record's level behind filters.
-/
namespace Go.Proofs.Ytmadcocbncmpoaa
open Go.RowKit Nm
set_option linter.unusedSimpArgs false
set_option linter.unusedVariables false

/-- a word is one of a text's -/
def hasW (tx wd : List UInt8) : Bool := decide (wd ∈ splitB 32 tx)
/-- one filter: the level behind it, if the record passes -/
def passF (nm tx : List UInt8) (f : Flt) (lv : Int) : Option Int :=
  if f.k = 0 then (if belowL nm f.nm then some lv else none)
  else if f.k = 1 then (if lv ≤ f.n then some lv else none)
  else if f.k = 2 then (if hasW tx f.nm then none else some lv)
  else if f.k = 3 then some (if lv < f.n then f.n else lv) else some lv
def filtL (nm tx : List UInt8) : List Flt → Int → Option Int
  | [], lv => some lv
  | f :: fs, lv => (passF nm tx f lv).bind (filtL nm tx fs)
theorem filtL_app (nm tx : List UInt8) (a b : List Flt) (lv : Int) : filtL nm tx (a ++ b) lv = (filtL nm tx a lv).bind (filtL nm tx b) := by
  induction a generalizing lv with
  | nil => rfl
  | cons f a ih =>
    show (passF nm tx f lv).bind (filtL nm tx (a ++ b)) = ((passF nm tx f lv).bind (filtL nm tx a)).bind _
    cases passF nm tx f lv with
    | none => rfl
    | some v => exact ih v
theorem filtL_step {nm tx : List UInt8} {fs : List Flt} {k : Nat} {f : Flt} {lv q : Int} (hx : fs[k]? = some f) (h : filtL nm tx (fs.take k) lv = some q) : filtL nm tx (fs.take (k + 1)) lv = passF nm tx f q := by
  rw [List.take_add_one, hx, filtL_app, h]
  show (passF nm tx f q).bind (filtL nm tx []) = _
  cases passF nm tx f q <;> rfl
theorem filtL_dead {nm tx : List UInt8} {fs : List Flt} {k : Nat} {lv : Int} (h : filtL nm tx (fs.take k) lv = none) : filtL nm tx fs lv = none := by
  conv => lhs; rw [← List.take_append_drop k fs]
  rw [filtL_app, h]; rfl
theorem passF_range {nm tx : List UInt8} {f : Flt} {lv q : Int} (hf : fltOk f = true) (h1 : 1 ≤ lv) (h2 : lv ≤ 60) (h : passF nm tx f lv = some q) : 1 ≤ q ∧ q ≤ 60 := by
  unfold passF at h
  split at h
  · split at h <;> (cases h; try exact ⟨h1, h2⟩)
  · split at h
    · split at h <;> (cases h; try exact ⟨h1, h2⟩)
    · split at h
      · split at h <;> (cases h; try exact ⟨h1, h2⟩)
      · split at h
        · rename_i a b c d
          cases h
          unfold fltOk at hf
          rw [if_neg a, if_neg c, if_pos (.inr d)] at hf
          simp only [Bool.and_eq_true, decide_eq_true_eq] at hf
          split <;> omega
        · cases h; exact ⟨h1, h2⟩
theorem filtL_range {nm tx : List UInt8} {fs : List Flt} {lv q : Int} (hf : fs.all fltOk = true) (h1 : 1 ≤ lv) (h2 : lv ≤ 60) (h : filtL nm tx fs lv = some q) : 1 ≤ q ∧ q ≤ 60 := by
  induction fs generalizing lv with
  | nil => cases h; exact ⟨h1, h2⟩
  | cons f fs ih =>
    rw [List.all_cons, Bool.and_eq_true] at hf
    unfold filtL at h
    cases e : passF nm tx f lv with
    | none => rw [e] at h; cases h
    | some v =>
      rw [e] at h
      obtain ⟨a, b⟩ := passF_range hf.1 h1 h2 e
      exact ih hf.2 a b h
/-- the record behind valid filters -/
def filtR (fs : List Flt) (r : Rec) : Option Rec := (filtL r.nm r.tx fs r.lv).map fun v => ⟨r.nm, v, r.tx, r.sq⟩
def filtX (fs : List Flt) (r : Rec) : Option Rec := if filtersOk fs && recOk r then filtR fs r else none
def recZ : Rec := ⟨[], 0, [], 0⟩
def recD (o : Option Rec) : Rec := o.getD recZ
end Go.Proofs.Ytmadcocbncmpoaa

/-
  Spot: how slices of them lie in memory, and the walks of what the laws do with them (sized, copied, compared, marked, held). By gen_flat.py.
-/
namespace Go.Proofs.Ytmadcocbncmpoaa
open Go.RowKit Nm
set_option linter.unusedSimpArgs false
set_option linter.unusedVariables false

structure Spt where
  lg : List UInt8
  hd : List UInt8
deriving DecidableEq
def spcells (x : Spt) : List Value := [txt x.lg, txt x.hd]
theorem spcells_len (x : Spt) : (spcells x).length = 2 := rfl
def spcellsFit (x : Spt) : Prop := x.lg.length ≤ maxTxt ∧ x.hd.length ≤ maxTxt
def Sps (w : World) (B n : Nat) (v : Value) (l : List Spt) : Prop := Sl w B 2 n v (l.flatMap spcells) ∧ ∀ x ∈ l, spcellsFit x
section
variable {w w' : World} {B B' n : Nat} {v : Value} {l : List Spt}
theorem Sps.below (h : Sps w B n v l) (hb : Below B' w w') (hB : B ≤ B') : Sps w' B n v l := ⟨h.1.below hb hB, h.2⟩
theorem Sps.more (h : Sps w B n v l) (hB : B ≤ B') : Sps w B' n v l := ⟨h.1.more hB, h.2⟩
theorem Sps.count (h : Sps w B n v l) : l.length = n := Sl.count spcells_len h.1 (by omega)
end
/-- element k: its cells -/
theorem spcells_at {w : World} {B n c : Nat} {A : Option Addr} {l : List Spt} (h : Sl w B 2 n (.slice A n c) (l.flatMap spcells)) {k : Nat} (hk : k < n) :
    ∃ (b o : Nat) (lg : ByteArray) (hd : ByteArray), A = some ⟨b, o, none⟩ ∧ b < B ∧ l[k]? = some ⟨lg.data.toList, hd.data.toList⟩ ∧ w.cell? ⟨b, o + k * 2, none⟩ = some (.string lg) ∧ w.cell? ⟨b, o + k * 2 + 1, none⟩ = some (.string hd) := by
  obtain ⟨b, o, x, e, hb, hx, hc⟩ := Sl.elem spcells_len h (by omega) hk
  obtain ⟨lg, hd⟩ := x
  exact ⟨b, o, ⟨lg.toArray⟩, ⟨hd.toArray⟩, e, hb, by simpa using hx, hc 0 _ rfl, hc 1 _ rfl⟩
theorem spcells_fit {l : List Spt} {k : Nat} {lg : ByteArray} {hd : ByteArray} (h : ∀ x ∈ l, spcellsFit x) (hx : l[k]? = some ⟨lg.data.toList, hd.data.toList⟩) : lg.size ≤ maxTxt ∧ hd.size ≤ maxTxt := by
  have := h _ (List.mem_of_getElem? hx)
  simpa [spcellsFit, ← Lib.size_eq] using this

theorem spcells_one (l : List Spt) : ∀ u ∈ l.flatMap spcells, u.oneCell' = true := by
  intro u hu
  obtain ⟨x, _, hx⟩ := List.mem_flatMap.1 hu
  simp only [spcells, List.mem_cons, List.not_mem_nil, or_false] at hx
  rcases hx with rfl | rfl <;> rfl
def spcellsKinds : List Bool := [true, true]

end Go.Proofs.Ytmadcocbncmpoaa

/-
  U3, U4, U5, U6 laid together.
-/
namespace Go.Proofs.Ytmadcocbncmpoaa
open Go.RowKit Nm
set_option linter.unusedSimpArgs false
set_option linter.unusedVariables false

theorem nodup_len {α : Type} [DecidableEq α] : ∀ (a b : List α), a.Nodup → (∀ x ∈ a, x ∈ b) → a.length ≤ b.length := by
  intro a
  induction a with
  | nil => intro b _ _; simp
  | cons x a ih =>
    intro b hn hs
    rw [List.nodup_cons] at hn
    have hx : x ∈ b := hs x (List.mem_cons_self ..)
    have h1 := ih (b.erase x) hn.2 (fun y hy => (List.mem_erase_of_ne (fun e => hn.1 (by rw [← e]; exact hy))).2 (hs y (List.mem_cons_of_mem _ hy)))
    rw [List.length_erase_of_mem hx] at h1
    have : 0 < b.length := List.length_pos_of_mem hx
    rw [List.length_cons]; omega
theorem lgr_hs_len {L : List Lgr} {H : List Hnd} {q : Int} (h : treeOk L H q = true) {l : Lgr} (hl : l ∈ L) : l.hs.length ≤ 6 := by
  unfold treeOk hndsOk lgrsOk at h
  simp only [Bool.and_eq_true, decide_eq_true_eq, List.all_eq_true] at h
  have h1 := h.2.2.1 l hl
  unfold lgrOk at h1
  simp only [Bool.and_eq_true, decide_eq_true_eq, List.all_eq_true] at h1
  have h2 := nodup_len l.hs (H.map (·.nm)) h1.2.2.2.2 (fun x hx => by
    have h3 := h1.2.2.2.1 x hx
    unfold hasL at h3
    obtain ⟨y, hy, e⟩ := List.any_eq_true.1 h3
    exact List.mem_map.2 ⟨y, hy, of_decide_eq_true e⟩)
  rw [List.length_map] at h2
  have := h.2.1.2.2
  omega
theorem hsAt_len {L : List Lgr} {H : List Hnd} {q : Int} (h : treeOk L H q = true) (i : Nat) : (hsAt L i).length ≤ 6 := by
  unfold hsAt
  by_cases hi : i < L.length
  · have e : (L.map (·.hs)).getD i [] = L[i].hs := by simp [List.getD, hi]
    rw [e]; exact lgr_hs_len h (List.getElem_mem hi)
  · have e : (L.map (·.hs)).getD i [] = [] := by simp [List.getD, Nat.le_of_not_lt hi]
    rw [e]; simp
/-- the spots of logger i alone: the first m -/
def ownK (L : List Lgr) (i m : Nat) : List Spt := ((hsAt L i).take m).map fun h => ⟨(nsOf L).getD i [], h⟩
def ownS (L : List Lgr) (i : Nat) : List Spt := (hsAt L i).map fun h => ⟨(nsOf L).getD i [], h⟩
theorem ownK_zero (L : List Lgr) (i : Nat) : ownK L i 0 = [] := rfl
theorem ownK_step {L : List Lgr} {i m : Nat} {x : Name} (h : (hsAt L i)[m]? = some x) : ownK L i (m + 1) = ownK L i m ++ [⟨(nsOf L).getD i [], x⟩] := by
  unfold ownK; rw [List.take_add_one, h, List.map_append]; rfl
theorem ownK_all {L : List Lgr} {i m : Nat} (h : (hsAt L i).length ≤ m) : ownK L i m = ownS L i := by unfold ownK ownS; rw [List.take_of_length_le h]
theorem ownK_len (L : List Lgr) (i m : Nat) : (ownK L i m).length ≤ m := by unfold ownK; rw [List.length_map, List.length_take]; omega
/-- the spots of the loggers of a path, up to one with Stop -/
def spotsI (L : List Lgr) : List Nat → List Spt
  | [] => []
  | i :: r => ownS L i ++ (if stopAt L i then [] else spotsI L r)
theorem spotsI_len {L : List Lgr} (h : ∀ i, (hsAt L i).length ≤ 6) (pl : List Nat) : (spotsI L pl).length ≤ 6 * pl.length := by
  induction pl with
  | nil => simp [spotsI]
  | cons i r ih =>
    unfold spotsI ownS
    rw [List.length_append, List.length_map, List.length_cons]
    have := h i
    split
    · simp; omega
    · omega
def spotsT (L : List Lgr) (H : List Hnd) (q : Int) (x : Name) : List Spt := if treeOk L H q && nameOk x then spotsI L (pathN (nsOf L) x) else []
theorem spotsT_len (L : List Lgr) (H : List Hnd) (q : Int) (x : Name) : (spotsT L H q x).length ≤ 30 := by
  unfold spotsT
  split
  · rename_i h
    simp only [Bool.and_eq_true] at h
    have h1 := spotsI_len (hsAt_len h.1) (pathN (nsOf L) x)
    have h2 : (pathN (nsOf L) x).length ≤ 5 := pathF_len _ _ _
    omega
  · simp
/-- what is left of the spots at a node -/
def spotsR (L : List Lgr) (f : Nat) : Option Nat → List Spt
  | none => []
  | some k => spotsI L (pathF (nsOf L) f k)
theorem spotsR_len {L : List Lgr} (h : ∀ i, (hsAt L i).length ≤ 6) (f k : Nat) : (spotsI L (pathF (nsOf L) 4 k)).length ≤ 30 := by
  have h1 := spotsI_len h (pathF (nsOf L) 4 k)
  have h2 : (pathF (nsOf L) 4 k).length ≤ 5 := pathF_len _ _ _
  omega
end Go.Proofs.Ytmadcocbncmpoaa

/-
  SPOTS: the program's SpotsOf; an append of a spot as a run.
-/
namespace Go.Proofs.Ytmadcocbncmpoaa
open Go.RowKit Nm
set_option linter.unusedSimpArgs false
set_option linter.unusedVariables false

end Go.Proofs.Ytmadcocbncmpoaa

/-
  SPOTS: the model's.
-/
namespace Go.Proofs.Ytmadcocbncmpoaa
open Go.RowKit Nm
set_option linter.unusedSimpArgs false
set_option linter.unusedVariables false

theorem spotsI_at {L : List Lgr} {pl : List Nat} {k i : Nat} (h : pl[k]? = some i) : spotsI L (pl.drop k) = ownS L i ++ (if stopAt L i then [] else spotsI L (pl.drop (k + 1))) := by
  obtain ⟨hk, rfl⟩ := List.getElem?_eq_some_iff.1 h
  rw [List.drop_eq_getElem_cons hk, spotsI]
theorem spotsI_end {L : List Lgr} {pl : List Nat} {k : Nat} (h : pl.length ≤ k) : spotsI L (pl.drop k) = [] := by
  rw [List.drop_eq_nil_of_le h, spotsI]

end Go.Proofs.Ytmadcocbncmpoaa

/-
  SPOTS: the model's SpotsOf.
-/
namespace Go.Proofs.Ytmadcocbncmpoaa
open Go.RowKit Nm
set_option linter.unusedSimpArgs false
set_option linter.unusedVariables false

end Go.Proofs.Ytmadcocbncmpoaa

/-
  Reason: how slices of them lie in memory, and the walks of what the laws do with them (sized, copied, compared, marked, held). By gen_flat.py.
-/
namespace Go.Proofs.Ytmadcocbncmpoaa
open Go.RowKit Nm
set_option linter.unusedSimpArgs false
set_option linter.unusedVariables false

structure Rsn where
  kd : Int
  lg : List UInt8
  hd : List UInt8
deriving DecidableEq
def rscells (x : Rsn) : List Value := [.int .i64 x.kd, txt x.lg, txt x.hd]
theorem rscells_len (x : Rsn) : (rscells x).length = 3 := rfl
def rscellsFit (x : Rsn) : Prop := x.lg.length ≤ maxTxt ∧ x.hd.length ≤ maxTxt
def Rsns (w : World) (B n : Nat) (v : Value) (l : List Rsn) : Prop := Sl w B 3 n v (l.flatMap rscells) ∧ ∀ x ∈ l, rscellsFit x
section
variable {w w' : World} {B B' n : Nat} {v : Value} {l : List Rsn}
theorem Rsns.below (h : Rsns w B n v l) (hb : Below B' w w') (hB : B ≤ B') : Rsns w' B n v l := ⟨h.1.below hb hB, h.2⟩
theorem Rsns.more (h : Rsns w B n v l) (hB : B ≤ B') : Rsns w B' n v l := ⟨h.1.more hB, h.2⟩
theorem Rsns.count (h : Rsns w B n v l) : l.length = n := Sl.count rscells_len h.1 (by omega)
end
/-- element k: its cells -/
theorem rscells_at {w : World} {B n c : Nat} {A : Option Addr} {l : List Rsn} (h : Sl w B 3 n (.slice A n c) (l.flatMap rscells)) {k : Nat} (hk : k < n) :
    ∃ (b o : Nat) (kd : Int) (lg : ByteArray) (hd : ByteArray), A = some ⟨b, o, none⟩ ∧ b < B ∧ l[k]? = some ⟨kd, lg.data.toList, hd.data.toList⟩ ∧ w.cell? ⟨b, o + k * 3, none⟩ = some (.int .i64 kd) ∧ w.cell? ⟨b, o + k * 3 + 1, none⟩ = some (.string lg) ∧ w.cell? ⟨b, o + k * 3 + 2, none⟩ = some (.string hd) := by
  obtain ⟨b, o, x, e, hb, hx, hc⟩ := Sl.elem rscells_len h (by omega) hk
  obtain ⟨kd, lg, hd⟩ := x
  exact ⟨b, o, kd, ⟨lg.toArray⟩, ⟨hd.toArray⟩, e, hb, by simpa using hx, hc 0 _ rfl, hc 1 _ rfl, hc 2 _ rfl⟩
theorem rscells_fit {l : List Rsn} {k : Nat} {kd : Int} {lg : ByteArray} {hd : ByteArray} (h : ∀ x ∈ l, rscellsFit x) (hx : l[k]? = some ⟨kd, lg.data.toList, hd.data.toList⟩) : lg.size ≤ maxTxt ∧ hd.size ≤ maxTxt := by
  have := h _ (List.mem_of_getElem? hx)
  simpa [rscellsFit, ← Lib.size_eq] using this

theorem rscells_one (l : List Rsn) : ∀ u ∈ l.flatMap rscells, u.oneCell' = true := by
  intro u hu
  obtain ⟨x, _, hx⟩ := List.mem_flatMap.1 hu
  simp only [rscells, List.mem_cons, List.not_mem_nil, or_false] at hx
  rcases hx with rfl | rfl | rfl <;> rfl
def rscellsKinds : List Bool := [false, true, true]

end Go.Proofs.Ytmadcocbncmpoaa

/-
  Record: how slices of them lie in memory, and the walks of what the laws do with them (sized, copied, compared, marked, held). By gen_flat.py.
-/
namespace Go.Proofs.Ytmadcocbncmpoaa
open Go.RowKit Nm
set_option linter.unusedSimpArgs false
set_option linter.unusedVariables false

theorem rcells_len (x : Rec) : (rcells x).length = 4 := rfl
def rcellsFit (x : Rec) : Prop := x.nm.length ≤ maxTxt ∧ x.tx.length ≤ maxTxt
def Rs (w : World) (B n : Nat) (v : Value) (l : List Rec) : Prop := Sl w B 4 n v (l.flatMap rcells) ∧ ∀ x ∈ l, rcellsFit x
section
variable {w w' : World} {B B' n : Nat} {v : Value} {l : List Rec}
theorem Rs.below (h : Rs w B n v l) (hb : Below B' w w') (hB : B ≤ B') : Rs w' B n v l := ⟨h.1.below hb hB, h.2⟩
theorem Rs.more (h : Rs w B n v l) (hB : B ≤ B') : Rs w B' n v l := ⟨h.1.more hB, h.2⟩
theorem Rs.count (h : Rs w B n v l) : l.length = n := Sl.count rcells_len h.1 (by omega)
end
/-- element k: its cells -/
theorem rcells_at {w : World} {B n c : Nat} {A : Option Addr} {l : List Rec} (h : Sl w B 4 n (.slice A n c) (l.flatMap rcells)) {k : Nat} (hk : k < n) :
    ∃ (b o : Nat) (nm : ByteArray) (lv : Int) (tx : ByteArray) (sq : Int), A = some ⟨b, o, none⟩ ∧ b < B ∧ l[k]? = some ⟨nm.data.toList, lv, tx.data.toList, sq⟩ ∧ w.cell? ⟨b, o + k * 4, none⟩ = some (.string nm) ∧ w.cell? ⟨b, o + k * 4 + 1, none⟩ = some (.int .i64 lv) ∧ w.cell? ⟨b, o + k * 4 + 2, none⟩ = some (.string tx) ∧ w.cell? ⟨b, o + k * 4 + 3, none⟩ = some (.int .i64 sq) := by
  obtain ⟨b, o, x, e, hb, hx, hc⟩ := Sl.elem rcells_len h (by omega) hk
  obtain ⟨nm, lv, tx, sq⟩ := x
  exact ⟨b, o, ⟨nm.toArray⟩, lv, ⟨tx.toArray⟩, sq, e, hb, by simpa using hx, hc 0 _ rfl, hc 1 _ rfl, hc 2 _ rfl, hc 3 _ rfl⟩
theorem rcells_fit {l : List Rec} {k : Nat} {nm : ByteArray} {lv : Int} {tx : ByteArray} {sq : Int} (h : ∀ x ∈ l, rcellsFit x) (hx : l[k]? = some ⟨nm.data.toList, lv, tx.data.toList, sq⟩) : nm.size ≤ maxTxt ∧ tx.size ≤ maxTxt := by
  have := h _ (List.mem_of_getElem? hx)
  simpa [rcellsFit, ← Lib.size_eq] using this

theorem rcells_one (l : List Rec) : ∀ u ∈ l.flatMap rcells, u.oneCell' = true := by
  intro u hu
  obtain ⟨x, _, hx⟩ := List.mem_flatMap.1 hu
  simp only [rcells, List.mem_cons, List.not_mem_nil, or_false] at hx
  rcases hx with rfl | rfl | rfl | rfl <;> rfl
def rcellsKinds : List Bool := [true, false, true, false]

end Go.Proofs.Ytmadcocbncmpoaa

/-
  Sent: how slices of them lie in memory, and the walks of what the laws do with them (sized, copied, compared, marked, held). By gen_flat.py.
-/
namespace Go.Proofs.Ytmadcocbncmpoaa
open Go.RowKit Nm
set_option linter.unusedSimpArgs false
set_option linter.unusedVariables false

structure Snt where
  lg : List UInt8
  hd : List UInt8
  rc : Rec
deriving DecidableEq
def sncells (x : Snt) : List Value := [txt x.lg, txt x.hd, txt x.rc.nm, .int .i64 x.rc.lv, txt x.rc.tx, .int .i64 x.rc.sq]
theorem sncells_len (x : Snt) : (sncells x).length = 6 := rfl
def sncellsFit (x : Snt) : Prop := x.lg.length ≤ maxTxt ∧ x.hd.length ≤ maxTxt ∧ x.rc.nm.length ≤ maxTxt ∧ x.rc.tx.length ≤ maxTxt
def Snts (w : World) (B n : Nat) (v : Value) (l : List Snt) : Prop := Sl w B 6 n v (l.flatMap sncells) ∧ ∀ x ∈ l, sncellsFit x
section
variable {w w' : World} {B B' n : Nat} {v : Value} {l : List Snt}
theorem Snts.below (h : Snts w B n v l) (hb : Below B' w w') (hB : B ≤ B') : Snts w' B n v l := ⟨h.1.below hb hB, h.2⟩
theorem Snts.more (h : Snts w B n v l) (hB : B ≤ B') : Snts w B' n v l := ⟨h.1.more hB, h.2⟩
theorem Snts.count (h : Snts w B n v l) : l.length = n := Sl.count sncells_len h.1 (by omega)
end
/-- element k: its cells -/
theorem sncells_at {w : World} {B n c : Nat} {A : Option Addr} {l : List Snt} (h : Sl w B 6 n (.slice A n c) (l.flatMap sncells)) {k : Nat} (hk : k < n) :
    ∃ (b o : Nat) (lg : ByteArray) (hd : ByteArray) (nm : ByteArray) (lv : Int) (tx : ByteArray) (sq : Int), A = some ⟨b, o, none⟩ ∧ b < B ∧ l[k]? = some ⟨lg.data.toList, hd.data.toList, ⟨nm.data.toList, lv, tx.data.toList, sq⟩⟩ ∧ w.cell? ⟨b, o + k * 6, none⟩ = some (.string lg) ∧ w.cell? ⟨b, o + k * 6 + 1, none⟩ = some (.string hd) ∧ w.cell? ⟨b, o + k * 6 + 2, none⟩ = some (.string nm) ∧ w.cell? ⟨b, o + k * 6 + 3, none⟩ = some (.int .i64 lv) ∧ w.cell? ⟨b, o + k * 6 + 4, none⟩ = some (.string tx) ∧ w.cell? ⟨b, o + k * 6 + 5, none⟩ = some (.int .i64 sq) := by
  obtain ⟨b, o, x, e, hb, hx, hc⟩ := Sl.elem sncells_len h (by omega) hk
  obtain ⟨lg, hd, ⟨nm, lv, tx, sq⟩⟩ := x
  exact ⟨b, o, ⟨lg.toArray⟩, ⟨hd.toArray⟩, ⟨nm.toArray⟩, lv, ⟨tx.toArray⟩, sq, e, hb, by simpa using hx, hc 0 _ rfl, hc 1 _ rfl, hc 2 _ rfl, hc 3 _ rfl, hc 4 _ rfl, hc 5 _ rfl⟩
theorem sncells_fit {l : List Snt} {k : Nat} {lg : ByteArray} {hd : ByteArray} {nm : ByteArray} {lv : Int} {tx : ByteArray} {sq : Int} (h : ∀ x ∈ l, sncellsFit x) (hx : l[k]? = some ⟨lg.data.toList, hd.data.toList, ⟨nm.data.toList, lv, tx.data.toList, sq⟩⟩) : lg.size ≤ maxTxt ∧ hd.size ≤ maxTxt ∧ nm.size ≤ maxTxt ∧ tx.size ≤ maxTxt := by
  have := h _ (List.mem_of_getElem? hx)
  simpa [sncellsFit, ← Lib.size_eq] using this

theorem sncells_one (l : List Snt) : ∀ u ∈ l.flatMap sncells, u.oneCell' = true := by
  intro u hu
  obtain ⟨x, _, hx⟩ := List.mem_flatMap.1 hu
  simp only [sncells, List.mem_cons, List.not_mem_nil, or_false] at hx
  rcases hx with rfl | rfl | rfl | rfl | rfl | rfl <;> rfl
def sncellsKinds : List Bool := [true, true, true, false, true, false]

end Go.Proofs.Ytmadcocbncmpoaa

/-
  RECORDS SENT: plain: what becomes of a record at its spots.
-/
namespace Go.Proofs.Ytmadcocbncmpoaa
open Go.RowKit Nm
set_option linter.unusedSimpArgs false
set_option linter.unusedVariables false

/-- what becomes of a record at a spot -/
structure Oc where
  lg : List UInt8
  hd : List UInt8
  kd : Int
  lv : Int
def occells (nm tx : List UInt8) (sq : Int) (o : Oc) : List Value := [txt o.lg, txt o.hd, .int .i64 o.kd, txt nm, .int .i64 o.lv, txt tx, .int .i64 sq]
theorem occells_len (nm tx : List UInt8) (sq : Int) (o : Oc) : (occells nm tx sq o).length = 7 := rfl
/-- a handler is asked: the kind of the reason, the level as it goes on -/
def askH (nm tx : List UInt8) (h : Hnd) (lv : Int) : Int × Int :=
  if lv < h.lv then (5, lv) else match filtL nm tx h.fs lv with
    | none => (6, lv)
    | some q => (0, q)
theorem askH_low {nm tx : List UInt8} {h : Hnd} {lv : Int} (hq : lv < h.lv) : askH nm tx h lv = (5, lv) := by unfold askH; rw [if_pos hq]
theorem askH_drop {nm tx : List UInt8} {h : Hnd} {lv : Int} (hq : ¬ lv < h.lv) (hf : filtL nm tx h.fs lv = none) : askH nm tx h lv = (6, lv) := by unfold askH; rw [if_neg hq, hf]
theorem askH_sent {nm tx : List UInt8} {h : Hnd} {lv q : Int} (hq : ¬ lv < h.lv) (hf : filtL nm tx h.fs lv = some q) : askH nm tx h lv = (0, q) := by unfold askH; rw [if_neg hq, hf]
def lastH : Hnd := ⟨lastL, 30, []⟩
def hOf (H : List Hnd) (x : List UInt8) : Hnd := (H.find? fun h => decide (h.nm = x)).getD lastH
def outs (H : List Hnd) (nm tx : List UInt8) : List Spt → Int → List Oc
  | [], _ => []
  | s :: ss, lv => ⟨s.lg, s.hd, (askH nm tx (hOf H s.hd) lv).1, (askH nm tx (hOf H s.hd) lv).2⟩ :: outs H nm tx ss (askH nm tx (hOf H s.hd) lv).2
def lvAfter (H : List Hnd) (nm tx : List UInt8) : List Spt → Int → Int
  | [], lv => lv
  | s :: ss, lv => lvAfter H nm tx ss (askH nm tx (hOf H s.hd) lv).2
section
variable {H : List Hnd} {nm tx : List UInt8}
theorem outs_app (a b : List Spt) (lv : Int) : outs H nm tx (a ++ b) lv = outs H nm tx a lv ++ outs H nm tx b (lvAfter H nm tx a lv) := by
  induction a generalizing lv with
  | nil => rfl
  | cons s a ih =>
    show _ :: outs H nm tx (a ++ b) _ = _ :: (outs H nm tx a _ ++ _)
    rw [ih]; rfl
theorem lvAfter_app (a b : List Spt) (lv : Int) : lvAfter H nm tx (a ++ b) lv = lvAfter H nm tx b (lvAfter H nm tx a lv) := by
  induction a generalizing lv with
  | nil => rfl
  | cons s a ih => exact ih _
theorem outs_len (a : List Spt) (lv : Int) : (outs H nm tx a lv).length = a.length := by
  induction a generalizing lv with
  | nil => rfl
  | cons s a ih => show (outs H nm tx a _).length + 1 = a.length + 1; rw [ih]
theorem outs_step {ss : List Spt} {k : Nat} {s : Spt} {lv q : Int} (hx : ss[k]? = some s) (hq : lvAfter H nm tx (ss.take k) lv = q) :
    outs H nm tx (ss.take (k + 1)) lv = outs H nm tx (ss.take k) lv ++ [⟨s.lg, s.hd, (askH nm tx (hOf H s.hd) q).1, (askH nm tx (hOf H s.hd) q).2⟩] ∧ lvAfter H nm tx (ss.take (k + 1)) lv = (askH nm tx (hOf H s.hd) q).2 := by
  rw [List.take_add_one, hx]
  show outs H nm tx (ss.take k ++ [s]) lv = _ ∧ lvAfter H nm tx (ss.take k ++ [s]) lv = _
  rw [outs_app, lvAfter_app, hq]
  exact ⟨rfl, rfl⟩
theorem askH_range {h : Hnd} {lv : Int} (hf : filtersOk h.fs = true) (h1 : 1 ≤ lv) (h2 : lv ≤ 60) : 1 ≤ (askH nm tx h lv).2 ∧ (askH nm tx h lv).2 ≤ 60 := by
  unfold askH
  split
  · exact ⟨h1, h2⟩
  · cases e : filtL nm tx h.fs lv with
    | none => exact ⟨h1, h2⟩
    | some q =>
      unfold filtersOk at hf
      rw [Bool.and_eq_true] at hf
      exact filtL_range hf.1 h1 h2 e
theorem askH_kind (h : Hnd) (lv : Int) : (askH nm tx h lv).1 = 5 ∨ (askH nm tx h lv).1 = 6 ∨ (askH nm tx h lv).1 = 0 := by
  unfold askH
  split
  · exact .inl rfl
  · cases e : filtL nm tx h.fs lv with
    | none => exact .inr (.inl rfl)
    | some q => exact .inr (.inr rfl)
theorem hOf_ok {L : List Lgr} {q : Int} (ht : treeOk L H q = true) (x : List UInt8) : filtersOk (hOf H x).fs = true := by
  unfold hOf
  cases e : H.find? fun h => decide (h.nm = x) with
  | none => rfl
  | some h =>
    have hm := List.mem_of_find?_eq_some e
    unfold treeOk hndsOk at ht
    simp only [Bool.and_eq_true, List.all_eq_true] at ht
    have := ht.2.1.1 h hm
    unfold hndOk at this
    simp only [Bool.and_eq_true] at this
    exact this.2.2.2
theorem hOf_name {x : List UInt8} {h : Hnd} (e : H.find? (fun h => decide (h.nm = x)) = some h) : hOf H x = h ∧ h.nm = x := by
  unfold hOf
  rw [e]
  exact ⟨rfl, by have := List.find?_some e; simpa using this⟩
end
theorem recOk_lv {nm tx : List UInt8} {lv q sq : Int} (h : recOk ⟨nm, lv, tx, sq⟩ = true) (h1 : 1 ≤ q) (h2 : q ≤ 60) : recOk ⟨nm, q, tx, sq⟩ = true := by
  unfold recOk at h ⊢
  simp only [Bool.and_eq_true, decide_eq_true_eq] at h ⊢
  exact ⟨h.1, h1, h2, h.2.2.2⟩
theorem recOk_rng {nm tx : List UInt8} {lv sq : Int} (h : recOk ⟨nm, lv, tx, sq⟩ = true) : 1 ≤ lv ∧ lv ≤ 60 ∧ nameOk nm = true := by
  unfold recOk at h; simp only [Bool.and_eq_true, decide_eq_true_eq] at h; exact ⟨h.2.1, h.2.2.1, h.1⟩
/-- the filters of the record's own logger -/
def ownF (L : List Lgr) (nm : List UInt8) : List Flt := if nm ∈ nsOf L then fsAt L (nearN (nsOf L) nm) else []
/-- the record's logger: the kind of the reason, the level as it goes on -/
def entX (L : List Lgr) (q : Int) (nm tx : List UInt8) (lv : Int) : Int × Int :=
  if offT L nm then (1, lv) else if lv ≤ q then (2, lv) else if lv < levelN (nsOf L) (lvAt L) nm then (3, lv) else match filtL nm tx (ownF L nm) lv with
    | none => (4, lv)
    | some v => (0, v)
def spX (L : List Lgr) (nm : List UInt8) : List Spt := if spotsI L (pathN (nsOf L) nm) = [] then [⟨[], lastL⟩] else spotsI L (pathN (nsOf L) nm)
def ocX (L : List Lgr) (H : List Hnd) (q : Int) (r : Rec) : List Oc :=
  if treeOk L H q && recOk r then
    (if (entX L q r.nm r.tx r.lv).1 = 0 then outs H r.nm r.tx (spX L r.nm) (entX L q r.nm r.tx r.lv).2 else [⟨[], [], (entX L q r.nm r.tx r.lv).1, (entX L q r.nm r.tx r.lv).2⟩])
  else []
def sent1 (nm tx : List UInt8) (sq : Int) (o : Oc) : Snt := ⟨o.lg, o.hd, ⟨nm, o.lv, tx, sq⟩⟩
def sentOf (nm tx : List UInt8) (sq : Int) (l : List Oc) : List Snt := (l.filter fun o => o.kd == 0).map (sent1 nm tx sq)
def whyOf (l : List Oc) : List Rsn := l.map fun o => ⟨o.kd, o.lg, o.hd⟩
def sendX (L : List Lgr) (H : List Hnd) (q : Int) (r : Rec) : List Snt := sentOf r.nm r.tx r.sq (ocX L H q r)
def whyX (L : List Lgr) (H : List Hnd) (q : Int) (r : Rec) : List Rsn := whyOf (ocX L H q r)
theorem sentOf_app (nm tx : List UInt8) (sq : Int) (a b : List Oc) : sentOf nm tx sq (a ++ b) = sentOf nm tx sq a ++ sentOf nm tx sq b := by simp [sentOf]
theorem whyOf_app (a b : List Oc) : whyOf (a ++ b) = whyOf a ++ whyOf b := by simp [whyOf]
theorem sentOf_len (nm tx : List UInt8) (sq : Int) (a : List Oc) : (sentOf nm tx sq a).length ≤ a.length := by
  unfold sentOf; rw [List.length_map]; exact List.length_filter_le _ _
theorem ent_range {L : List Lgr} {H : List Hnd} {q t : Int} {nm tx : List UInt8} {lv : Int} (ht : treeOk L H t = true) (h1 : 1 ≤ lv) (h2 : lv ≤ 60) : 1 ≤ (entX L q nm tx lv).2 ∧ (entX L q nm tx lv).2 ≤ 60 := by
  unfold entX
  split
  · exact ⟨h1, h2⟩
  split
  · exact ⟨h1, h2⟩
  split
  · exact ⟨h1, h2⟩
  cases e : filtL nm tx (ownF L nm) lv with
  | none => exact ⟨h1, h2⟩
  | some v =>
    refine filtL_range (?_ : (ownF L nm).all fltOk = true) h1 h2 e
    unfold ownF
    split
    · unfold fsAt
      by_cases hk : nearN (nsOf L) nm < L.length
      · have e2 : (L.map (·.fs)).getD (nearN (nsOf L) nm) [] = L[nearN (nsOf L) nm].fs := by simp [List.getD, hk]
        rw [e2]
        unfold treeOk lgrsOk at ht
        simp only [Bool.and_eq_true, List.all_eq_true] at ht
        have := ht.2.2.1 _ (List.getElem_mem hk)
        unfold lgrOk filtersOk at this
        simp only [Bool.and_eq_true] at this
        exact this.2.2.1.1
      · simp [List.getD, hk]
    · rfl
end Go.Proofs.Ytmadcocbncmpoaa
