/-
  FR0, GSpot, Spots, GReason, GRecord, GSent, SN0 laid together.
-/
import Derived.Test.YtlifaeleoiodkaaGreatDoorHelps
import Derived.Test.YtlifaeleoiodkaaGreatDoorLookS
/-
  FILTERS ASKED: plain: what becomes of a record's level behind filters.
-/
namespace Go.Proofs.YtlifaeleoiodkaaGreatDoor
open Go.RowKit Nm
set_option linter.unusedSimpArgs false
set_option linter.unusedVariables false

/-- a word is one of a text's -/
def hasW (tx wd : List UInt8) : Bool := decide (wd ∈ splitB 32 tx)
/-- one filter: the level behind it, if the record passes -/
def passF (nm tx : List UInt8) (f : Flt) (lv : Int) : Option Int :=
  if f.k = 0 then (if belowL nm f.nm then some lv else none)
  else if f.k = 1 then (if lv ≤ f.n then some lv else none)
  else if f.k = 2 then (if hasW tx f.nm then none else some lv)
  else if f.k = 3 then some (if lv < f.n then f.n else lv) else some lv
def filtL (nm tx : List UInt8) : List Flt → Int → Option Int
  | [], lv => some lv
  | f :: fs, lv => (passF nm tx f lv).bind (filtL nm tx fs)
theorem filtL_app (nm tx : List UInt8) (a b : List Flt) (lv : Int) : filtL nm tx (a ++ b) lv = (filtL nm tx a lv).bind (filtL nm tx b) := by
  induction a generalizing lv with
  | nil => rfl
  | cons f a ih =>
    show (passF nm tx f lv).bind (filtL nm tx (a ++ b)) = ((passF nm tx f lv).bind (filtL nm tx a)).bind _
    cases passF nm tx f lv with
    | none => rfl
    | some v => exact ih v
theorem filtL_step {nm tx : List UInt8} {fs : List Flt} {k : Nat} {f : Flt} {lv q : Int} (hx : fs[k]? = some f) (h : filtL nm tx (fs.take k) lv = some q) : filtL nm tx (fs.take (k + 1)) lv = passF nm tx f q := by
  rw [List.take_add_one, hx, filtL_app, h]
  show (passF nm tx f q).bind (filtL nm tx []) = _
  cases passF nm tx f q <;> rfl
theorem filtL_dead {nm tx : List UInt8} {fs : List Flt} {k : Nat} {lv : Int} (h : filtL nm tx (fs.take k) lv = none) : filtL nm tx fs lv = none := by
  conv => lhs; rw [← List.take_append_drop k fs]
  rw [filtL_app, h]; rfl
theorem passF_range {nm tx : List UInt8} {f : Flt} {lv q : Int} (hf : fltOk f = true) (h1 : 1 ≤ lv) (h2 : lv ≤ 60) (h : passF nm tx f lv = some q) : 1 ≤ q ∧ q ≤ 60 := by
  unfold passF at h
  split at h
  · split at h <;> (cases h; try exact ⟨h1, h2⟩)
  · split at h
    · split at h <;> (cases h; try exact ⟨h1, h2⟩)
    · split at h
      · split at h <;> (cases h; try exact ⟨h1, h2⟩)
      · split at h
        · rename_i a b c d
          cases h
          unfold fltOk at hf
          rw [if_neg a, if_neg c, if_pos (.inr d)] at hf
          simp only [Bool.and_eq_true, decide_eq_true_eq] at hf
          split <;> omega
        · cases h; exact ⟨h1, h2⟩
theorem filtL_range {nm tx : List UInt8} {fs : List Flt} {lv q : Int} (hf : fs.all fltOk = true) (h1 : 1 ≤ lv) (h2 : lv ≤ 60) (h : filtL nm tx fs lv = some q) : 1 ≤ q ∧ q ≤ 60 := by
  induction fs generalizing lv with
  | nil => cases h; exact ⟨h1, h2⟩
  | cons f fs ih =>
    rw [List.all_cons, Bool.and_eq_true] at hf
    unfold filtL at h
    cases e : passF nm tx f lv with
    | none => rw [e] at h; cases h
    | some v =>
      rw [e] at h
      obtain ⟨a, b⟩ := passF_range hf.1 h1 h2 e
      exact ih hf.2 a b h
/-- the record behind valid filters -/
def filtR (fs : List Flt) (r : Rec) : Option Rec := (filtL r.nm r.tx fs r.lv).map fun v => ⟨r.nm, v, r.tx, r.sq⟩
def filtX (fs : List Flt) (r : Rec) : Option Rec := if filtersOk fs && recOk r then filtR fs r else none
def recZ : Rec := ⟨[], 0, [], 0⟩
def recD (o : Option Rec) : Rec := o.getD recZ
end Go.Proofs.YtlifaeleoiodkaaGreatDoor

/-
  Spot: how slices of them lie in memory, and the walks of what the laws do with them (sized, copied, compared, marked, held). By gen_flat.py.
-/
namespace Go.Proofs.YtlifaeleoiodkaaGreatDoor
open Go.RowKit Nm
set_option linter.unusedSimpArgs false
set_option linter.unusedVariables false

structure Spt where
  lg : List UInt8
  hd : List UInt8
deriving DecidableEq
def spcells (x : Spt) : List Value := [txt x.lg, txt x.hd]
theorem spcells_len (x : Spt) : (spcells x).length = 2 := rfl
def spcellsFit (x : Spt) : Prop := x.lg.length ≤ maxTxt ∧ x.hd.length ≤ maxTxt
def Sps (w : World) (B n : Nat) (v : Value) (l : List Spt) : Prop := Sl w B 2 n v (l.flatMap spcells) ∧ ∀ x ∈ l, spcellsFit x
section
variable {w w' : World} {B B' n : Nat} {v : Value} {l : List Spt}
theorem Sps.below (h : Sps w B n v l) (hb : Below B' w w') (hB : B ≤ B') : Sps w' B n v l := ⟨h.1.below hb hB, h.2⟩
theorem Sps.more (h : Sps w B n v l) (hB : B ≤ B') : Sps w B' n v l := ⟨h.1.more hB, h.2⟩
theorem Sps.count (h : Sps w B n v l) : l.length = n := Sl.count spcells_len h.1 (by omega)
end
/-- element k: its cells -/
theorem spcells_at {w : World} {B n c : Nat} {A : Option Addr} {l : List Spt} (h : Sl w B 2 n (.slice A n c) (l.flatMap spcells)) {k : Nat} (hk : k < n) :
    ∃ (b o : Nat) (lg : ByteArray) (hd : ByteArray), A = some ⟨b, o, none⟩ ∧ b < B ∧ l[k]? = some ⟨lg.data.toList, hd.data.toList⟩ ∧ w.cell? ⟨b, o + k * 2, none⟩ = some (.string lg) ∧ w.cell? ⟨b, o + k * 2 + 1, none⟩ = some (.string hd) := by
  obtain ⟨b, o, x, e, hb, hx, hc⟩ := Sl.elem spcells_len h (by omega) hk
  obtain ⟨lg, hd⟩ := x
  exact ⟨b, o, ⟨lg.toArray⟩, ⟨hd.toArray⟩, e, hb, by simpa using hx, hc 0 _ rfl, hc 1 _ rfl⟩
theorem spcells_fit {l : List Spt} {k : Nat} {lg : ByteArray} {hd : ByteArray} (h : ∀ x ∈ l, spcellsFit x) (hx : l[k]? = some ⟨lg.data.toList, hd.data.toList⟩) : lg.size ≤ maxTxt ∧ hd.size ≤ maxTxt := by
  have := h _ (List.mem_of_getElem? hx)
  simpa [spcellsFit, ← Lib.size_eq] using this

theorem Tryz.infoSpot : (Tryz.prog.info? 128).map (fun i => (i.zero, i.size, i.bytes)) = some (some (.agg #[.string ByteArray.empty, .string ByteArray.empty]), 2, 32) := by kernel_rfl

/-- append of one Spot -/
theorem appSpot (w : World) {ops : Array Oper} {rest : List Oper} {o : Oper} {a : Act} {Q : Exit → Act → World → Prop} (hg : o.guard = none) (s x : Operand)
    (ho : o.op = .call { callee := .builtin .append, args := #[s, x], argTypes := #[122, 122] }) (base : Nat) (v : Value) (l : List Spt) (hs : a.eval s = v)
    (hown : w.ownsRow base 128 2 v l.length (l.flatMap spcells)) (lg : ByteArray) (hd : ByteArray) (b0 c : Nat) (te : TypeId) (hx : a.eval x = .slice (some ⟨b0, 0, none⟩) 1 c) (hb0 : b0 = w.heap.size) (hl : l.length ≤ 1048576) (hbase : base ≤ w.heap.size)
    (h : ∀ v' w', w'.ownsRow base 128 2 v' (l ++ [(⟨lg.data.toList, hd.data.toList⟩ : Spt)]).length ((l ++ [(⟨lg.data.toList, hd.data.toList⟩ : Spt)]).flatMap spcells) → Below base w w' → wpList Tryz.prog ops Q rest (a.put o.dst v') w') :
    wpList Tryz.prog ops Q (o :: rest) a (w.alloc (.cells #[.string lg, .string hd] te)) := by
  subst hb0
  obtain ⟨i0, hi, hz0, hz1, hz2⟩ := info_parts Tryz.infoSpot
  refine wpList_app1 w hg s x 122 ho base 128 i0 _ 2 32 Tryz.underlying122 hi hz0 hz1 hz2 rfl (by decide) v l.length _ hs hown [.string lg, .string hd] c te hx rfl (List.all_eq_true.1 rfl) (by unfold maxLen; omega) (by omega) hbase fun v' w' h1 h2 => h v' w' ?_ h2
  simpa [spcells, txt_data] using h1

theorem spcells_one (l : List Spt) : ∀ u ∈ l.flatMap spcells, u.oneCell' = true := by
  intro u hu
  obtain ⟨x, _, hx⟩ := List.mem_flatMap.1 hu
  simp only [spcells, List.mem_cons, List.not_mem_nil, or_false] at hx
  rcases hx with rfl | rfl <;> rfl
/-- append of a slice -/
theorem appSpotS (w : World) {ops : Array Oper} {rest : List Oper} {o : Oper} {a : Act} {Q : Exit → Act → World → Prop} (hg : o.guard = none) (s x : Operand)
    (ho : o.op = .call { callee := .builtin .append, args := #[s, x], argTypes := #[122, 122] }) (base : Nat) (v : Value) (l l2 : List Spt) (hs : a.eval s = v)
    (hown : w.ownsRow base 128 2 v l.length (l.flatMap spcells)) (B : Nat) (src : Value) (hx : a.eval x = src) (hsl : Sl w B 2 l2.length src (l2.flatMap spcells)) (hl : l.length + l2.length ≤ 4194304) (hbase : base ≤ w.heap.size)
    (h : ∀ v' w', w'.ownsRow base 128 2 v' (l ++ l2).length ((l ++ l2).flatMap spcells) → Below base w w' → wpList Tryz.prog ops Q rest (a.put o.dst v') w') :
    wpList Tryz.prog ops Q (o :: rest) a w := by
  obtain ⟨i0, hi, hz0, hz1, hz2⟩ := info_parts Tryz.infoSpot
  refine wpList_appSl w hg s x 122 ho base 128 i0 _ 2 32 Tryz.underlying122 hi hz0 hz1 hz2 rfl (by decide) v l.length _ hs hown B l2.length src _ hx hsl (spcells_one l2) (by unfold maxLen; omega) (by omega) hbase fun v' w' h1 h2 => h v' w' ?_ h2
  simpa using h1

def spcellsKinds : List Bool := [true, true]

end Go.Proofs.YtlifaeleoiodkaaGreatDoor

/-
  U3, U4, U5, U6 laid together.
-/
namespace Go.Proofs.YtlifaeleoiodkaaGreatDoor
open Go.RowKit Nm
set_option linter.unusedSimpArgs false
set_option linter.unusedVariables false

theorem nodup_len {α : Type} [DecidableEq α] : ∀ (a b : List α), a.Nodup → (∀ x ∈ a, x ∈ b) → a.length ≤ b.length := by
  intro a
  induction a with
  | nil => intro b _ _; simp
  | cons x a ih =>
    intro b hn hs
    rw [List.nodup_cons] at hn
    have hx : x ∈ b := hs x (List.mem_cons_self ..)
    have h1 := ih (b.erase x) hn.2 (fun y hy => (List.mem_erase_of_ne (fun e => hn.1 (by rw [← e]; exact hy))).2 (hs y (List.mem_cons_of_mem _ hy)))
    rw [List.length_erase_of_mem hx] at h1
    have : 0 < b.length := List.length_pos_of_mem hx
    rw [List.length_cons]; omega
theorem lgr_hs_len {L : List Lgr} {H : List Hnd} {q : Int} (h : treeOk L H q = true) {l : Lgr} (hl : l ∈ L) : l.hs.length ≤ 6 := by
  unfold treeOk hndsOk lgrsOk at h
  simp only [Bool.and_eq_true, decide_eq_true_eq, List.all_eq_true] at h
  have h1 := h.2.2.1 l hl
  unfold lgrOk at h1
  simp only [Bool.and_eq_true, decide_eq_true_eq, List.all_eq_true] at h1
  have h2 := nodup_len l.hs (H.map (·.nm)) h1.2.2.2.2 (fun x hx => by
    have h3 := h1.2.2.2.1 x hx
    unfold hasL at h3
    obtain ⟨y, hy, e⟩ := List.any_eq_true.1 h3
    exact List.mem_map.2 ⟨y, hy, of_decide_eq_true e⟩)
  rw [List.length_map] at h2
  have := h.2.1.2.2
  omega
theorem hsAt_len {L : List Lgr} {H : List Hnd} {q : Int} (h : treeOk L H q = true) (i : Nat) : (hsAt L i).length ≤ 6 := by
  unfold hsAt
  by_cases hi : i < L.length
  · have e : (L.map (·.hs)).getD i [] = L[i].hs := by simp [List.getD, hi]
    rw [e]; exact lgr_hs_len h (List.getElem_mem hi)
  · have e : (L.map (·.hs)).getD i [] = [] := by simp [List.getD, Nat.le_of_not_lt hi]
    rw [e]; simp
/-- the spots of logger i alone: the first m -/
def ownK (L : List Lgr) (i m : Nat) : List Spt := ((hsAt L i).take m).map fun h => ⟨(nsOf L).getD i [], h⟩
def ownS (L : List Lgr) (i : Nat) : List Spt := (hsAt L i).map fun h => ⟨(nsOf L).getD i [], h⟩
theorem ownK_zero (L : List Lgr) (i : Nat) : ownK L i 0 = [] := rfl
theorem ownK_step {L : List Lgr} {i m : Nat} {x : Name} (h : (hsAt L i)[m]? = some x) : ownK L i (m + 1) = ownK L i m ++ [⟨(nsOf L).getD i [], x⟩] := by
  unfold ownK; rw [List.take_add_one, h, List.map_append]; rfl
theorem ownK_all {L : List Lgr} {i m : Nat} (h : (hsAt L i).length ≤ m) : ownK L i m = ownS L i := by unfold ownK ownS; rw [List.take_of_length_le h]
theorem ownK_len (L : List Lgr) (i m : Nat) : (ownK L i m).length ≤ m := by unfold ownK; rw [List.length_map, List.length_take]; omega
/-- the spots of the loggers of a path, up to one with Stop -/
def spotsI (L : List Lgr) : List Nat → List Spt
  | [] => []
  | i :: r => ownS L i ++ (if stopAt L i then [] else spotsI L r)
theorem spotsI_len {L : List Lgr} (h : ∀ i, (hsAt L i).length ≤ 6) (pl : List Nat) : (spotsI L pl).length ≤ 6 * pl.length := by
  induction pl with
  | nil => simp [spotsI]
  | cons i r ih =>
    unfold spotsI ownS
    rw [List.length_append, List.length_map, List.length_cons]
    have := h i
    split
    · simp; omega
    · omega
def spotsT (L : List Lgr) (H : List Hnd) (q : Int) (x : Name) : List Spt := if treeOk L H q && nameOk x then spotsI L (pathN (nsOf L) x) else []
theorem spotsT_len (L : List Lgr) (H : List Hnd) (q : Int) (x : Name) : (spotsT L H q x).length ≤ 30 := by
  unfold spotsT
  split
  · rename_i h
    simp only [Bool.and_eq_true] at h
    have h1 := spotsI_len (hsAt_len h.1) (pathN (nsOf L) x)
    have h2 : (pathN (nsOf L) x).length ≤ 5 := pathF_len _ _ _
    omega
  · simp
/-- what is left of the spots at a node -/
def spotsR (L : List Lgr) (f : Nat) : Option Nat → List Spt
  | none => []
  | some k => spotsI L (pathF (nsOf L) f k)
theorem spotsR_len {L : List Lgr} (h : ∀ i, (hsAt L i).length ≤ 6) (f k : Nat) : (spotsI L (pathF (nsOf L) 4 k)).length ≤ 30 := by
  have h1 := spotsI_len h (pathF (nsOf L) 4 k)
  have h2 : (pathF (nsOf L) 4 k).length ≤ 5 := pathF_len _ _ _
  omega
end Go.Proofs.YtlifaeleoiodkaaGreatDoor

/-
  SPOTS: the program's SpotsOf; an append of a spot as a run.
-/
namespace Go.Proofs.YtlifaeleoiodkaaGreatDoor
open Go.RowKit Nm
set_option linter.unusedSimpArgs false
set_option linter.unusedVariables false

/-- append of one spot as a run, in a region that has drawn its order -/
theorem runSpot (w : World) (base : Nat) (v : Value) (l : List Spt) (hown : w.ownsRow base 128 2 v l.length (l.flatMap spcells)) (lg hd : ByteArray) (hl : l.length ≤ 1048576) (hbase : base ≤ w.heap.size) :
    ∃ v' w', (Builtin.append_ #[122, 122] 122 #[v, .slice (some ⟨w.heap.size, 0, none⟩) 1 1]).run Tryz.prog (w.alloc (.cells #[.string lg, .string hd] 128)).drew = .ok v' w' ∧ w'.ownsRow base 128 2 v' (l ++ [(⟨lg.data.toList, hd.data.toList⟩ : Spt)]).length ((l ++ [(⟨lg.data.toList, hd.data.toList⟩ : Spt)]).flatMap spcells) ∧ w.grownBy w' v.ownBlock ∧ (v'.ownBlock = v.ownBlock ∨ v'.ownBlock = some (w.heap.size + 1)) := by
  obtain ⟨i0, hi, hz0, hz1, hz2⟩ := info_parts Tryz.infoSpot
  obtain ⟨v', w', h1, h2, h3, h4⟩ := run_app1D (P := Tryz.prog) w 122 base 128 i0 _ 2 32 Tryz.underlying122 hi hz0 hz1 hz2 rfl (by decide) v l.length _ hown [.string lg, .string hd] 128 rfl (List.all_eq_true.1 rfl) (by unfold maxLen; omega) (by omega) hbase
  exact ⟨v', w', h1, by simpa [spcells, txt_data] using h2, h3, h4⟩

set_option maxHeartbeats 4000000 in
set_option maxRecDepth 100000 in
theorem implSpotsOf_c {w : World} {B : Nat} {v : Value} {L : List Lgr} {H : List Hnd} {q : Int} (x : ByteArray) (h : TreeIn w B v L H q) (hB : B ≤ w.heap.size) (hx : x.size ≤ maxLen) :
    Calls Tryz.prog 126 #[v, .string x] w (RowPost w 128 2 (spotsT L H q x.data.toList).length ((spotsT L H q x.data.toList).flatMap spcells)) := by
  cases hz : (treeOk L H q && nameOk x.data.toList) with
  | false =>
    have C := hid (fun (W : World) (hW : Below w.heap.size w W) => implNode_no x (h.below hW hB) (Nat.le_trans hB hW.size) hx hz)
    have HE := hid (show spotsT L H q x.data.toList = [] by unfold spotsT; rw [hz]; rfl)
    obtain ⟨A1, n1, k1, A2, n2, k2, rfl⟩ := h.form
    clear h hz
    go_enter Tryz.func126, Tryz.ntmps126
    go_wp2_with fail
    refine (C.out _ ?_).mono ?_
    case refine_1 => go_grown
    rintro e w1 ⟨rfl, hb1⟩
    have HB1 := hid (Below.trans (by go_grown) (hb1.mono (by simp; try omega)) : Below w.heap.size w w1)
    clear hb1
    go_wp2_with fail
    go_loopw [5, 6] (fun sv nv wr => sv = .slice none 0 0 ∧ nv = .pointer none ∧ wr = w1) (fun _ _ _ => 0)
    case atStart => exact ⟨rfl, rfl, rfl⟩
    case round =>
      obtain ⟨rfl, rfl, rfl⟩ := hrel
      go_wp2_with fail
      go_ret
      exact ⟨_, rfl, by rw [HE.out]; exact World.ownsRow_nil _ _ _ _, HB1.out⟩
  | true =>
    have hz' := hz
    simp only [Bool.and_eq_true] at hz'
    obtain ⟨b, o, n1, k1, A2, n2, k2, ls, rfl, hl, hL, hN, hn, hn8, hn1, hbB⟩ := h.opened hz'.1
    have C := hid (fun (W : World) (hW : Below w.heap.size w W) => implNode_yes x (h.below hW hB) (hl.below hW hB) hn8 hN (Nat.le_trans hB hW.size) hz'.2 hz'.1)
    obtain ⟨h0, hnd, hnm, _⟩ := tree_ns hz'.1
    have HE := hid (show spotsT L H q x.data.toList = spotsR L 4 (some (nearN (nsOf L) x.data.toList)) by unfold spotsT; rw [hz]; rfl)
    have hlen : (nsOf L).length = n1 := by unfold nsOf; rw [List.length_map, hn]
    have HH := hid (hsAt_len hz'.1)
    have HV := hid (And.intro hl (And.intro hL (And.intro hlen (And.intro h0 (And.intro hnm hbB)))))
    have hlt : nearN (nsOf L) x.data.toList < n1 := by rw [← hlen]; exact near_lt h0 _
    clear h hz hz' hl hN h0 hnd hnm hn hlen hL
    generalize hk : nearN (nsOf L) x.data.toList = k0 at *
    clear hk
    have hle30 := spotsR_len HH.out 4 k0
    have H30 := hid hle30
    clear hle30
    go_enter Tryz.func126, Tryz.ntmps126
    go_wp2_with fail
    refine (C.out _ ?_).mono ?_
    case refine_1 => go_grown
    rintro e w1 ⟨nb, rfl, hNd, hb1⟩
    have HB1 := hid (Below.trans (by go_grown) (hb1.mono (by simp; try omega)) : Below w.heap.size w w1)
    have HNd := hid hNd
    clear hb1 hNd
    go_wp2_with fail
    go_loopg [5, 6] 5 (fun g sv nv wr => ∃ (ov : Option Nat) (f : Nat) (pre : List Spt), nv = nodePtr nb ov ∧ (ov = none ∨ f + 1 = g) ∧ Hid (∀ k, ov = some k → k < n1 ∧ depthN (nsOf L) k ≤ f) ∧ wr.ownsRow w1.heap.size 128 2 sv pre.length (pre.flatMap spcells) ∧ Hid (pre ++ spotsR L f ov = spotsR L 4 (some k0)) ∧ Hid (Below w1.heap.size w1 wr))
    case atStart => exact ⟨some k0, 4, [], rfl, .inr rfl, fun k hk => by cases hk; exact ⟨hlt, depth_le HV.out.2.2.2.2.1 _⟩, World.ownsRow_nil _ _ _ _, rfl, Below.refl _ _⟩
    case round =>
      obtain ⟨ov, f, pre, rfl, hg, HK, hown, HE2, HBx⟩ := hrel
      obtain ⟨Ax, cx, rfl, _, _⟩ := (Sl.of_own hown).form
      have HO := hid hown
      clear hown
      cases ov with
      | none =>
        have HF := hid (show spotsT L H q x.data.toList = pre by rw [HE.out, ← HE2.out]; simp [spotsR])
        simp only [nodePtr, Option.map_none]
        go_wp2_with fail
        go_ret
        exact ⟨_, rfl, by rw [HF.out]; exact own_base HO.out HB1.out.size, HB1.out.trans (HBx.out.mono HB1.out.size)⟩
      | some k =>
        rcases hg with hg | hg
        · cases hg
        subst hg
        have HW := hid (HB1.out.trans (HBx.out.mono HB1.out.size))
        obtain ⟨hk, hd⟩ := HK.out k rfl
        have hbw : b < w.heap.size := by have := HV.out.2.2.2.2.2; omega
        obtain ⟨p, A3, hn', k3, A4, fn, k4, hp, hps, ht, _, g0, _, g2, _, g4, _⟩ := logger_at HV.out.1 HV.out.2.1 hk
        obtain ⟨m0, m1, m2, mlt⟩ := node_at HNd.out (k := k) (by rw [HV.out.2.2.1]; exact hk)
        have n0 := (HBx.out.cell (p := ⟨nb k, 0, none⟩) mlt).trans m0
        have c2 := (HW.out.cell (p := ⟨b, o + k * 6 + 2, none⟩) hbw).trans g2
        have HM := hid (And.intro m0 (And.intro m1 (And.intro m2 mlt)))
        have htl := ht.count
        have hcap := ht.1.cap
        unfold maxLen at hcap
        have hpl : pre.length ≤ 30 := by
          have e1 := congrArg List.length HE2.out
          rw [List.length_append] at e1
          have := H30.out
          simp only [spotsR] at e1
          omega
        have hn6 : hn' ≤ 6 := by have := HH.out k; omega
        have HP := hid (And.intro hp hps)
        have HD := hid hd
        have HT := hid (And.intro ht htl)
        have HC := hid (And.intro g0 (And.intro g2 g4))
        have hszz : w.heap.size ≤ w1.heap.size := HB1.out.size
        have HPl := hid hpl
        clear m0 m1 m2 mlt hp hps hd ht htl g0 g2 g4 hpl
        simp only [nodePtr, Option.map_some]
        obtain ⟨wo, hwo⟩ : ∃ wo, wo = wr := ⟨_, rfl⟩
        subst hwo
        go_wp2_with fail
        go_loopw [5, 26] (fun sv jv wr => ∃ (j : Nat) (cur : List Spt), jv = .int .i64 j ∧ j ≤ hn' ∧ Hid (cur = pre ++ ownK L k j) ∧ wr.ownsRow w1.heap.size 128 2 sv cur.length (cur.flatMap spcells) ∧ Hid (Below w1.heap.size w1 wr)) (fun _ jv _ => hn' - (intOf jv).toNat)
        case atStart => exact ⟨0, pre, rfl, by omega, (show _ = _ by rw [ownK_zero, List.append_nil]), HO.out, HBx.out⟩
        case round =>
          obtain ⟨j, cur, rfl, hj, HCu, hown, HBs⟩ := hrel
          obtain ⟨Ay, cy, rfl, _, _⟩ := (Sl.of_own hown).form
          have HOj := hid hown
          have HWj := hid (HB1.out.trans (HBs.out.mono HB1.out.size))
          have n0' := (HBs.out.cell (p := ⟨nb k, 0, none⟩) HM.out.2.2.2).trans HM.out.1
          have e4 := (HWj.out.cell (p := ⟨b, o + k * 6 + 4, none⟩) hbw).trans HC.out.2.2
          clear hown n0 c2
          by_cases hjn : j < hn'
          · obtain ⟨bt, ot, s, rfl, hbt, hxs, hss, gt⟩ := HT.out.1.text hjn
            have hbtw : bt < w.heap.size := by omega
            have et := (HWj.out.cell (p := ⟨bt, ot + j, none⟩) hbtw).trans gt
            have e0 := (HWj.out.cell (p := ⟨b, o + k * 6, none⟩) hbw).trans HC.out.1
            have hlj : cur.length ≤ 1048576 := by
              rw [HCu.out, List.length_append]
              have := ownK_len L k j
              have := HPl.out
              omega
            have HX := hid hxs
            clear hxs hss gt e4
            go_wp2_with (at_builtin; refine appSpot _ rfl (.tmp 30) (.tmp 40) rfl w1.heap.size _ cur (by rfl) HOj.out p s _ _ _ (by rfl) (by simp) hlj HBs.out.size ?_)
            intro v' w2 ho2 hb2
            have HO2 := hid ho2
            have HB2 := hid (HBs.out.trans hb2)
            clear ho2 hb2
            go_wp2_with fail
            go_roundw
            case rel =>
              refine ⟨j + 1, cur ++ [⟨p.data.toList, s.data.toList⟩], by go_num, by omega, ?_, by simpa using HO2.out, HB2.out⟩
              show _ = _
              rw [ownK_step HX.out, ← List.append_assoc, ← HP.out.1, HCu.out]
            case measure => simp [intOf]; omega
          · obtain rfl : j = hn' := by omega
            have hoK : ownK L k j = ownS L k := ownK_all (by have := HT.out.2; omega)
            have HCL := hid (show cur = pre ++ ownS L k by rw [HCu.out, hoK])
            clear hoK
            cases hst : stopAt L k with
            | true =>
              rw [hst] at e4
              have HF := hid (show spotsT L H q x.data.toList = cur by
                rw [HCL.out, HE.out, ← HE2.out, spotsR]
                cases f <;> simp only [pathF] <;> (try split) <;> simp [spotsI, hst])
              go_wp2_with fail
              go_ret
              exact ⟨_, rfl, by rw [HF.out]; exact own_base HOj.out HB1.out.size, HWj.out⟩
            | false =>
              rw [hst] at e4
              by_cases h0 : (nsOf L).getD k [] = []
              · have n1' := (HBs.out.cell (p := ⟨nb k, 1, none⟩) HM.out.2.2.2).trans (HM.out.2.1 h0)
                have HR := hid (pathF_root (f := f) h0)
                have HS := hid hst
                clear h0 hst
                go_wp2_with fail
                go_roundg f
                case measure => omega
                case rel =>
                  refine ⟨none, 0, cur, rfl, .inl rfl, fun _ h => by (cases h), HOj.out, ?_, HBs.out⟩
                  show _ = _
                  rw [← HE2.out, HCL.out, spotsR, spotsR, HR.out]; simp [spotsI, HS.out]
              · have n1' := (HBs.out.cell (p := ⟨nb k, 1, none⟩) HM.out.2.2.2).trans (HM.out.2.2.1 h0)
                obtain ⟨g, rfl, hpf⟩ := pathF_up (ns := nsOf L) (f := f) (k := k) h0 HD.out
                have HF := hid hpf
                have HU := hid (show upN (nsOf L) k < n1 ∧ depthN (nsOf L) (upN (nsOf L) k) ≤ g by
                  refine ⟨by rw [← HV.out.2.2.1]; exact near_lt HV.out.2.2.2.1 _, ?_⟩
                  have := depth_up HV.out.2.2.2.1 HV.out.2.2.2.2.1 (k := k) (by rw [HV.out.2.2.1]; exact hk) h0
                  have := HD.out
                  omega)
                have HS := hid hst
                clear h0 hpf hst
                go_wp2_with fail
                go_roundg (g + 1)
                case measure => omega
                case rel =>
                  refine ⟨some (upN (nsOf L) k), g, cur, rfl, .inr rfl, fun k' hk' => by cases hk'; exact HU.out, HOj.out, ?_, HBs.out⟩
                  show _ = _
                  rw [← HE2.out, HCL.out, spotsR, spotsR, HF.out]; simp [spotsI, HS.out]
end Go.Proofs.YtlifaeleoiodkaaGreatDoor

/-
  SPOTS: the model's.
-/
namespace Go.Proofs.YtlifaeleoiodkaaGreatDoor
open Go.RowKit Nm
set_option linter.unusedSimpArgs false
set_option linter.unusedVariables false

theorem spotsI_at {L : List Lgr} {pl : List Nat} {k i : Nat} (h : pl[k]? = some i) : spotsI L (pl.drop k) = ownS L i ++ (if stopAt L i then [] else spotsI L (pl.drop (k + 1))) := by
  obtain ⟨hk, rfl⟩ := List.getElem?_eq_some_iff.1 h
  rw [List.drop_eq_getElem_cons hk, spotsI]
theorem spotsI_end {L : List Lgr} {pl : List Nat} {k : Nat} (h : pl.length ≤ k) : spotsI L (pl.drop k) = [] := by
  rw [List.drop_eq_nil_of_le h, spotsI]

set_option maxHeartbeats 8000000 in
set_option maxRecDepth 100000 in
theorem specSpots_c {w : World} {B b o n1 k1 n2 k2 : Nat} {A2 : Option Addr} {L : List Lgr} {ls : List LgrV} (H : List Hnd) (q : Int) (x : ByteArray) (hl : Ls w B n1 (.slice (some ⟨b, o, none⟩) n1 k1) ls) (hL : lsOf ls = L) (hN : lnames ls = nsOf L) (hn : n1 = L.length) (hB : B ≤ w.heap.size) (hbB : b < B)
    (hok : treeOk L H q = true) (hx : x.size ≤ maxTxt) :
    Calls Tryz.prog 76 #[.agg #[.slice (some ⟨b, o, none⟩) n1 k1, .slice A2 n2 k2, .int .i64 q], .string x] w (RowPost w 128 2 (spotsI L (pathN (nsOf L) x.data.toList)).length ((spotsI L (pathN (nsOf L) x.data.toList)).flatMap spcells)) := by
  unfold maxTxt at hx
  obtain ⟨h0, hnd, hnm, hlen, _⟩ := tree_ns hok
  rw [← hn] at hlen
  obtain ⟨_, _, _, h8, _, _⟩ := tree_names hok
  have hn8 : n1 ≤ 8 := by omega
  have CP := hid (fun (W : World) (hW : Below w.heap.size w W) => specPath_c (some ⟨b, o, none⟩) A2 n1 k1 n2 k2 B q ls x W (hl.below hW hB) (Nat.le_trans hB hW.size) (by omega) (by unfold maxLen; omega) (by rw [hN]; exact h0) (by rw [hN]; exact hnm))
  rw [hN] at CP
  have HPL := hid (show (pathN (nsOf L) x.data.toList).length ≤ 5 ∧ ∀ i ∈ pathN (nsOf L) x.data.toList, i < n1 from ⟨pathF_len _ _ _, by rw [← hlen]; exact pathF_lt h0 _ _ (near_lt h0 _)⟩)
  have hcap := hl.1.cap
  unfold maxLen at hcap
  have HH := hid (hsAt_len hok)
  have HV := hid (And.intro hl (And.intro hL hbB))
  clear hok hl hL hN h0 hnd hnm hlen hn h8
  generalize hk : pathN (nsOf L) x.data.toList = pl at *
  clear hk
  have H30 := hid (spotsI_len HH.out pl)
  obtain ⟨w2, hw2⟩ : ∃ w2, w2 = w.alloc (.cells #[.slice (some ⟨b, o, none⟩) n1 k1, .slice A2 n2 k2, .int .i64 q] 36) := ⟨_, rfl⟩
  have hs2 : w2.heap.size = w.heap.size + 1 := by rw [hw2]; simp
  have HB2 := hid (show Below w.heap.size w w2 by rw [hw2]; exact (Below.refl _ _).alloc (Nat.le_refl _) _)
  have HK2 := hid (show Blk w2 w.heap.size [.slice (some ⟨b, o, none⟩) n1 k1, .slice A2 n2 k2, .int .i64 q] by rw [hw2]; exact Blk.new w _ _)
  have HW2 := hid hw2
  have HS2 := hid hs2
  clear hw2 hs2
  go_enter Tryz.func76, Tryz.ntmps76
  go_wp2_with fail
  refine (CP.out _ ?_).mono ?_
  case refine_1 => go_grown
  rintro e w3 ⟨vi, rfl, hoi, hb3⟩
  rw [← HW2.out] at hoi hb3
  have hs2 := HS2.out
  have hw2 : w.heap.size < w2.heap.size := by omega
  obtain ⟨Ai, ci, rfl, hic, hicm⟩ := (Sl.of_own hoi).form
  unfold maxLen at hicm
  have hz3 : (w2.alloc (.cells #[] 128)).heap.size = w2.heap.size + 1 := by simp
  have H0 := hid (show w3.ownsRow w2.heap.size 128 2 (.slice (some ⟨w2.heap.size, 0, none⟩) 0 0) 0 [] from own_below (World.ownsRow_lit w2 #[] 0 (Nat.le_refl _) (by unfold maxLen; omega) rfl) hb3)
  rw [hz3] at hoi
  have HOi := hid hoi
  have HA := hid (show ∀ g, (Value.slice (some ⟨w2.heap.size, 0, none⟩) 0 0).ownBlock = some g → (Value.slice Ai pl.length ci).ownBlock ≠ some g from by
    intro g hg e
    have h1 := (hoi.lt g e).1
    simp [Value.ownBlock] at hg h1
    omega)
  have HB3 := hid (Below.trans ((Below.refl w2.heap.size w2).alloc (Nat.le_refl _) _) (hb3.mono (by simp)) : Below w2.heap.size w2 w3)
  rw [hs2] at H0 HA
  have hw23 : w2.heap.size ≤ w3.heap.size := HB3.out.size
  clear hoi hb3 hz3
  go_wp2_with fail
  go_loopw [5, 7] (fun sv iv wr => ∃ (k : Nat) (pre : List Spt), iv = .int .i64 k ∧ k ≤ pl.length ∧ Hid (pre ++ spotsI L (pl.drop k) = spotsI L pl) ∧ wr.ownsRow (w.heap.size + 1) 128 2 sv pre.length (pre.flatMap spcells) ∧ Hid (wr.ownsRow (w2.heap.size + 1) 3 1 (.slice Ai pl.length ci) pl.length (pl.map icell)) ∧ Hid (∀ g, sv.ownBlock = some g → (Value.slice Ai pl.length ci).ownBlock ≠ some g) ∧ Hid (Below w2.heap.size w2 wr)) (fun _ iv _ => pl.length - (intOf iv).toNat)
  case atStart => exact ⟨0, [], rfl, by omega, rfl, H0.out, (show w3.ownsRow _ _ _ _ _ _ by simpa using HOi.out), HA.out, HB3.out⟩
  case round =>
    obtain ⟨k, pre, rfl, hk, HE2, hown, HI, HAp, HBx⟩ := hrel
    obtain ⟨Ax, cx, rfl, _, _⟩ := (Sl.of_own hown).form
    have HO := hid hown
    clear hown
    have HW := hid (HB2.out.trans (HBx.out.mono HB2.out.size))
    have hpl5 := HPL.out.1
    by_cases hlt : k < pl.length
    · obtain ⟨bi, oi, i, rfl, hbi, hxi, ic⟩ := ints_at (Sl.of_own HI.out) hlt
      have hi1 : i < n1 := HPL.out.2 i (List.mem_of_getElem? hxi)
      have HXI := hid (spotsI_at (L := L) hxi)
      have hbw : b < w.heap.size := by have := HV.out.2.2; omega
      obtain ⟨p, A3, hn', k3, A4, fn, k4, hp, hps, ht, _, g0, g1, g2, g3, g4, g5⟩ := logger_at HV.out.1 HV.out.2.1 hi1
      have hcap3 := ht.1.cap
      unfold maxLen at hcap3
      have htl := ht.count
      have hn6 : hn' ≤ 6 := by have := HH.out i; omega
      have HP := hid (And.intro hp hps)
      have HT := hid (And.intro ht htl)
      have d0 := ((HK2.out.below HBx.out hw2).2 0 _ rfl).1
      have c0 := (HW.out.cell (p := ⟨b, o + i * 6, none⟩) hbw).trans g0
      have c1 := (HW.out.cell (p := ⟨b, o + i * 6 + 1, none⟩) hbw).trans g1
      have c2 := (HW.out.cell (p := ⟨b, o + i * 6 + 2, none⟩) hbw).trans g2
      have c3 := (HW.out.cell (p := ⟨b, o + i * 6 + 3, none⟩) hbw).trans g3
      have c4 := (HW.out.cell (p := ⟨b, o + i * 6 + 4, none⟩) hbw).trans g4
      have c5 := (HW.out.cell (p := ⟨b, o + i * 6 + 5, none⟩) hbw).trans g5
      have hpl : pre.length ≤ 30 := by
        have e1 := congrArg List.length HE2.out
        rw [List.length_append] at e1
        have := H30.out
        omega
      have HPl := hid hpl
      have s0 : (0 : Int) ≤ (k : Int) := by omega
      have s1 : (k : Int) < (pl.length : Int) := by omega
      have s2 : ((k : Int)).toNat = k := by simp
      have t0 : (0 : Int) ≤ (i : Int) := by omega
      have t1 : (i : Int) < (n1 : Int) := by omega
      have t2 : ((i : Int)).toNat = i := by simp
      have hwr : w.heap.size < wr.heap.size := by have := HBx.out.size; omega
      have hbr : b < wr.heap.size := by omega
      clear hp hps hxi g0 g1 g2 g3 g4 g5 ht htl hpl
      go_wp2_with fail
      go_region_held3 (fun w' => w'.cell? ⟨w.heap.size, 0, none⟩ = some (.slice (some ⟨b, o, none⟩) n1 k1) ∧ w'.cell? ⟨bi, oi + k, none⟩ = some (.int .i64 i) ∧ w'.cell? ⟨b, o + i * 6, none⟩ = some (.string p) ∧ w'.cell? ⟨b, o + i * 6 + 1, none⟩ = some (.int .i64 (lvAt L i)) ∧ w'.cell? ⟨b, o + i * 6 + 2, none⟩ = some (.slice A3 hn' k3) ∧ w'.cell? ⟨b, o + i * 6 + 3, none⟩ = some (.slice A4 fn k4) ∧ w'.cell? ⟨b, o + i * 6 + 4, none⟩ = some (.bool (stopAt L i)) ∧ w'.cell? ⟨b, o + i * 6 + 5, none⟩ = some (.bool (offAt L i))) (first | go_keep) (fail)
      obtain ⟨wa, hwa⟩ : ∃ wa, wa = (wr.alloc (.cells #[.string p, .int .i64 (lvAt L i), .slice A3 hn' k3, .slice A4 fn k4, .bool (stopAt L i), .bool (offAt L i)] 112)).drew := ⟨_, rfl⟩
      have hba : Below wr.heap.size wr wa := by rw [hwa]; exact ((Below.refl _ _).alloc (Nat.le_refl _) _).drew
      have hza : wa.heap.size = wr.heap.size + 1 := by rw [hwa]; show (wr.alloc _).heap.size = _; simp
      obtain ⟨bx, hbx⟩ : ∃ bx, bx = wr.heap.size := ⟨_, rfl⟩
      have HKx := hid (show Blk wa bx [.string p, .int .i64 (lvAt L i), .slice A3 hn' k3, .slice A4 fn k4, .bool (stopAt L i), .bool (offAt L i)] by rw [hwa, hbx]; exact (Blk.new wr _ _).dr 1)
      have HOa := hid (own_below HO.out hba)
      have HIa := hid (own_below HI.out hba)
      have HBa := hid (HBx.out.trans (hba.mono HBx.out.size))
      have HXa := hid (show ∀ g, (Value.slice Ax pre.length cx).ownBlock = some g → g ≠ bx from fun g hg e => by have := (HO.out.lt g hg).2; omega)
      rw [← hwa]
      clear hba hza d0 ic c0 c1 c2 c3 c4 c5 hwa
      rw [← hbx]
      have hwx : w.heap.size < bx := by omega
      clear hbx
      go_wp2_with fail
      go_loopw [5, 9] (fun sv jv wr => ∃ (j : Nat) (cur : List Spt), jv = .int .i64 j ∧ j ≤ hn' ∧ Hid (cur = pre ++ ownK L i j) ∧ wr.ownsRow (w.heap.size + 1) 128 2 sv cur.length (cur.flatMap spcells) ∧ Hid (wr.ownsRow (w2.heap.size + 1) 3 1 (.slice (some ⟨bi, oi, none⟩) pl.length ci) pl.length (pl.map icell)) ∧ Hid (∀ g, sv.ownBlock = some g → (Value.slice (some ⟨bi, oi, none⟩) pl.length ci).ownBlock ≠ some g) ∧ Hid (∀ g, sv.ownBlock = some g → g ≠ bx) ∧ Hid (Blk wr bx [.string p, .int .i64 (lvAt L i), .slice A3 hn' k3, .slice A4 fn k4, .bool (stopAt L i), .bool (offAt L i)]) ∧ Hid (Below w2.heap.size w2 wr)) (fun _ jv _ => hn' - (intOf jv).toNat)
      case atStart => exact ⟨0, pre, rfl, by omega, (show _ = _ by rw [ownK_zero, List.append_nil]), HOa.out, HIa.out, HAp.out, HXa.out, HKx.out, HBa.out⟩
      case round =>
        obtain ⟨j, cur, rfl, hj, HCu, hown, HIj, HAj, HXj, HKj, HBj⟩ := hrel
        obtain ⟨Ay, cy, rfl, _, _⟩ := (Sl.of_own hown).form
        have HOj := hid hown
        have HWj := hid (HB2.out.trans (HBj.out.mono HB2.out.size))
        have x2 := (HKj.out.2 2 _ rfl).1
        clear hown
        by_cases hjn : j < hn'
        · obtain ⟨bt, ot, s, rfl, hbt, hxs, hss, gt⟩ := HT.out.1.text hjn
          have hbtw : bt < w.heap.size := by omega
          have et := (HWj.out.cell (p := ⟨bt, ot + j, none⟩) hbtw).trans gt
          have x0 := (HKj.out.2 0 _ rfl).1
          have hlj : cur.length ≤ 1048576 := by
            rw [HCu.out, List.length_append]
            have := ownK_len L i j
            have := HPl.out
            omega
          have HX := hid hxs
          obtain ⟨v', w4, hrun, ho4, hg4, hloc⟩ := runSpot wr (w.heap.size + 1) _ cur HOj.out p s hlj (by have := HBj.out.size; omega)
          have HR := hid hrun
          have HO4 := hid ho4
          have HA4 := hid (apart_kept HIj.out HAj.out hg4 hloc)
          have HB4 := hid (HBj.out.grown hg4 HBj.out.size (fun z hz => by have := own_lt HOj.out z hz; omega))
          have hne : some bx ≠ (Value.slice Ay cur.length cy).ownBlock := fun e => HXj.out bx e.symm rfl
          have HK4 := hid (HKj.out.kept hg4 hne)
          have HX4 := hid (show ∀ g, v'.ownBlock = some g → g ≠ bx from fun g hg => by
            rcases hloc with h | h
            · exact HXj.out g (h.symm.trans hg)
            · rw [h] at hg
              have h1 : wr.heap.size + 1 = g := by simpa using hg
              have := HKj.out.1
              omega)
          have S4 := hid (And.intro (HK4.out.2 0 _ rfl).1 (And.intro (HK4.out.2 2 _ rfl).1 (((HB2.out.trans (HB4.out.mono HB2.out.size)).cell (p := ⟨bt, ot + j, none⟩) hbtw).trans gt)))
          have s0 : (0 : Int) ≤ (j : Int) := by omega
          have s1 : (j : Int) < (hn' : Int) := by omega
          have s2 : ((j : Int)).toNat = j := by simp
          have hwr : bx < wr.heap.size := HKj.out.1
          have hbr : bt < wr.heap.size := by omega
          clear hxs hss gt hrun ho4 hg4 hloc hne
          go_wp2_with fail
          go_region_held3 (fun w' => w'.cell? ⟨bx, 0, none⟩ = some (.string p) ∧ w'.cell? ⟨bx, 2, none⟩ = some (.slice (some ⟨bt, ot, none⟩) hn' k3) ∧ w'.cell? ⟨bt, ot + j, none⟩ = some (.string s)) (first | go_keep | exact S4.out) (first | (refine wp_app rfl (by rfl) (by rfl) HR.out ?_))
          go_wp2_with fail
          go_roundw
          case rel =>
            refine ⟨j + 1, cur ++ [⟨p.data.toList, s.data.toList⟩], by go_num, by omega, ?_, by simpa using HO4.out, HA4.out.1, HA4.out.2, HX4.out, HK4.out, HB4.out⟩
            show _ = _
            rw [ownK_step HX.out, ← List.append_assoc, ← HP.out.1, HCu.out]
          case measure => simp [intOf]; omega
        · obtain rfl : j = hn' := by omega
          have hoK : ownK L i j = ownS L i := ownK_all (by have := HT.out.2; omega)
          have HCL := hid (show cur = pre ++ ownS L i by rw [HCu.out, hoK])
          have x4 := (HKj.out.2 4 _ rfl).1
          clear hoK
          cases hst : stopAt L i with
          | true =>
            rw [hst] at x4
            have HF := hid (show spotsI L pl = cur by rw [HCL.out, ← HE2.out, HXI.out, hst]; simp)
            clear hst
            go_wp2_with fail
            go_ret
            exact ⟨_, rfl, by rw [HF.out]; exact own_base HOj.out (by omega), HWj.out⟩
          | false =>
            rw [hst] at x4
            have HF := hid (show cur ++ spotsI L (pl.drop (k + 1)) = spotsI L pl by rw [HCL.out, ← HE2.out, HXI.out, hst]; simp)
            clear hst
            go_wp2_with fail
            go_roundw
            case rel => exact ⟨k + 1, cur, by go_num, by omega, HF.out, HOj.out, HIj.out, HAj.out, HBj.out⟩
            case measure => simp [intOf]; omega
    · have hle : spotsI L (pl.drop k) = [] := spotsI_end (by omega)
      have HF := hid (show spotsI L pl = pre by rw [← HE2.out, hle, List.append_nil])
      clear hle
      go_wp2_with fail
      go_ret
      exact ⟨_, rfl, by rw [HF.out]; exact own_base HO.out (by omega), HW.out⟩
end Go.Proofs.YtlifaeleoiodkaaGreatDoor

/-
  SPOTS: the model's SpotsOf.
-/
namespace Go.Proofs.YtlifaeleoiodkaaGreatDoor
open Go.RowKit Nm
set_option linter.unusedSimpArgs false
set_option linter.unusedVariables false

end Go.Proofs.YtlifaeleoiodkaaGreatDoor

/-
  Reason: how slices of them lie in memory, and the walks of what the laws do with them (sized, copied, compared, marked, held). By gen_flat.py.
-/
namespace Go.Proofs.YtlifaeleoiodkaaGreatDoor
open Go.RowKit Nm
set_option linter.unusedSimpArgs false
set_option linter.unusedVariables false

structure Rsn where
  kd : Int
  lg : List UInt8
  hd : List UInt8
deriving DecidableEq
def rscells (x : Rsn) : List Value := [.int .i64 x.kd, txt x.lg, txt x.hd]
theorem rscells_len (x : Rsn) : (rscells x).length = 3 := rfl
def rscellsFit (x : Rsn) : Prop := x.lg.length ≤ maxTxt ∧ x.hd.length ≤ maxTxt
def Rsns (w : World) (B n : Nat) (v : Value) (l : List Rsn) : Prop := Sl w B 3 n v (l.flatMap rscells) ∧ ∀ x ∈ l, rscellsFit x
section
variable {w w' : World} {B B' n : Nat} {v : Value} {l : List Rsn}
theorem Rsns.below (h : Rsns w B n v l) (hb : Below B' w w') (hB : B ≤ B') : Rsns w' B n v l := ⟨h.1.below hb hB, h.2⟩
theorem Rsns.more (h : Rsns w B n v l) (hB : B ≤ B') : Rsns w B' n v l := ⟨h.1.more hB, h.2⟩
theorem Rsns.count (h : Rsns w B n v l) : l.length = n := Sl.count rscells_len h.1 (by omega)
end
/-- element k: its cells -/
theorem rscells_at {w : World} {B n c : Nat} {A : Option Addr} {l : List Rsn} (h : Sl w B 3 n (.slice A n c) (l.flatMap rscells)) {k : Nat} (hk : k < n) :
    ∃ (b o : Nat) (kd : Int) (lg : ByteArray) (hd : ByteArray), A = some ⟨b, o, none⟩ ∧ b < B ∧ l[k]? = some ⟨kd, lg.data.toList, hd.data.toList⟩ ∧ w.cell? ⟨b, o + k * 3, none⟩ = some (.int .i64 kd) ∧ w.cell? ⟨b, o + k * 3 + 1, none⟩ = some (.string lg) ∧ w.cell? ⟨b, o + k * 3 + 2, none⟩ = some (.string hd) := by
  obtain ⟨b, o, x, e, hb, hx, hc⟩ := Sl.elem rscells_len h (by omega) hk
  obtain ⟨kd, lg, hd⟩ := x
  exact ⟨b, o, kd, ⟨lg.toArray⟩, ⟨hd.toArray⟩, e, hb, by simpa using hx, hc 0 _ rfl, hc 1 _ rfl, hc 2 _ rfl⟩
theorem rscells_fit {l : List Rsn} {k : Nat} {kd : Int} {lg : ByteArray} {hd : ByteArray} (h : ∀ x ∈ l, rscellsFit x) (hx : l[k]? = some ⟨kd, lg.data.toList, hd.data.toList⟩) : lg.size ≤ maxTxt ∧ hd.size ≤ maxTxt := by
  have := h _ (List.mem_of_getElem? hx)
  simpa [rscellsFit, ← Lib.size_eq] using this

theorem rscells_one (l : List Rsn) : ∀ u ∈ l.flatMap rscells, u.oneCell' = true := by
  intro u hu
  obtain ⟨x, _, hx⟩ := List.mem_flatMap.1 hu
  simp only [rscells, List.mem_cons, List.not_mem_nil, or_false] at hx
  rcases hx with rfl | rfl | rfl <;> rfl
def rscellsKinds : List Bool := [false, true, true]

end Go.Proofs.YtlifaeleoiodkaaGreatDoor

/-
  Record: how slices of them lie in memory, and the walks of what the laws do with them (sized, copied, compared, marked, held). By gen_flat.py.
-/
namespace Go.Proofs.YtlifaeleoiodkaaGreatDoor
open Go.RowKit Nm
set_option linter.unusedSimpArgs false
set_option linter.unusedVariables false

theorem rcells_len (x : Rec) : (rcells x).length = 4 := rfl
def rcellsFit (x : Rec) : Prop := x.nm.length ≤ maxTxt ∧ x.tx.length ≤ maxTxt
def Rs (w : World) (B n : Nat) (v : Value) (l : List Rec) : Prop := Sl w B 4 n v (l.flatMap rcells) ∧ ∀ x ∈ l, rcellsFit x
section
variable {w w' : World} {B B' n : Nat} {v : Value} {l : List Rec}
theorem Rs.below (h : Rs w B n v l) (hb : Below B' w w') (hB : B ≤ B') : Rs w' B n v l := ⟨h.1.below hb hB, h.2⟩
theorem Rs.more (h : Rs w B n v l) (hB : B ≤ B') : Rs w B' n v l := ⟨h.1.more hB, h.2⟩
theorem Rs.count (h : Rs w B n v l) : l.length = n := Sl.count rcells_len h.1 (by omega)
end
/-- element k: its cells -/
theorem rcells_at {w : World} {B n c : Nat} {A : Option Addr} {l : List Rec} (h : Sl w B 4 n (.slice A n c) (l.flatMap rcells)) {k : Nat} (hk : k < n) :
    ∃ (b o : Nat) (nm : ByteArray) (lv : Int) (tx : ByteArray) (sq : Int), A = some ⟨b, o, none⟩ ∧ b < B ∧ l[k]? = some ⟨nm.data.toList, lv, tx.data.toList, sq⟩ ∧ w.cell? ⟨b, o + k * 4, none⟩ = some (.string nm) ∧ w.cell? ⟨b, o + k * 4 + 1, none⟩ = some (.int .i64 lv) ∧ w.cell? ⟨b, o + k * 4 + 2, none⟩ = some (.string tx) ∧ w.cell? ⟨b, o + k * 4 + 3, none⟩ = some (.int .i64 sq) := by
  obtain ⟨b, o, x, e, hb, hx, hc⟩ := Sl.elem rcells_len h (by omega) hk
  obtain ⟨nm, lv, tx, sq⟩ := x
  exact ⟨b, o, ⟨nm.toArray⟩, lv, ⟨tx.toArray⟩, sq, e, hb, by simpa using hx, hc 0 _ rfl, hc 1 _ rfl, hc 2 _ rfl, hc 3 _ rfl⟩
theorem rcells_fit {l : List Rec} {k : Nat} {nm : ByteArray} {lv : Int} {tx : ByteArray} {sq : Int} (h : ∀ x ∈ l, rcellsFit x) (hx : l[k]? = some ⟨nm.data.toList, lv, tx.data.toList, sq⟩) : nm.size ≤ maxTxt ∧ tx.size ≤ maxTxt := by
  have := h _ (List.mem_of_getElem? hx)
  simpa [rcellsFit, ← Lib.size_eq] using this

theorem Tryz.infoRecord : (Tryz.prog.info? 61).map (fun i => (i.zero, i.size, i.bytes)) = some (some (.agg #[.string ByteArray.empty, .int .i64 0, .string ByteArray.empty, .int .i64 0]), 4, 48) := by kernel_rfl

/-- append of one Record -/
theorem appRecord (w : World) {ops : Array Oper} {rest : List Oper} {o : Oper} {a : Act} {Q : Exit → Act → World → Prop} (hg : o.guard = none) (s x : Operand)
    (ho : o.op = .call { callee := .builtin .append, args := #[s, x], argTypes := #[57, 57] }) (base : Nat) (v : Value) (l : List Rec) (hs : a.eval s = v)
    (hown : w.ownsRow base 61 4 v l.length (l.flatMap rcells)) (nm : ByteArray) (lv : Int) (tx : ByteArray) (sq : Int) (b0 c : Nat) (te : TypeId) (hx : a.eval x = .slice (some ⟨b0, 0, none⟩) 1 c) (hb0 : b0 = w.heap.size) (hl : l.length ≤ 1048576) (hbase : base ≤ w.heap.size)
    (h : ∀ v' w', w'.ownsRow base 61 4 v' (l ++ [(⟨nm.data.toList, lv, tx.data.toList, sq⟩ : Rec)]).length ((l ++ [(⟨nm.data.toList, lv, tx.data.toList, sq⟩ : Rec)]).flatMap rcells) → Below base w w' → wpList Tryz.prog ops Q rest (a.put o.dst v') w') :
    wpList Tryz.prog ops Q (o :: rest) a (w.alloc (.cells #[.string nm, .int .i64 lv, .string tx, .int .i64 sq] te)) := by
  subst hb0
  obtain ⟨i0, hi, hz0, hz1, hz2⟩ := info_parts Tryz.infoRecord
  refine wpList_app1 w hg s x 57 ho base 61 i0 _ 4 48 Tryz.underlying57 hi hz0 hz1 hz2 rfl (by decide) v l.length _ hs hown [.string nm, .int .i64 lv, .string tx, .int .i64 sq] c te hx rfl (List.all_eq_true.1 rfl) (by unfold maxLen; omega) (by omega) hbase fun v' w' h1 h2 => h v' w' ?_ h2
  simpa [rcells, txt_data] using h1

theorem rcells_one (l : List Rec) : ∀ u ∈ l.flatMap rcells, u.oneCell' = true := by
  intro u hu
  obtain ⟨x, _, hx⟩ := List.mem_flatMap.1 hu
  simp only [rcells, List.mem_cons, List.not_mem_nil, or_false] at hx
  rcases hx with rfl | rfl | rfl | rfl <;> rfl
/-- append of a slice -/
theorem appRecordS (w : World) {ops : Array Oper} {rest : List Oper} {o : Oper} {a : Act} {Q : Exit → Act → World → Prop} (hg : o.guard = none) (s x : Operand)
    (ho : o.op = .call { callee := .builtin .append, args := #[s, x], argTypes := #[57, 57] }) (base : Nat) (v : Value) (l l2 : List Rec) (hs : a.eval s = v)
    (hown : w.ownsRow base 61 4 v l.length (l.flatMap rcells)) (B : Nat) (src : Value) (hx : a.eval x = src) (hsl : Sl w B 4 l2.length src (l2.flatMap rcells)) (hl : l.length + l2.length ≤ 4194304) (hbase : base ≤ w.heap.size)
    (h : ∀ v' w', w'.ownsRow base 61 4 v' (l ++ l2).length ((l ++ l2).flatMap rcells) → Below base w w' → wpList Tryz.prog ops Q rest (a.put o.dst v') w') :
    wpList Tryz.prog ops Q (o :: rest) a w := by
  obtain ⟨i0, hi, hz0, hz1, hz2⟩ := info_parts Tryz.infoRecord
  refine wpList_appSl w hg s x 57 ho base 61 i0 _ 4 48 Tryz.underlying57 hi hz0 hz1 hz2 rfl (by decide) v l.length _ hs hown B l2.length src _ hx hsl (rcells_one l2) (by unfold maxLen; omega) (by omega) hbase fun v' w' h1 h2 => h v' w' ?_ h2
  simpa using h1

set_option maxHeartbeats 1000000 in
set_option maxRecDepth 100000 in
theorem eqRecord_c (nm : ByteArray) (lv : Int) (tx : ByteArray) (sq : Int) (w : World) :
    Calls Tryz.prog 83 #[.agg #[.string nm, .int .i64 lv, .string tx, .int .i64 sq], .agg #[.string nm, .int .i64 lv, .string tx, .int .i64 sq]] w (BoolPost w true) := by
  have b0 : (nm.toList != nm.toList) = false := by simp
  have b1 : (lv != lv) = false := by simp
  have b2 : (tx.toList != tx.toList) = false := by simp
  have b3 : (sq != sq) = false := by simp
  go_enter Tryz.func83, Tryz.ntmps83
  go_wp2_with fail
  go_ret
  exact ⟨rfl, by go_grown⟩

def rcellsKinds : List Bool := [true, false, true, false]

end Go.Proofs.YtlifaeleoiodkaaGreatDoor

/-
  Sent: how slices of them lie in memory, and the walks of what the laws do with them (sized, copied, compared, marked, held). By gen_flat.py.
-/
namespace Go.Proofs.YtlifaeleoiodkaaGreatDoor
open Go.RowKit Nm
set_option linter.unusedSimpArgs false
set_option linter.unusedVariables false

structure Snt where
  lg : List UInt8
  hd : List UInt8
  rc : Rec
deriving DecidableEq
def sncells (x : Snt) : List Value := [txt x.lg, txt x.hd, txt x.rc.nm, .int .i64 x.rc.lv, txt x.rc.tx, .int .i64 x.rc.sq]
theorem sncells_len (x : Snt) : (sncells x).length = 6 := rfl
def sncellsFit (x : Snt) : Prop := x.lg.length ≤ maxTxt ∧ x.hd.length ≤ maxTxt ∧ x.rc.nm.length ≤ maxTxt ∧ x.rc.tx.length ≤ maxTxt
def Snts (w : World) (B n : Nat) (v : Value) (l : List Snt) : Prop := Sl w B 6 n v (l.flatMap sncells) ∧ ∀ x ∈ l, sncellsFit x
section
variable {w w' : World} {B B' n : Nat} {v : Value} {l : List Snt}
theorem Snts.below (h : Snts w B n v l) (hb : Below B' w w') (hB : B ≤ B') : Snts w' B n v l := ⟨h.1.below hb hB, h.2⟩
theorem Snts.more (h : Snts w B n v l) (hB : B ≤ B') : Snts w B' n v l := ⟨h.1.more hB, h.2⟩
theorem Snts.count (h : Snts w B n v l) : l.length = n := Sl.count sncells_len h.1 (by omega)
end
/-- element k: its cells -/
theorem sncells_at {w : World} {B n c : Nat} {A : Option Addr} {l : List Snt} (h : Sl w B 6 n (.slice A n c) (l.flatMap sncells)) {k : Nat} (hk : k < n) :
    ∃ (b o : Nat) (lg : ByteArray) (hd : ByteArray) (nm : ByteArray) (lv : Int) (tx : ByteArray) (sq : Int), A = some ⟨b, o, none⟩ ∧ b < B ∧ l[k]? = some ⟨lg.data.toList, hd.data.toList, ⟨nm.data.toList, lv, tx.data.toList, sq⟩⟩ ∧ w.cell? ⟨b, o + k * 6, none⟩ = some (.string lg) ∧ w.cell? ⟨b, o + k * 6 + 1, none⟩ = some (.string hd) ∧ w.cell? ⟨b, o + k * 6 + 2, none⟩ = some (.string nm) ∧ w.cell? ⟨b, o + k * 6 + 3, none⟩ = some (.int .i64 lv) ∧ w.cell? ⟨b, o + k * 6 + 4, none⟩ = some (.string tx) ∧ w.cell? ⟨b, o + k * 6 + 5, none⟩ = some (.int .i64 sq) := by
  obtain ⟨b, o, x, e, hb, hx, hc⟩ := Sl.elem sncells_len h (by omega) hk
  obtain ⟨lg, hd, ⟨nm, lv, tx, sq⟩⟩ := x
  exact ⟨b, o, ⟨lg.toArray⟩, ⟨hd.toArray⟩, ⟨nm.toArray⟩, lv, ⟨tx.toArray⟩, sq, e, hb, by simpa using hx, hc 0 _ rfl, hc 1 _ rfl, hc 2 _ rfl, hc 3 _ rfl, hc 4 _ rfl, hc 5 _ rfl⟩
theorem sncells_fit {l : List Snt} {k : Nat} {lg : ByteArray} {hd : ByteArray} {nm : ByteArray} {lv : Int} {tx : ByteArray} {sq : Int} (h : ∀ x ∈ l, sncellsFit x) (hx : l[k]? = some ⟨lg.data.toList, hd.data.toList, ⟨nm.data.toList, lv, tx.data.toList, sq⟩⟩) : lg.size ≤ maxTxt ∧ hd.size ≤ maxTxt ∧ nm.size ≤ maxTxt ∧ tx.size ≤ maxTxt := by
  have := h _ (List.mem_of_getElem? hx)
  simpa [sncellsFit, ← Lib.size_eq] using this

theorem Tryz.infoSent : (Tryz.prog.info? 83).map (fun i => (i.zero, i.size, i.bytes)) = some (some (.agg #[.string ByteArray.empty, .string ByteArray.empty, .string ByteArray.empty, .int .i64 0, .string ByteArray.empty, .int .i64 0]), 6, 80) := by kernel_rfl

/-- append of one Sent -/
theorem appSent (w : World) {ops : Array Oper} {rest : List Oper} {o : Oper} {a : Act} {Q : Exit → Act → World → Prop} (hg : o.guard = none) (s x : Operand)
    (ho : o.op = .call { callee := .builtin .append, args := #[s, x], argTypes := #[31, 31] }) (base : Nat) (v : Value) (l : List Snt) (hs : a.eval s = v)
    (hown : w.ownsRow base 83 6 v l.length (l.flatMap sncells)) (lg : ByteArray) (hd : ByteArray) (nm : ByteArray) (lv : Int) (tx : ByteArray) (sq : Int) (b0 c : Nat) (te : TypeId) (hx : a.eval x = .slice (some ⟨b0, 0, none⟩) 1 c) (hb0 : b0 = w.heap.size) (hl : l.length ≤ 1048576) (hbase : base ≤ w.heap.size)
    (h : ∀ v' w', w'.ownsRow base 83 6 v' (l ++ [(⟨lg.data.toList, hd.data.toList, ⟨nm.data.toList, lv, tx.data.toList, sq⟩⟩ : Snt)]).length ((l ++ [(⟨lg.data.toList, hd.data.toList, ⟨nm.data.toList, lv, tx.data.toList, sq⟩⟩ : Snt)]).flatMap sncells) → Below base w w' → wpList Tryz.prog ops Q rest (a.put o.dst v') w') :
    wpList Tryz.prog ops Q (o :: rest) a (w.alloc (.cells #[.string lg, .string hd, .string nm, .int .i64 lv, .string tx, .int .i64 sq] te)) := by
  subst hb0
  obtain ⟨i0, hi, hz0, hz1, hz2⟩ := info_parts Tryz.infoSent
  refine wpList_app1 w hg s x 31 ho base 83 i0 _ 6 80 Tryz.underlying31 hi hz0 hz1 hz2 rfl (by decide) v l.length _ hs hown [.string lg, .string hd, .string nm, .int .i64 lv, .string tx, .int .i64 sq] c te hx rfl (List.all_eq_true.1 rfl) (by unfold maxLen; omega) (by omega) hbase fun v' w' h1 h2 => h v' w' ?_ h2
  simpa [sncells, txt_data] using h1

theorem sncells_one (l : List Snt) : ∀ u ∈ l.flatMap sncells, u.oneCell' = true := by
  intro u hu
  obtain ⟨x, _, hx⟩ := List.mem_flatMap.1 hu
  simp only [sncells, List.mem_cons, List.not_mem_nil, or_false] at hx
  rcases hx with rfl | rfl | rfl | rfl | rfl | rfl <;> rfl
/-- append of a slice -/
theorem appSentS (w : World) {ops : Array Oper} {rest : List Oper} {o : Oper} {a : Act} {Q : Exit → Act → World → Prop} (hg : o.guard = none) (s x : Operand)
    (ho : o.op = .call { callee := .builtin .append, args := #[s, x], argTypes := #[31, 31] }) (base : Nat) (v : Value) (l l2 : List Snt) (hs : a.eval s = v)
    (hown : w.ownsRow base 83 6 v l.length (l.flatMap sncells)) (B : Nat) (src : Value) (hx : a.eval x = src) (hsl : Sl w B 6 l2.length src (l2.flatMap sncells)) (hl : l.length + l2.length ≤ 4194304) (hbase : base ≤ w.heap.size)
    (h : ∀ v' w', w'.ownsRow base 83 6 v' (l ++ l2).length ((l ++ l2).flatMap sncells) → Below base w w' → wpList Tryz.prog ops Q rest (a.put o.dst v') w') :
    wpList Tryz.prog ops Q (o :: rest) a w := by
  obtain ⟨i0, hi, hz0, hz1, hz2⟩ := info_parts Tryz.infoSent
  refine wpList_appSl w hg s x 31 ho base 83 i0 _ 6 80 Tryz.underlying31 hi hz0 hz1 hz2 rfl (by decide) v l.length _ hs hown B l2.length src _ hx hsl (sncells_one l2) (by unfold maxLen; omega) (by omega) hbase fun v' w' h1 h2 => h v' w' ?_ h2
  simpa using h1

set_option maxHeartbeats 1000000 in
set_option maxRecDepth 100000 in
theorem eqSent_c (lg : ByteArray) (hd : ByteArray) (nm : ByteArray) (lv : Int) (tx : ByteArray) (sq : Int) (w : World) :
    Calls Tryz.prog 43 #[.agg #[.string lg, .string hd, .string nm, .int .i64 lv, .string tx, .int .i64 sq], .agg #[.string lg, .string hd, .string nm, .int .i64 lv, .string tx, .int .i64 sq]] w (BoolPost w true) := by
  have b0 : (lg.toList != lg.toList) = false := by simp
  have b1 : (hd.toList != hd.toList) = false := by simp
  have b2 : (nm.toList != nm.toList) = false := by simp
  have b3 : (lv != lv) = false := by simp
  have b4 : (tx.toList != tx.toList) = false := by simp
  have b5 : (sq != sq) = false := by simp
  go_enter Tryz.func43, Tryz.ntmps43
  go_wp2_with go_in
  go_ret
  exact ⟨rfl, by go_grown⟩

set_option maxHeartbeats 4000000 in
set_option maxRecDepth 100000 in
/-- two slices that read alike -/
theorem eqSentS_c (v1 v2 : Value) (n B : Nat) (l : List Snt) (w : World) (h1 : Sl w B 6 n v1 (l.flatMap sncells)) (h2 : Sl w B 6 n v2 (l.flatMap sncells)) (hB : B ≤ w.heap.size) :
    Calls Tryz.prog 13 #[v1, v2] w (BoolPost w true) := by
  obtain ⟨A1, k1, rfl, _, hm1⟩ := h1.form
  obtain ⟨A2, k2, rfl, _, hm2⟩ := h2.form
  unfold maxLen at hm1 hm2
  have HS := hid (And.intro h1 h2)
  have b0 : ((n : Int) != (n : Int)) = false := by simp
  clear h1 h2
  go_enter Tryz.func13, Tryz.ntmps13
  go_wp2_with fail
  go_loopw [5] (fun iv wr => ∃ (i : Nat), iv = .int .i64 i ∧ i ≤ n ∧ Hid (Below w.heap.size w wr)) (fun iv _ => n - (intOf iv).toNat)
  case atStart => exact ⟨0, rfl, by omega, Below.refl _ _⟩
  case round =>
    obtain ⟨k, rfl, hi, HB⟩ := hrel
    by_cases hlt : k < n
    · obtain ⟨b, o, lg, hd, nm, lv, tx, sq, rfl, hb1, hx, g0, g1, g2, g3, g4, g5⟩ := sncells_at HS.out.1 hlt
      obtain ⟨b', o', lg', hd', nm', lv', tx', sq', rfl, hb2, hx', g0', g1', g2', g3', g4', g5'⟩ := sncells_at HS.out.2 hlt
      rw [hx] at hx'
      have hx'' := Option.some.inj hx'
      simp only [Snt.mk.injEq, Rec.mk.injEq, bytes_eq_iff] at hx''
      obtain ⟨rfl, rfl, rfl, rfl, rfl, rfl⟩ := hx''
      have c0 : wr.cell? ⟨b, o + k * 6, none⟩ = some (.string lg) := (HB.out.cell (p := ⟨b, o + k * 6, none⟩) (by show b < _; omega)).trans g0
      have c1 : wr.cell? ⟨b, o + k * 6 + 1, none⟩ = some (.string hd) := (HB.out.cell (p := ⟨b, o + k * 6 + 1, none⟩) (by show b < _; omega)).trans g1
      have c2 : wr.cell? ⟨b, o + k * 6 + 2, none⟩ = some (.string nm) := (HB.out.cell (p := ⟨b, o + k * 6 + 2, none⟩) (by show b < _; omega)).trans g2
      have c3 : wr.cell? ⟨b, o + k * 6 + 3, none⟩ = some (.int .i64 lv) := (HB.out.cell (p := ⟨b, o + k * 6 + 3, none⟩) (by show b < _; omega)).trans g3
      have c4 : wr.cell? ⟨b, o + k * 6 + 4, none⟩ = some (.string tx) := (HB.out.cell (p := ⟨b, o + k * 6 + 4, none⟩) (by show b < _; omega)).trans g4
      have c5 : wr.cell? ⟨b, o + k * 6 + 5, none⟩ = some (.int .i64 sq) := (HB.out.cell (p := ⟨b, o + k * 6 + 5, none⟩) (by show b < _; omega)).trans g5
      have c0' : wr.cell? ⟨b', o' + k * 6, none⟩ = some (.string lg) := (HB.out.cell (p := ⟨b', o' + k * 6, none⟩) (by show b' < _; omega)).trans g0'
      have c1' : wr.cell? ⟨b', o' + k * 6 + 1, none⟩ = some (.string hd) := (HB.out.cell (p := ⟨b', o' + k * 6 + 1, none⟩) (by show b' < _; omega)).trans g1'
      have c2' : wr.cell? ⟨b', o' + k * 6 + 2, none⟩ = some (.string nm) := (HB.out.cell (p := ⟨b', o' + k * 6 + 2, none⟩) (by show b' < _; omega)).trans g2'
      have c3' : wr.cell? ⟨b', o' + k * 6 + 3, none⟩ = some (.int .i64 lv) := (HB.out.cell (p := ⟨b', o' + k * 6 + 3, none⟩) (by show b' < _; omega)).trans g3'
      have c4' : wr.cell? ⟨b', o' + k * 6 + 4, none⟩ = some (.string tx) := (HB.out.cell (p := ⟨b', o' + k * 6 + 4, none⟩) (by show b' < _; omega)).trans g4'
      have c5' : wr.cell? ⟨b', o' + k * 6 + 5, none⟩ = some (.int .i64 sq) := (HB.out.cell (p := ⟨b', o' + k * 6 + 5, none⟩) (by show b' < _; omega)).trans g5'
      have hcall := hid (fun W => eqSent_c lg hd nm lv tx sq W)
      have hlt1 : b < wr.heap.size := by have := HB.out.size; omega
      have hlt2 : b' < wr.heap.size := by have := HB.out.size; omega
      clear hx hx' g0 g1 g2 g3 g4 g5 g0' g1' g2' g3' g4' g5'
      go_wp2_with fail
      go_region_with (go_at_call 43; refine (hcall.out _).mono ?_; rintro e w1 ⟨rfl, hb⟩)
      all_goals go_wp2_with fail
      all_goals
        go_roundw
        case rel => exact ⟨k + 1, by go_num, by omega, by first | exact HB.out.trans (hb.mono HB.out.size) | exact HB.out.drew.trans (hb.mono HB.out.drew.size)⟩
        case measure => simp [intOf]; omega
    · go_wp2_with fail
      go_ret
      exact ⟨rfl, HB.out⟩
def sncellsKinds : List Bool := [true, true, true, false, true, false]

set_option maxHeartbeats 4000000 in
set_option maxRecDepth 100000 in
theorem markSentS_c (v : Value) (n base k : Nat) (xs : List Value) (w : World) (hv : w.ownsRow base 83 6 v n xs) (hn : n * 6 + k ≤ 17592186044416) :
    Calls Tryz.prog 20 #[v, .int .i64 k] w (MarkPost w v base 83 sncellsKinds 6 n k) := by
  obtain ⟨A, c, rfl, hnc, hcm⟩ := (Sl.of_own hv).form
  unfold maxLen at hcm
  have HV := hid hv
  clear hv
  go_enter Tryz.func20, Tryz.ntmps20
  go_wp2_with fail
  go_loopw [1, 5] (fun kv iv wr => ∃ (i : Nat) (q : Int) (ys : List Value), kv = .int .i64 q ∧ iv = .int .i64 i ∧ i ≤ n ∧ 0 ≤ q ∧ q ≤ 17592186044416 ∧ Hid (q = ((k + i * 6 : Nat) : Int)) ∧ Hid (wr.ownsRow base 83 6 (.slice A n c) n ys) ∧ Hid (MarkedK sncellsKinds 6 ys k (i * 6)) ∧ Hid (w.grownBy wr (Value.slice A n c).ownBlock)) (fun _ iv _ => n - (intOf iv).toNat)
  case atStart => exact ⟨0, _, xs, rfl, rfl, Nat.zero_le _, by omega, by omega, by show (k : Int) = _; simp, HV.out, fun j hj => absurd hj (by omega), World.grownBy.refl _ _⟩
  case round =>
    obtain ⟨i, q, ys, rfl, rfl, hi, hq0, hq1, HQ, HO, HM, HG⟩ := hrel
    by_cases hlt : i < n
    · obtain ⟨g, rfl, hglt⟩ := own_some HO.out (by omega)
      have hid2 : i * 6 + 6 ≤ n * 6 := by have := Nat.mul_le_mul_right 6 hlt; omega
      have hq2 : q ≤ 17592186044416 - 6 := by have := HQ.out; omega
      obtain ⟨x0, hx0, _⟩ := txt_mk (mt (k + i * 6 + 0))
      have HC0 := hid (fun W => mark_at (q := q) (m := k + i * 6 + 0) W (by have := HQ.out; omega) (by have := HQ.out; omega) hx0)
      have HX0 := hid hx0
      clear hx0
      obtain ⟨x1, hx1, _⟩ := txt_mk (mt (k + i * 6 + 1))
      have HC1 := hid (fun W => mark_at (q := (q + 1)) (m := k + i * 6 + 1) W (by have := HQ.out; omega) (by have := HQ.out; omega) hx1)
      have HX1 := hid hx1
      clear hx1
      obtain ⟨x2, hx2, _⟩ := txt_mk (mt (k + i * 6 + 2))
      have HC2 := hid (fun W => mark_at (q := (q + 1 + 1)) (m := k + i * 6 + 2) W (by have := HQ.out; omega) (by have := HQ.out; omega) hx2)
      have HX2 := hid hx2
      clear hx2
      obtain ⟨x4, hx4, _⟩ := txt_mk (mt (k + i * 6 + 4))
      have HC4 := hid (fun W => mark_at (q := (q + 1 + 1 + 1 + 1)) (m := k + i * 6 + 4) W (by have := HQ.out; omega) (by have := HQ.out; omega) hx4)
      have HX4 := hid hx4
      clear hx4
      go_wp2_with fail
      refine (HC0.out _).mono ?_
      rintro e w0 ⟨rfl, hb⟩
      have hown := own_below HO.out hb
      have HG0a := hid (grown_tr HG.out (grown_of hb _))
      clear hb
      obtain ⟨u0, d0⟩ := own_cell hown (j := i * 6) (by have := Nat.mul_le_mul_right 6 hlt; omega)
      have f0 := hown.frozenAt (i * 6)
      have hs0 := hown.stored (i * 6) (.string x0)
      have HO0 := hid hs0.1
      have HG0 := hid (grown_tr HG0a.out hs0.2)
      clear hown hs0
      go_wp2_with fail
      refine (HC1.out _).mono ?_
      rintro e w1 ⟨rfl, hb⟩
      have hown := own_below HO0.out hb
      have HG1a := hid (grown_tr HG0.out (grown_of hb _))
      clear hb
      obtain ⟨u1, d1⟩ := own_cell hown (j := i * 6 + 1) (by have := Nat.mul_le_mul_right 6 hlt; omega)
      have f1 := hown.frozenAt (i * 6 + 1)
      have hs1 := hown.stored (i * 6 + 1) (.string x1)
      have HO1 := hid hs1.1
      have HG1 := hid (grown_tr HG1a.out hs1.2)
      clear hown hs1
      go_wp2_with fail
      refine (HC2.out _).mono ?_
      rintro e w2 ⟨rfl, hb⟩
      have hown := own_below HO1.out hb
      have HG2a := hid (grown_tr HG1.out (grown_of hb _))
      clear hb
      obtain ⟨u2, d2⟩ := own_cell hown (j := i * 6 + 2) (by have := Nat.mul_le_mul_right 6 hlt; omega)
      have f2 := hown.frozenAt (i * 6 + 2)
      obtain ⟨u3, d3⟩ := own_cell hown (j := i * 6 + 3) (by have := Nat.mul_le_mul_right 6 hlt; omega)
      have f3 := hown.frozenAt (i * 6 + 3)
      have hs2 := hown.stored (i * 6 + 2) (.string x2)
      have hs3 := hs2.1.stored (i * 6 + 3) (.int .i64 (q + 1 + 1 + 1))
      have HO2 := hid hs3.1
      have HG2 := hid (grown_tr (grown_tr HG2a.out hs2.2) hs3.2)
      clear hown hs2 hs3
      go_wp2_with fail
      refine (HC4.out _).mono ?_
      rintro e w3 ⟨rfl, hb⟩
      have hown := own_below HO2.out hb
      have HG3a := hid (grown_tr HG2.out (grown_of hb _))
      clear hb
      obtain ⟨u4, d4⟩ := own_cell hown (j := i * 6 + 4) (by have := Nat.mul_le_mul_right 6 hlt; omega)
      have f4 := hown.frozenAt (i * 6 + 4)
      obtain ⟨u5, d5⟩ := own_cell hown (j := i * 6 + 5) (by have := Nat.mul_le_mul_right 6 hlt; omega)
      have f5 := hown.frozenAt (i * 6 + 5)
      have hs4 := hown.stored (i * 6 + 4) (.string x4)
      have hs5 := hs4.1.stored (i * 6 + 5) (.int .i64 (q + 1 + 1 + 1 + 1 + 1))
      have HO3 := hid hs5.1
      have HG3 := hid (grown_tr (grown_tr HG3a.out hs4.2) hs5.2)
      clear hown hs4 hs5
      go_wp2_with fail
      go_roundw
      case rel =>
        refine ⟨i + 1, _, _, rfl, by go_num, by omega, by omega, by omega, ?_, HO3.out, ?_, HG3.out⟩
        · have := HQ.out; show _ = _; rw [this]; omega
        · have hm := marked_put (ks := sncellsKinds) (d := 6) HM.out [.string x0, .string x1, .string x2, .int .i64 (q + 1 + 1 + 1), .string x4, .int .i64 (q + 1 + 1 + 1 + 1 + 1)] rfl (by have := HO.out.1; have := Nat.mul_le_mul_right 6 hlt; omega) (by
            intro j hj
            have := HQ.out
            match j, hj with
            | 0, _ => (have := HX0.out; simpa [sncellsKinds, mkv] using this.symm)
            | 1, _ => (have := HX1.out; simpa [sncellsKinds, mkv] using this.symm)
            | 2, _ => (have := HX2.out; simpa [sncellsKinds, mkv] using this.symm)
            | 3, _ => simp [sncellsKinds, mkv]; omega
            | 4, _ => (have := HX4.out; simpa [sncellsKinds, mkv] using this.symm)
            | 5, _ => simp [sncellsKinds, mkv]; omega)
          exact hm
      case measure => simp [intOf]; omega
    · obtain rfl : i = n := by omega
      go_wp2_with fail
      go_ret
      exact ⟨ret_int HQ.out, ⟨ys, HO.out, HM.out⟩, HG.out⟩

set_option maxHeartbeats 4000000 in
set_option maxRecDepth 100000 in
theorem heldSentS_c (v : Value) (n B k : Nat) (xs : List Value) (w : World) (hv : Sl w B 6 n v xs) (hB : B ≤ w.heap.size) (hM : MarkedK sncellsKinds 6 xs k (n * 6)) (hn : n * 6 + k ≤ 17592186044416) :
    Calls Tryz.prog 21 #[v, .int .i64 k] w fun e w' => e = .returned (.int .i64 ((k + n * 6 : Nat) : Int)) ∧ Below w.heap.size w w' := by
  obtain ⟨A, c, rfl, hnc, hcm⟩ := hv.form
  unfold maxLen at hcm
  have HV := hid (And.intro hv hM)
  clear hv hM
  go_enter Tryz.func21, Tryz.ntmps21
  go_wp2_with fail
  go_loopw [1, 5] (fun kv iv wr => ∃ (i : Nat) (q : Int), kv = .int .i64 q ∧ iv = .int .i64 i ∧ i ≤ n ∧ 0 ≤ q ∧ q ≤ 17592186044416 ∧ Hid (q = ((k + i * 6 : Nat) : Int)) ∧ Hid (Below w.heap.size w wr)) (fun _ iv _ => n - (intOf iv).toNat)
  case atStart => exact ⟨0, _, rfl, rfl, Nat.zero_le _, by omega, by omega, by show (k : Int) = _; simp, Below.refl _ _⟩
  case round =>
    obtain ⟨i, q, rfl, rfl, hi, hq0, hq1, HQ, HB⟩ := hrel
    by_cases hlt : i < n
    · obtain ⟨b, o, rfl, hbB, hcl⟩ := sl_elem HV.out.1 hlt
      have hM := HV.out.2
      have hid2 : i * 6 + 6 ≤ n * 6 := by have := Nat.mul_le_mul_right 6 hlt; omega
      have hq2 : q ≤ 17592186044416 - 6 := by have := HQ.out; omega
      obtain ⟨x0, hx0, _⟩ := txt_mk (mt (k + i * 6 + 0))
      have HC0 := hid (fun W => mark_at (q := q) (m := k + i * 6 + 0) W (by have := HQ.out; omega) (by have := HQ.out; omega) hx0)
      have e0 := eq_true_of (a := x0) (b := x0) rfl
      obtain ⟨x1, hx1, _⟩ := txt_mk (mt (k + i * 6 + 1))
      have HC1 := hid (fun W => mark_at (q := (q + 1)) (m := k + i * 6 + 1) W (by have := HQ.out; omega) (by have := HQ.out; omega) hx1)
      have e1 := eq_true_of (a := x1) (b := x1) rfl
      obtain ⟨x2, hx2, _⟩ := txt_mk (mt (k + i * 6 + 2))
      have HC2 := hid (fun W => mark_at (q := (q + 1 + 1)) (m := k + i * 6 + 2) W (by have := HQ.out; omega) (by have := HQ.out; omega) hx2)
      have e2 := eq_true_of (a := x2) (b := x2) rfl
      have b3 : (q + 1 + 1 + 1 != q + 1 + 1 + 1) = false := by simp
      obtain ⟨x4, hx4, _⟩ := txt_mk (mt (k + i * 6 + 4))
      have HC4 := hid (fun W => mark_at (q := (q + 1 + 1 + 1 + 1)) (m := k + i * 6 + 4) W (by have := HQ.out; omega) (by have := HQ.out; omega) hx4)
      have e4 := eq_true_of (a := x4) (b := x4) rfl
      have b5 : (q + 1 + 1 + 1 + 1 + 1 != q + 1 + 1 + 1 + 1 + 1) = false := by simp
      have c0 : wr.cell? ⟨b, o + i * 6, none⟩ = some (.string x0) := (HB.out.cell (p := ⟨b, o + i * 6, none⟩) (by show b < _; omega)).trans (hcl 0 _ (marked_at hM (i := i) (by omega) (by omega) (by simpa [sncellsKinds, mkv] using hx0)))
      have c1 : wr.cell? ⟨b, o + i * 6 + 1, none⟩ = some (.string x1) := (HB.out.cell (p := ⟨b, o + i * 6 + 1, none⟩) (by show b < _; omega)).trans (hcl 1 _ (marked_at hM (i := i) (by omega) (by omega) (by simpa [sncellsKinds, mkv] using hx1)))
      have c2 : wr.cell? ⟨b, o + i * 6 + 2, none⟩ = some (.string x2) := (HB.out.cell (p := ⟨b, o + i * 6 + 2, none⟩) (by show b < _; omega)).trans (hcl 2 _ (marked_at hM (i := i) (by omega) (by omega) (by simpa [sncellsKinds, mkv] using hx2)))
      have c3 : wr.cell? ⟨b, o + i * 6 + 3, none⟩ = some (.int .i64 (q + 1 + 1 + 1)) := (HB.out.cell (p := ⟨b, o + i * 6 + 3, none⟩) (by show b < _; omega)).trans (hcl 3 _ (marked_at hM (i := i) (by omega) (by omega) (by simp [sncellsKinds, mkv]; have := HQ.out; omega)))
      have c4 : wr.cell? ⟨b, o + i * 6 + 4, none⟩ = some (.string x4) := (HB.out.cell (p := ⟨b, o + i * 6 + 4, none⟩) (by show b < _; omega)).trans (hcl 4 _ (marked_at hM (i := i) (by omega) (by omega) (by simpa [sncellsKinds, mkv] using hx4)))
      have c5 : wr.cell? ⟨b, o + i * 6 + 5, none⟩ = some (.int .i64 (q + 1 + 1 + 1 + 1 + 1)) := (HB.out.cell (p := ⟨b, o + i * 6 + 5, none⟩) (by show b < _; omega)).trans (hcl 5 _ (marked_at hM (i := i) (by omega) (by omega) (by simp [sncellsKinds, mkv]; have := HQ.out; omega)))
      have hblt : b < wr.heap.size := by have := HB.out.size; omega
      clear hcl hM
      have HBx := HB
      all_goals go_wp2_with fail
      all_goals go_region_with (go_at_call 50; refine (HC0.out _).mono ?_; rintro e w1 ⟨rfl, hb⟩; have c0 := (hb.cell (p := ⟨b, o + i * 6, none⟩) hblt).trans c0; have c1 := (hb.cell (p := ⟨b, o + i * 6 + 1, none⟩) hblt).trans c1; have c2 := (hb.cell (p := ⟨b, o + i * 6 + 2, none⟩) hblt).trans c2; have c3 := (hb.cell (p := ⟨b, o + i * 6 + 3, none⟩) hblt).trans c3; have c4 := (hb.cell (p := ⟨b, o + i * 6 + 4, none⟩) hblt).trans c4; have c5 := (hb.cell (p := ⟨b, o + i * 6 + 5, none⟩) hblt).trans c5; replace HBx := hid (Below.trans (by first | exact HBx.out | exact HBx.out.drew) (hb.mono (by first | exact HBx.out.size | simpa using HBx.out.size))); replace hblt : b < w1.heap.size := (by have := hb.size; first | omega | (simp at this; omega)); clear hb)
      all_goals go_wp2_with fail
      all_goals go_region_with (go_at_call 50; refine (HC1.out _).mono ?_; rintro e w1 ⟨rfl, hb⟩; have c1 := (hb.cell (p := ⟨b, o + i * 6 + 1, none⟩) hblt).trans c1; have c2 := (hb.cell (p := ⟨b, o + i * 6 + 2, none⟩) hblt).trans c2; have c3 := (hb.cell (p := ⟨b, o + i * 6 + 3, none⟩) hblt).trans c3; have c4 := (hb.cell (p := ⟨b, o + i * 6 + 4, none⟩) hblt).trans c4; have c5 := (hb.cell (p := ⟨b, o + i * 6 + 5, none⟩) hblt).trans c5; replace HBx := hid (Below.trans (by first | exact HBx.out | exact HBx.out.drew) (hb.mono (by first | exact HBx.out.size | simpa using HBx.out.size))); replace hblt : b < w1.heap.size := (by have := hb.size; first | omega | (simp at this; omega)); clear hb)
      all_goals go_wp2_with fail
      all_goals go_region_with (go_at_call 50; refine (HC2.out _).mono ?_; rintro e w1 ⟨rfl, hb⟩; have c2 := (hb.cell (p := ⟨b, o + i * 6 + 2, none⟩) hblt).trans c2; have c3 := (hb.cell (p := ⟨b, o + i * 6 + 3, none⟩) hblt).trans c3; have c4 := (hb.cell (p := ⟨b, o + i * 6 + 4, none⟩) hblt).trans c4; have c5 := (hb.cell (p := ⟨b, o + i * 6 + 5, none⟩) hblt).trans c5; replace HBx := hid (Below.trans (by first | exact HBx.out | exact HBx.out.drew) (hb.mono (by first | exact HBx.out.size | simpa using HBx.out.size))); replace hblt : b < w1.heap.size := (by have := hb.size; first | omega | (simp at this; omega)); clear hb)
      all_goals go_wp2_with fail
      all_goals go_region_with (go_at_call 50; refine (HC4.out _).mono ?_; rintro e w1 ⟨rfl, hb⟩; have c4 := (hb.cell (p := ⟨b, o + i * 6 + 4, none⟩) hblt).trans c4; have c5 := (hb.cell (p := ⟨b, o + i * 6 + 5, none⟩) hblt).trans c5; replace HBx := hid (Below.trans (by first | exact HBx.out | exact HBx.out.drew) (hb.mono (by first | exact HBx.out.size | simpa using HBx.out.size))); replace hblt : b < w1.heap.size := (by have := hb.size; first | omega | (simp at this; omega)); clear hb)
      all_goals go_wp2_with fail
      all_goals
        go_roundw
        case rel => exact ⟨i + 1, _, rfl, by go_num, by omega, by omega, by omega, by have := HQ.out; show _ = _; rw [this]; omega, by first | exact HBx.out | exact HBx.out.drew⟩
        case measure => simp [intOf]; omega
    · obtain rfl : i = n := by omega
      go_wp2_with fail
      go_ret
      exact ⟨ret_int HQ.out, HB.out⟩
end Go.Proofs.YtlifaeleoiodkaaGreatDoor

/-
  RECORDS SENT: plain: what becomes of a record at its spots.
-/
namespace Go.Proofs.YtlifaeleoiodkaaGreatDoor
open Go.RowKit Nm
set_option linter.unusedSimpArgs false
set_option linter.unusedVariables false

/-- what becomes of a record at a spot -/
structure Oc where
  lg : List UInt8
  hd : List UInt8
  kd : Int
  lv : Int
def occells (nm tx : List UInt8) (sq : Int) (o : Oc) : List Value := [txt o.lg, txt o.hd, .int .i64 o.kd, txt nm, .int .i64 o.lv, txt tx, .int .i64 sq]
theorem occells_len (nm tx : List UInt8) (sq : Int) (o : Oc) : (occells nm tx sq o).length = 7 := rfl
/-- a handler is asked: the kind of the reason, the level as it goes on -/
def askH (nm tx : List UInt8) (h : Hnd) (lv : Int) : Int × Int :=
  if lv < h.lv then (5, lv) else match filtL nm tx h.fs lv with
    | none => (6, lv)
    | some q => (0, q)
theorem askH_low {nm tx : List UInt8} {h : Hnd} {lv : Int} (hq : lv < h.lv) : askH nm tx h lv = (5, lv) := by unfold askH; rw [if_pos hq]
theorem askH_drop {nm tx : List UInt8} {h : Hnd} {lv : Int} (hq : ¬ lv < h.lv) (hf : filtL nm tx h.fs lv = none) : askH nm tx h lv = (6, lv) := by unfold askH; rw [if_neg hq, hf]
theorem askH_sent {nm tx : List UInt8} {h : Hnd} {lv q : Int} (hq : ¬ lv < h.lv) (hf : filtL nm tx h.fs lv = some q) : askH nm tx h lv = (0, q) := by unfold askH; rw [if_neg hq, hf]
def lastH : Hnd := ⟨lastL, 30, []⟩
def hOf (H : List Hnd) (x : List UInt8) : Hnd := (H.find? fun h => decide (h.nm = x)).getD lastH
def outs (H : List Hnd) (nm tx : List UInt8) : List Spt → Int → List Oc
  | [], _ => []
  | s :: ss, lv => ⟨s.lg, s.hd, (askH nm tx (hOf H s.hd) lv).1, (askH nm tx (hOf H s.hd) lv).2⟩ :: outs H nm tx ss (askH nm tx (hOf H s.hd) lv).2
def lvAfter (H : List Hnd) (nm tx : List UInt8) : List Spt → Int → Int
  | [], lv => lv
  | s :: ss, lv => lvAfter H nm tx ss (askH nm tx (hOf H s.hd) lv).2
section
variable {H : List Hnd} {nm tx : List UInt8}
theorem outs_app (a b : List Spt) (lv : Int) : outs H nm tx (a ++ b) lv = outs H nm tx a lv ++ outs H nm tx b (lvAfter H nm tx a lv) := by
  induction a generalizing lv with
  | nil => rfl
  | cons s a ih =>
    show _ :: outs H nm tx (a ++ b) _ = _ :: (outs H nm tx a _ ++ _)
    rw [ih]; rfl
theorem lvAfter_app (a b : List Spt) (lv : Int) : lvAfter H nm tx (a ++ b) lv = lvAfter H nm tx b (lvAfter H nm tx a lv) := by
  induction a generalizing lv with
  | nil => rfl
  | cons s a ih => exact ih _
theorem outs_len (a : List Spt) (lv : Int) : (outs H nm tx a lv).length = a.length := by
  induction a generalizing lv with
  | nil => rfl
  | cons s a ih => show (outs H nm tx a _).length + 1 = a.length + 1; rw [ih]
theorem outs_step {ss : List Spt} {k : Nat} {s : Spt} {lv q : Int} (hx : ss[k]? = some s) (hq : lvAfter H nm tx (ss.take k) lv = q) :
    outs H nm tx (ss.take (k + 1)) lv = outs H nm tx (ss.take k) lv ++ [⟨s.lg, s.hd, (askH nm tx (hOf H s.hd) q).1, (askH nm tx (hOf H s.hd) q).2⟩] ∧ lvAfter H nm tx (ss.take (k + 1)) lv = (askH nm tx (hOf H s.hd) q).2 := by
  rw [List.take_add_one, hx]
  show outs H nm tx (ss.take k ++ [s]) lv = _ ∧ lvAfter H nm tx (ss.take k ++ [s]) lv = _
  rw [outs_app, lvAfter_app, hq]
  exact ⟨rfl, rfl⟩
theorem askH_range {h : Hnd} {lv : Int} (hf : filtersOk h.fs = true) (h1 : 1 ≤ lv) (h2 : lv ≤ 60) : 1 ≤ (askH nm tx h lv).2 ∧ (askH nm tx h lv).2 ≤ 60 := by
  unfold askH
  split
  · exact ⟨h1, h2⟩
  · cases e : filtL nm tx h.fs lv with
    | none => exact ⟨h1, h2⟩
    | some q =>
      unfold filtersOk at hf
      rw [Bool.and_eq_true] at hf
      exact filtL_range hf.1 h1 h2 e
theorem askH_kind (h : Hnd) (lv : Int) : (askH nm tx h lv).1 = 5 ∨ (askH nm tx h lv).1 = 6 ∨ (askH nm tx h lv).1 = 0 := by
  unfold askH
  split
  · exact .inl rfl
  · cases e : filtL nm tx h.fs lv with
    | none => exact .inr (.inl rfl)
    | some q => exact .inr (.inr rfl)
theorem hOf_ok {L : List Lgr} {q : Int} (ht : treeOk L H q = true) (x : List UInt8) : filtersOk (hOf H x).fs = true := by
  unfold hOf
  cases e : H.find? fun h => decide (h.nm = x) with
  | none => rfl
  | some h =>
    have hm := List.mem_of_find?_eq_some e
    unfold treeOk hndsOk at ht
    simp only [Bool.and_eq_true, List.all_eq_true] at ht
    have := ht.2.1.1 h hm
    unfold hndOk at this
    simp only [Bool.and_eq_true] at this
    exact this.2.2.2
theorem hOf_name {x : List UInt8} {h : Hnd} (e : H.find? (fun h => decide (h.nm = x)) = some h) : hOf H x = h ∧ h.nm = x := by
  unfold hOf
  rw [e]
  exact ⟨rfl, by have := List.find?_some e; simpa using this⟩
end
theorem recOk_lv {nm tx : List UInt8} {lv q sq : Int} (h : recOk ⟨nm, lv, tx, sq⟩ = true) (h1 : 1 ≤ q) (h2 : q ≤ 60) : recOk ⟨nm, q, tx, sq⟩ = true := by
  unfold recOk at h ⊢
  simp only [Bool.and_eq_true, decide_eq_true_eq] at h ⊢
  exact ⟨h.1, h1, h2, h.2.2.2⟩
theorem recOk_rng {nm tx : List UInt8} {lv sq : Int} (h : recOk ⟨nm, lv, tx, sq⟩ = true) : 1 ≤ lv ∧ lv ≤ 60 ∧ nameOk nm = true := by
  unfold recOk at h; simp only [Bool.and_eq_true, decide_eq_true_eq] at h; exact ⟨h.2.1, h.2.2.1, h.1⟩
/-- the filters of the record's own logger -/
def ownF (L : List Lgr) (nm : List UInt8) : List Flt := if nm ∈ nsOf L then fsAt L (nearN (nsOf L) nm) else []
/-- the record's logger: the kind of the reason, the level as it goes on -/
def entX (L : List Lgr) (q : Int) (nm tx : List UInt8) (lv : Int) : Int × Int :=
  if offT L nm then (1, lv) else if lv ≤ q then (2, lv) else if lv < levelN (nsOf L) (lvAt L) nm then (3, lv) else match filtL nm tx (ownF L nm) lv with
    | none => (4, lv)
    | some v => (0, v)
def spX (L : List Lgr) (nm : List UInt8) : List Spt := if spotsI L (pathN (nsOf L) nm) = [] then [⟨[], lastL⟩] else spotsI L (pathN (nsOf L) nm)
def ocX (L : List Lgr) (H : List Hnd) (q : Int) (r : Rec) : List Oc :=
  if treeOk L H q && recOk r then
    (if (entX L q r.nm r.tx r.lv).1 = 0 then outs H r.nm r.tx (spX L r.nm) (entX L q r.nm r.tx r.lv).2 else [⟨[], [], (entX L q r.nm r.tx r.lv).1, (entX L q r.nm r.tx r.lv).2⟩])
  else []
def sent1 (nm tx : List UInt8) (sq : Int) (o : Oc) : Snt := ⟨o.lg, o.hd, ⟨nm, o.lv, tx, sq⟩⟩
def sentOf (nm tx : List UInt8) (sq : Int) (l : List Oc) : List Snt := (l.filter fun o => o.kd == 0).map (sent1 nm tx sq)
def whyOf (l : List Oc) : List Rsn := l.map fun o => ⟨o.kd, o.lg, o.hd⟩
def sendX (L : List Lgr) (H : List Hnd) (q : Int) (r : Rec) : List Snt := sentOf r.nm r.tx r.sq (ocX L H q r)
def whyX (L : List Lgr) (H : List Hnd) (q : Int) (r : Rec) : List Rsn := whyOf (ocX L H q r)
theorem sentOf_app (nm tx : List UInt8) (sq : Int) (a b : List Oc) : sentOf nm tx sq (a ++ b) = sentOf nm tx sq a ++ sentOf nm tx sq b := by simp [sentOf]
theorem whyOf_app (a b : List Oc) : whyOf (a ++ b) = whyOf a ++ whyOf b := by simp [whyOf]
theorem sentOf_len (nm tx : List UInt8) (sq : Int) (a : List Oc) : (sentOf nm tx sq a).length ≤ a.length := by
  unfold sentOf; rw [List.length_map]; exact List.length_filter_le _ _
theorem ent_range {L : List Lgr} {H : List Hnd} {q t : Int} {nm tx : List UInt8} {lv : Int} (ht : treeOk L H t = true) (h1 : 1 ≤ lv) (h2 : lv ≤ 60) : 1 ≤ (entX L q nm tx lv).2 ∧ (entX L q nm tx lv).2 ≤ 60 := by
  unfold entX
  split
  · exact ⟨h1, h2⟩
  split
  · exact ⟨h1, h2⟩
  split
  · exact ⟨h1, h2⟩
  cases e : filtL nm tx (ownF L nm) lv with
  | none => exact ⟨h1, h2⟩
  | some v =>
    refine filtL_range (?_ : (ownF L nm).all fltOk = true) h1 h2 e
    unfold ownF
    split
    · unfold fsAt
      by_cases hk : nearN (nsOf L) nm < L.length
      · have e2 : (L.map (·.fs)).getD (nearN (nsOf L) nm) [] = L[nearN (nsOf L) nm].fs := by simp [List.getD, hk]
        rw [e2]
        unfold treeOk lgrsOk at ht
        simp only [Bool.and_eq_true, List.all_eq_true] at ht
        have := ht.2.2.1 _ (List.getElem_mem hk)
        unfold lgrOk filtersOk at this
        simp only [Bool.and_eq_true] at this
        exact this.2.2.1.1
      · simp [List.getD, hk]
    · rfl
end Go.Proofs.YtlifaeleoiodkaaGreatDoor
