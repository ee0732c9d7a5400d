/-
  FR0, GSpot, Spots, GReason, GRecord, GSent, SN0 laid together.
-/
import Derived.Test.YtioegkcekbkblaaGreatZyHelps
import Derived.Test.YtioegkcekbkblaaGreatZyLookS
/-
  FILTERS ASKED: plain: what becomes of a record's level behind filters.
-/
namespace Go.Proofs.YtioegkcekbkblaaGreat
open Go.RowKit Nm
set_option linter.unusedSimpArgs false
set_option linter.unusedVariables false

/-- a word is one of a text's -/
def hasW (tx wd : List UInt8) : Bool := decide (wd ∈ splitB 32 tx)
/-- one filter: the level behind it, if the record passes -/
def passF (nm tx : List UInt8) (f : Flt) (lv : Int) : Option Int :=
  if f.k = 0 then (if belowL nm f.nm then some lv else none)
  else if f.k = 1 then (if lv ≤ f.n then some lv else none)
  else if f.k = 2 then (if hasW tx f.nm then none else some lv)
  else if f.k = 3 then some (if lv < f.n then f.n else lv) else some lv
def filtL (nm tx : List UInt8) : List Flt → Int → Option Int
  | [], lv => some lv
  | f :: fs, lv => (passF nm tx f lv).bind (filtL nm tx fs)
theorem filtL_app (nm tx : List UInt8) (a b : List Flt) (lv : Int) : filtL nm tx (a ++ b) lv = (filtL nm tx a lv).bind (filtL nm tx b) := by
  induction a generalizing lv with
  | nil => rfl
  | cons f a ih =>
    show (passF nm tx f lv).bind (filtL nm tx (a ++ b)) = ((passF nm tx f lv).bind (filtL nm tx a)).bind _
    cases passF nm tx f lv with
    | none => rfl
    | some v => exact ih v
theorem filtL_step {nm tx : List UInt8} {fs : List Flt} {k : Nat} {f : Flt} {lv q : Int} (hx : fs[k]? = some f) (h : filtL nm tx (fs.take k) lv = some q) : filtL nm tx (fs.take (k + 1)) lv = passF nm tx f q := by
  rw [List.take_add_one, hx, filtL_app, h]
  show (passF nm tx f q).bind (filtL nm tx []) = _
  cases passF nm tx f q <;> rfl
theorem filtL_dead {nm tx : List UInt8} {fs : List Flt} {k : Nat} {lv : Int} (h : filtL nm tx (fs.take k) lv = none) : filtL nm tx fs lv = none := by
  conv => lhs; rw [← List.take_append_drop k fs]
  rw [filtL_app, h]; rfl
theorem passF_range {nm tx : List UInt8} {f : Flt} {lv q : Int} (hf : fltOk f = true) (h1 : 1 ≤ lv) (h2 : lv ≤ 60) (h : passF nm tx f lv = some q) : 1 ≤ q ∧ q ≤ 60 := by
  unfold passF at h
  split at h
  · split at h <;> (cases h; try exact ⟨h1, h2⟩)
  · split at h
    · split at h <;> (cases h; try exact ⟨h1, h2⟩)
    · split at h
      · split at h <;> (cases h; try exact ⟨h1, h2⟩)
      · split at h
        · rename_i a b c d
          cases h
          unfold fltOk at hf
          rw [if_neg a, if_neg c, if_pos (.inr d)] at hf
          simp only [Bool.and_eq_true, decide_eq_true_eq] at hf
          split <;> omega
        · cases h; exact ⟨h1, h2⟩
theorem filtL_range {nm tx : List UInt8} {fs : List Flt} {lv q : Int} (hf : fs.all fltOk = true) (h1 : 1 ≤ lv) (h2 : lv ≤ 60) (h : filtL nm tx fs lv = some q) : 1 ≤ q ∧ q ≤ 60 := by
  induction fs generalizing lv with
  | nil => cases h; exact ⟨h1, h2⟩
  | cons f fs ih =>
    rw [List.all_cons, Bool.and_eq_true] at hf
    unfold filtL at h
    cases e : passF nm tx f lv with
    | none => rw [e] at h; cases h
    | some v =>
      rw [e] at h
      obtain ⟨a, b⟩ := passF_range hf.1 h1 h2 e
      exact ih hf.2 a b h
end Go.Proofs.YtioegkcekbkblaaGreat

/-
  Spot: how slices of them lie in memory, and the walks of what the laws do with them (sized, copied, compared, marked, held). By gen_flat.py.
-/
namespace Go.Proofs.YtioegkcekbkblaaGreat
open Go.RowKit Nm
set_option linter.unusedSimpArgs false
set_option linter.unusedVariables false

structure Spt where
  lg : List UInt8
  hd : List UInt8
deriving DecidableEq
def spcells (x : Spt) : List Value := [txt x.lg, txt x.hd]
theorem spcells_len (x : Spt) : (spcells x).length = 2 := rfl
def spcellsFit (x : Spt) : Prop := x.lg.length ≤ maxTxt ∧ x.hd.length ≤ maxTxt
def Sps (w : World) (B n : Nat) (v : Value) (l : List Spt) : Prop := Sl w B 2 n v (l.flatMap spcells) ∧ ∀ x ∈ l, spcellsFit x
section
variable {w w' : World} {B B' n : Nat} {v : Value} {l : List Spt}
theorem Sps.below (h : Sps w B n v l) (hb : Below B' w w') (hB : B ≤ B') : Sps w' B n v l := ⟨h.1.below hb hB, h.2⟩
theorem Sps.more (h : Sps w B n v l) (hB : B ≤ B') : Sps w B' n v l := ⟨h.1.more hB, h.2⟩
theorem Sps.count (h : Sps w B n v l) : l.length = n := Sl.count spcells_len h.1 (by omega)
end
/-- element k: its cells -/
theorem spcells_at {w : World} {B n c : Nat} {A : Option Addr} {l : List Spt} (h : Sl w B 2 n (.slice A n c) (l.flatMap spcells)) {k : Nat} (hk : k < n) :
    ∃ (b o : Nat) (lg : ByteArray) (hd : ByteArray), A = some ⟨b, o, none⟩ ∧ b < B ∧ l[k]? = some ⟨lg.data.toList, hd.data.toList⟩ ∧ w.cell? ⟨b, o + k * 2, none⟩ = some (.string lg) ∧ w.cell? ⟨b, o + k * 2 + 1, none⟩ = some (.string hd) := by
  obtain ⟨b, o, x, e, hb, hx, hc⟩ := Sl.elem spcells_len h (by omega) hk
  obtain ⟨lg, hd⟩ := x
  exact ⟨b, o, ⟨lg.toArray⟩, ⟨hd.toArray⟩, e, hb, by simpa using hx, hc 0 _ rfl, hc 1 _ rfl⟩
theorem Tryz.infoSpot : (Tryz.prog.info? 43).map (fun i => (i.zero, i.size, i.bytes)) = some (some (.agg #[.string ByteArray.empty, .string ByteArray.empty]), 2, 32) := by kernel_rfl

/-- append of one Spot -/
theorem appSpot (w : World) {ops : Array Oper} {rest : List Oper} {o : Oper} {a : Act} {Q : Exit → Act → World → Prop} (hg : o.guard = none) (s x : Operand)
    (ho : o.op = .call { callee := .builtin .append, args := #[s, x], argTypes := #[38, 38] }) (base : Nat) (v : Value) (l : List Spt) (hs : a.eval s = v)
    (hown : w.ownsRow base 43 2 v l.length (l.flatMap spcells)) (lg : ByteArray) (hd : ByteArray) (b0 c : Nat) (te : TypeId) (hx : a.eval x = .slice (some ⟨b0, 0, none⟩) 1 c) (hb0 : b0 = w.heap.size) (hl : l.length ≤ 1048576) (hbase : base ≤ w.heap.size)
    (h : ∀ v' w', w'.ownsRow base 43 2 v' (l ++ [(⟨lg.data.toList, hd.data.toList⟩ : Spt)]).length ((l ++ [(⟨lg.data.toList, hd.data.toList⟩ : Spt)]).flatMap spcells) → Below base w w' → wpList Tryz.prog ops Q rest (a.put o.dst v') w') :
    wpList Tryz.prog ops Q (o :: rest) a (w.alloc (.cells #[.string lg, .string hd] te)) := by
  subst hb0
  obtain ⟨i0, hi, hz0, hz1, hz2⟩ := info_parts Tryz.infoSpot
  refine wpList_app1 w hg s x 38 ho base 43 i0 _ 2 32 Tryz.underlying38 hi hz0 hz1 hz2 rfl (by decide) v l.length _ hs hown [.string lg, .string hd] c te hx rfl (List.all_eq_true.1 rfl) (by unfold maxLen; omega) (by omega) hbase fun v' w' h1 h2 => h v' w' ?_ h2
  simpa [spcells, txt_data] using h1

end Go.Proofs.YtioegkcekbkblaaGreat

/-
  U3, U4, U5, U6 laid together.
-/
namespace Go.Proofs.YtioegkcekbkblaaGreat
open Go.RowKit Nm
set_option linter.unusedSimpArgs false
set_option linter.unusedVariables false

theorem nodup_len {α : Type} [DecidableEq α] : ∀ (a b : List α), a.Nodup → (∀ x ∈ a, x ∈ b) → a.length ≤ b.length := by
  intro a
  induction a with
  | nil => intro b _ _; simp
  | cons x a ih =>
    intro b hn hs
    rw [List.nodup_cons] at hn
    have hx : x ∈ b := hs x (List.mem_cons_self ..)
    have h1 := ih (b.erase x) hn.2 (fun y hy => (List.mem_erase_of_ne (fun e => hn.1 (by rw [← e]; exact hy))).2 (hs y (List.mem_cons_of_mem _ hy)))
    rw [List.length_erase_of_mem hx] at h1
    have : 0 < b.length := List.length_pos_of_mem hx
    rw [List.length_cons]; omega
theorem lgr_hs_len {L : List Lgr} {H : List Hnd} {q : Int} (h : treeOk L H q = true) {l : Lgr} (hl : l ∈ L) : l.hs.length ≤ 6 := by
  unfold treeOk hndsOk lgrsOk at h
  simp only [Bool.and_eq_true, decide_eq_true_eq, List.all_eq_true] at h
  have h1 := h.2.2.1 l hl
  unfold lgrOk at h1
  simp only [Bool.and_eq_true, decide_eq_true_eq, List.all_eq_true] at h1
  have h2 := nodup_len l.hs (H.map (·.nm)) h1.2.2.2.2 (fun x hx => by
    have h3 := h1.2.2.2.1 x hx
    unfold hasL at h3
    obtain ⟨y, hy, e⟩ := List.any_eq_true.1 h3
    exact List.mem_map.2 ⟨y, hy, of_decide_eq_true e⟩)
  rw [List.length_map] at h2
  have := h.2.1.2.2
  omega
theorem hsAt_len {L : List Lgr} {H : List Hnd} {q : Int} (h : treeOk L H q = true) (i : Nat) : (hsAt L i).length ≤ 6 := by
  unfold hsAt
  by_cases hi : i < L.length
  · have e : (L.map (·.hs)).getD i [] = L[i].hs := by simp [List.getD, hi]
    rw [e]; exact lgr_hs_len h (List.getElem_mem hi)
  · have e : (L.map (·.hs)).getD i [] = [] := by simp [List.getD, Nat.le_of_not_lt hi]
    rw [e]; simp
/-- the spots of logger i alone: the first m -/
def ownK (L : List Lgr) (i m : Nat) : List Spt := ((hsAt L i).take m).map fun h => ⟨(nsOf L).getD i [], h⟩
def ownS (L : List Lgr) (i : Nat) : List Spt := (hsAt L i).map fun h => ⟨(nsOf L).getD i [], h⟩
theorem ownK_zero (L : List Lgr) (i : Nat) : ownK L i 0 = [] := rfl
theorem ownK_step {L : List Lgr} {i m : Nat} {x : Name} (h : (hsAt L i)[m]? = some x) : ownK L i (m + 1) = ownK L i m ++ [⟨(nsOf L).getD i [], x⟩] := by
  unfold ownK; rw [List.take_add_one, h, List.map_append]; rfl
theorem ownK_all {L : List Lgr} {i m : Nat} (h : (hsAt L i).length ≤ m) : ownK L i m = ownS L i := by unfold ownK ownS; rw [List.take_of_length_le h]
theorem ownK_len (L : List Lgr) (i m : Nat) : (ownK L i m).length ≤ m := by unfold ownK; rw [List.length_map, List.length_take]; omega
/-- the spots of the loggers of a path, up to one with Stop -/
def spotsI (L : List Lgr) : List Nat → List Spt
  | [] => []
  | i :: r => ownS L i ++ (if stopAt L i then [] else spotsI L r)
theorem spotsI_len {L : List Lgr} (h : ∀ i, (hsAt L i).length ≤ 6) (pl : List Nat) : (spotsI L pl).length ≤ 6 * pl.length := by
  induction pl with
  | nil => simp [spotsI]
  | cons i r ih =>
    unfold spotsI ownS
    rw [List.length_append, List.length_map, List.length_cons]
    have := h i
    split
    · simp; omega
    · omega
def spotsT (L : List Lgr) (H : List Hnd) (q : Int) (x : Name) : List Spt := if treeOk L H q && nameOk x then spotsI L (pathN (nsOf L) x) else []
theorem spotsT_len (L : List Lgr) (H : List Hnd) (q : Int) (x : Name) : (spotsT L H q x).length ≤ 30 := by
  unfold spotsT
  split
  · rename_i h
    simp only [Bool.and_eq_true] at h
    have h1 := spotsI_len (hsAt_len h.1) (pathN (nsOf L) x)
    have h2 : (pathN (nsOf L) x).length ≤ 5 := pathF_len _ _ _
    omega
  · simp
/-- what is left of the spots at a node -/
def spotsR (L : List Lgr) (f : Nat) : Option Nat → List Spt
  | none => []
  | some k => spotsI L (pathF (nsOf L) f k)
theorem spotsR_len {L : List Lgr} (h : ∀ i, (hsAt L i).length ≤ 6) (f k : Nat) : (spotsI L (pathF (nsOf L) 4 k)).length ≤ 30 := by
  have h1 := spotsI_len h (pathF (nsOf L) 4 k)
  have h2 : (pathF (nsOf L) 4 k).length ≤ 5 := pathF_len _ _ _
  omega
end Go.Proofs.YtioegkcekbkblaaGreat

/-
  SPOTS: the program's SpotsOf; an append of a spot as a run.
-/
namespace Go.Proofs.YtioegkcekbkblaaGreat
open Go.RowKit Nm
set_option linter.unusedSimpArgs false
set_option linter.unusedVariables false

set_option maxHeartbeats 4000000 in
set_option maxRecDepth 100000 in
theorem implSpotsOf_c {w : World} {B : Nat} {v : Value} {L : List Lgr} {H : List Hnd} {q : Int} (x : ByteArray) (h : TreeIn w B v L H q) (hB : B ≤ w.heap.size) (hx : x.size ≤ maxLen) :
    Calls Tryz.prog 18 #[v, .string x] w (RowPost w 43 2 (spotsT L H q x.data.toList).length ((spotsT L H q x.data.toList).flatMap spcells)) := by
  cases hz : (treeOk L H q && nameOk x.data.toList) with
  | false =>
    have C := hid (fun (W : World) (hW : Below w.heap.size w W) => implNode_no x (h.below hW hB) (Nat.le_trans hB hW.size) hx hz)
    have HE := hid (show spotsT L H q x.data.toList = [] by unfold spotsT; rw [hz]; rfl)
    obtain ⟨A1, n1, k1, A2, n2, k2, rfl⟩ := h.form
    clear h hz
    go_enter Tryz.func18, Tryz.ntmps18
    go_wp2_with fail
    refine (C.out _ ?_).mono ?_
    case refine_1 => go_grown
    rintro e w1 ⟨rfl, hb1⟩
    have HB1 := hid (Below.trans (by go_grown) (hb1.mono (by simp; try omega)) : Below w.heap.size w w1)
    clear hb1
    go_wp2_with fail
    go_loopw [5, 6] (fun sv nv wr => sv = .slice none 0 0 ∧ nv = .pointer none ∧ wr = w1) (fun _ _ _ => 0)
    case atStart => exact ⟨rfl, rfl, rfl⟩
    case round =>
      obtain ⟨rfl, rfl, rfl⟩ := hrel
      go_wp2_with fail
      go_ret
      exact ⟨_, rfl, by rw [HE.out]; exact World.ownsRow_nil _ _ _ _, HB1.out⟩
  | true =>
    have hz' := hz
    simp only [Bool.and_eq_true] at hz'
    obtain ⟨b, o, n1, k1, A2, n2, k2, ls, rfl, hl, hL, hN, hn, hn8, hn1, hbB⟩ := h.opened hz'.1
    have C := hid (fun (W : World) (hW : Below w.heap.size w W) => implNode_yes x (h.below hW hB) (hl.below hW hB) hn8 hN (Nat.le_trans hB hW.size) hz'.2 hz'.1)
    obtain ⟨h0, hnd, hnm, _⟩ := tree_ns hz'.1
    have HE := hid (show spotsT L H q x.data.toList = spotsR L 4 (some (nearN (nsOf L) x.data.toList)) by unfold spotsT; rw [hz]; rfl)
    have hlen : (nsOf L).length = n1 := by unfold nsOf; rw [List.length_map, hn]
    have HH := hid (hsAt_len hz'.1)
    have HV := hid (And.intro hl (And.intro hL (And.intro hlen (And.intro h0 (And.intro hnm hbB)))))
    have hlt : nearN (nsOf L) x.data.toList < n1 := by rw [← hlen]; exact near_lt h0 _
    clear h hz hz' hl hN h0 hnd hnm hn hlen hL
    generalize hk : nearN (nsOf L) x.data.toList = k0 at *
    clear hk
    have hle30 := spotsR_len HH.out 4 k0
    have H30 := hid hle30
    clear hle30
    go_enter Tryz.func18, Tryz.ntmps18
    go_wp2_with fail
    refine (C.out _ ?_).mono ?_
    case refine_1 => go_grown
    rintro e w1 ⟨nb, rfl, hNd, hb1⟩
    have HB1 := hid (Below.trans (by go_grown) (hb1.mono (by simp; try omega)) : Below w.heap.size w w1)
    have HNd := hid hNd
    clear hb1 hNd
    go_wp2_with fail
    go_loopg [5, 6] 5 (fun g sv nv wr => ∃ (ov : Option Nat) (f : Nat) (pre : List Spt), nv = nodePtr nb ov ∧ (ov = none ∨ f + 1 = g) ∧ Hid (∀ k, ov = some k → k < n1 ∧ depthN (nsOf L) k ≤ f) ∧ wr.ownsRow w1.heap.size 43 2 sv pre.length (pre.flatMap spcells) ∧ Hid (pre ++ spotsR L f ov = spotsR L 4 (some k0)) ∧ Hid (Below w1.heap.size w1 wr))
    case atStart => exact ⟨some k0, 4, [], rfl, .inr rfl, fun k hk => by cases hk; exact ⟨hlt, depth_le HV.out.2.2.2.2.1 _⟩, World.ownsRow_nil _ _ _ _, rfl, Below.refl _ _⟩
    case round =>
      obtain ⟨ov, f, pre, rfl, hg, HK, hown, HE2, HBx⟩ := hrel
      obtain ⟨Ax, cx, rfl, _, _⟩ := (Sl.of_own hown).form
      have HO := hid hown
      clear hown
      cases ov with
      | none =>
        have HF := hid (show spotsT L H q x.data.toList = pre by rw [HE.out, ← HE2.out]; simp [spotsR])
        simp only [nodePtr, Option.map_none]
        go_wp2_with fail
        go_ret
        exact ⟨_, rfl, by rw [HF.out]; exact own_base HO.out HB1.out.size, HB1.out.trans (HBx.out.mono HB1.out.size)⟩
      | some k =>
        rcases hg with hg | hg
        · cases hg
        subst hg
        have HW := hid (HB1.out.trans (HBx.out.mono HB1.out.size))
        obtain ⟨hk, hd⟩ := HK.out k rfl
        have hbw : b < w.heap.size := by have := HV.out.2.2.2.2.2; omega
        obtain ⟨p, A3, hn', k3, A4, fn, k4, hp, hps, ht, _, g0, _, g2, _, g4, _⟩ := logger_at HV.out.1 HV.out.2.1 hk
        obtain ⟨m0, m1, m2, mlt⟩ := node_at HNd.out (k := k) (by rw [HV.out.2.2.1]; exact hk)
        have n0 := (HBx.out.cell (p := ⟨nb k, 0, none⟩) mlt).trans m0
        have c2 := (HW.out.cell (p := ⟨b, o + k * 6 + 2, none⟩) hbw).trans g2
        have HM := hid (And.intro m0 (And.intro m1 (And.intro m2 mlt)))
        have htl := ht.count
        have hcap := ht.1.cap
        unfold maxLen at hcap
        have hpl : pre.length ≤ 30 := by
          have e1 := congrArg List.length HE2.out
          rw [List.length_append] at e1
          have := H30.out
          simp only [spotsR] at e1
          omega
        have hn6 : hn' ≤ 6 := by have := HH.out k; omega
        have HP := hid (And.intro hp hps)
        have HD := hid hd
        have HT := hid (And.intro ht htl)
        have HC := hid (And.intro g0 (And.intro g2 g4))
        have hszz : w.heap.size ≤ w1.heap.size := HB1.out.size
        have HPl := hid hpl
        clear m0 m1 m2 mlt hp hps hd ht htl g0 g2 g4 hpl
        simp only [nodePtr, Option.map_some]
        obtain ⟨wo, hwo⟩ : ∃ wo, wo = wr := ⟨_, rfl⟩
        subst hwo
        go_wp2_with fail
        go_loopw [5, 26] (fun sv jv wr => ∃ (j : Nat) (cur : List Spt), jv = .int .i64 j ∧ j ≤ hn' ∧ Hid (cur = pre ++ ownK L k j) ∧ wr.ownsRow w1.heap.size 43 2 sv cur.length (cur.flatMap spcells) ∧ Hid (Below w1.heap.size w1 wr)) (fun _ jv _ => hn' - (intOf jv).toNat)
        case atStart => exact ⟨0, pre, rfl, by omega, (show _ = _ by rw [ownK_zero, List.append_nil]), HO.out, HBx.out⟩
        case round =>
          obtain ⟨j, cur, rfl, hj, HCu, hown, HBs⟩ := hrel
          obtain ⟨Ay, cy, rfl, _, _⟩ := (Sl.of_own hown).form
          have HOj := hid hown
          have HWj := hid (HB1.out.trans (HBs.out.mono HB1.out.size))
          have n0' := (HBs.out.cell (p := ⟨nb k, 0, none⟩) HM.out.2.2.2).trans HM.out.1
          have e4 := (HWj.out.cell (p := ⟨b, o + k * 6 + 4, none⟩) hbw).trans HC.out.2.2
          clear hown n0 c2
          by_cases hjn : j < hn'
          · obtain ⟨bt, ot, s, rfl, hbt, hxs, hss, gt⟩ := HT.out.1.text hjn
            have hbtw : bt < w.heap.size := by omega
            have et := (HWj.out.cell (p := ⟨bt, ot + j, none⟩) hbtw).trans gt
            have e0 := (HWj.out.cell (p := ⟨b, o + k * 6, none⟩) hbw).trans HC.out.1
            have hlj : cur.length ≤ 1048576 := by
              rw [HCu.out, List.length_append]
              have := ownK_len L k j
              have := HPl.out
              omega
            have HX := hid hxs
            clear hxs hss gt e4
            go_wp2_with (at_builtin; refine appSpot _ rfl (.tmp 30) (.tmp 40) rfl w1.heap.size _ cur (by rfl) HOj.out p s _ _ _ (by rfl) (by simp) hlj HBs.out.size ?_)
            intro v' w2 ho2 hb2
            have HO2 := hid ho2
            have HB2 := hid (HBs.out.trans hb2)
            clear ho2 hb2
            go_wp2_with fail
            go_roundw
            case rel =>
              refine ⟨j + 1, cur ++ [⟨p.data.toList, s.data.toList⟩], by go_num, by omega, ?_, by simpa using HO2.out, HB2.out⟩
              show _ = _
              rw [ownK_step HX.out, ← List.append_assoc, ← HP.out.1, HCu.out]
            case measure => simp [intOf]; omega
          · obtain rfl : j = hn' := by omega
            have hoK : ownK L k j = ownS L k := ownK_all (by have := HT.out.2; omega)
            have HCL := hid (show cur = pre ++ ownS L k by rw [HCu.out, hoK])
            clear hoK
            cases hst : stopAt L k with
            | true =>
              rw [hst] at e4
              have HF := hid (show spotsT L H q x.data.toList = cur by
                rw [HCL.out, HE.out, ← HE2.out, spotsR]
                cases f <;> simp only [pathF] <;> (try split) <;> simp [spotsI, hst])
              go_wp2_with fail
              go_ret
              exact ⟨_, rfl, by rw [HF.out]; exact own_base HOj.out HB1.out.size, HWj.out⟩
            | false =>
              rw [hst] at e4
              by_cases h0 : (nsOf L).getD k [] = []
              · have n1' := (HBs.out.cell (p := ⟨nb k, 1, none⟩) HM.out.2.2.2).trans (HM.out.2.1 h0)
                have HR := hid (pathF_root (f := f) h0)
                have HS := hid hst
                clear h0 hst
                go_wp2_with fail
                go_roundg f
                case measure => omega
                case rel =>
                  refine ⟨none, 0, cur, rfl, .inl rfl, fun _ h => by (cases h), HOj.out, ?_, HBs.out⟩
                  show _ = _
                  rw [← HE2.out, HCL.out, spotsR, spotsR, HR.out]; simp [spotsI, HS.out]
              · have n1' := (HBs.out.cell (p := ⟨nb k, 1, none⟩) HM.out.2.2.2).trans (HM.out.2.2.1 h0)
                obtain ⟨g, rfl, hpf⟩ := pathF_up (ns := nsOf L) (f := f) (k := k) h0 HD.out
                have HF := hid hpf
                have HU := hid (show upN (nsOf L) k < n1 ∧ depthN (nsOf L) (upN (nsOf L) k) ≤ g by
                  refine ⟨by rw [← HV.out.2.2.1]; exact near_lt HV.out.2.2.2.1 _, ?_⟩
                  have := depth_up HV.out.2.2.2.1 HV.out.2.2.2.2.1 (k := k) (by rw [HV.out.2.2.1]; exact hk) h0
                  have := HD.out
                  omega)
                have HS := hid hst
                clear h0 hpf hst
                go_wp2_with fail
                go_roundg (g + 1)
                case measure => omega
                case rel =>
                  refine ⟨some (upN (nsOf L) k), g, cur, rfl, .inr rfl, fun k' hk' => by cases hk'; exact HU.out, HOj.out, ?_, HBs.out⟩
                  show _ = _
                  rw [← HE2.out, HCL.out, spotsR, spotsR, HF.out]; simp [spotsI, HS.out]
end Go.Proofs.YtioegkcekbkblaaGreat

/-
  SPOTS: the model's.
-/
namespace Go.Proofs.YtioegkcekbkblaaGreat
open Go.RowKit Nm
set_option linter.unusedSimpArgs false
set_option linter.unusedVariables false

end Go.Proofs.YtioegkcekbkblaaGreat

/-
  SPOTS: the model's SpotsOf.
-/
namespace Go.Proofs.YtioegkcekbkblaaGreat
open Go.RowKit Nm
set_option linter.unusedSimpArgs false
set_option linter.unusedVariables false

end Go.Proofs.YtioegkcekbkblaaGreat

/-
  Reason: how slices of them lie in memory, and the walks of what the laws do with them (sized, copied, compared, marked, held). By gen_flat.py.
-/
namespace Go.Proofs.YtioegkcekbkblaaGreat
open Go.RowKit Nm
set_option linter.unusedSimpArgs false
set_option linter.unusedVariables false

structure Rsn where
  kd : Int
  lg : List UInt8
  hd : List UInt8
deriving DecidableEq
def rscells (x : Rsn) : List Value := [.int .i64 x.kd, txt x.lg, txt x.hd]
theorem rscells_len (x : Rsn) : (rscells x).length = 3 := rfl
def rscellsFit (x : Rsn) : Prop := x.lg.length ≤ maxTxt ∧ x.hd.length ≤ maxTxt
def Rsns (w : World) (B n : Nat) (v : Value) (l : List Rsn) : Prop := Sl w B 3 n v (l.flatMap rscells) ∧ ∀ x ∈ l, rscellsFit x
section
variable {w w' : World} {B B' n : Nat} {v : Value} {l : List Rsn}
theorem Rsns.below (h : Rsns w B n v l) (hb : Below B' w w') (hB : B ≤ B') : Rsns w' B n v l := ⟨h.1.below hb hB, h.2⟩
theorem Rsns.more (h : Rsns w B n v l) (hB : B ≤ B') : Rsns w B' n v l := ⟨h.1.more hB, h.2⟩
theorem Rsns.count (h : Rsns w B n v l) : l.length = n := Sl.count rscells_len h.1 (by omega)
end
end Go.Proofs.YtioegkcekbkblaaGreat

/-
  Record: how slices of them lie in memory, and the walks of what the laws do with them (sized, copied, compared, marked, held). By gen_flat.py.
-/
namespace Go.Proofs.YtioegkcekbkblaaGreat
open Go.RowKit Nm
set_option linter.unusedSimpArgs false
set_option linter.unusedVariables false

theorem rcells_len (x : Rec) : (rcells x).length = 4 := rfl
def rcellsFit (x : Rec) : Prop := x.nm.length ≤ maxTxt ∧ x.tx.length ≤ maxTxt
def Rs (w : World) (B n : Nat) (v : Value) (l : List Rec) : Prop := Sl w B 4 n v (l.flatMap rcells) ∧ ∀ x ∈ l, rcellsFit x
section
variable {w w' : World} {B B' n : Nat} {v : Value} {l : List Rec}
theorem Rs.below (h : Rs w B n v l) (hb : Below B' w w') (hB : B ≤ B') : Rs w' B n v l := ⟨h.1.below hb hB, h.2⟩
theorem Rs.more (h : Rs w B n v l) (hB : B ≤ B') : Rs w B' n v l := ⟨h.1.more hB, h.2⟩
theorem Rs.count (h : Rs w B n v l) : l.length = n := Sl.count rcells_len h.1 (by omega)
end
def rcellsKinds : List Bool := [true, false, true, false]

end Go.Proofs.YtioegkcekbkblaaGreat

/-
  Sent: how slices of them lie in memory, and the walks of what the laws do with them (sized, copied, compared, marked, held). By gen_flat.py.
-/
namespace Go.Proofs.YtioegkcekbkblaaGreat
open Go.RowKit Nm
set_option linter.unusedSimpArgs false
set_option linter.unusedVariables false

structure Snt where
  lg : List UInt8
  hd : List UInt8
  rc : Rec
deriving DecidableEq
def sncells (x : Snt) : List Value := [txt x.lg, txt x.hd, txt x.rc.nm, .int .i64 x.rc.lv, txt x.rc.tx, .int .i64 x.rc.sq]
theorem sncells_len (x : Snt) : (sncells x).length = 6 := rfl
def sncellsFit (x : Snt) : Prop := x.lg.length ≤ maxTxt ∧ x.hd.length ≤ maxTxt ∧ x.rc.nm.length ≤ maxTxt ∧ x.rc.tx.length ≤ maxTxt
def Snts (w : World) (B n : Nat) (v : Value) (l : List Snt) : Prop := Sl w B 6 n v (l.flatMap sncells) ∧ ∀ x ∈ l, sncellsFit x
section
variable {w w' : World} {B B' n : Nat} {v : Value} {l : List Snt}
theorem Snts.below (h : Snts w B n v l) (hb : Below B' w w') (hB : B ≤ B') : Snts w' B n v l := ⟨h.1.below hb hB, h.2⟩
theorem Snts.more (h : Snts w B n v l) (hB : B ≤ B') : Snts w B' n v l := ⟨h.1.more hB, h.2⟩
theorem Snts.count (h : Snts w B n v l) : l.length = n := Sl.count sncells_len h.1 (by omega)
end
/-- element k: its cells -/
theorem sncells_at {w : World} {B n c : Nat} {A : Option Addr} {l : List Snt} (h : Sl w B 6 n (.slice A n c) (l.flatMap sncells)) {k : Nat} (hk : k < n) :
    ∃ (b o : Nat) (lg : ByteArray) (hd : ByteArray) (nm : ByteArray) (lv : Int) (tx : ByteArray) (sq : Int), A = some ⟨b, o, none⟩ ∧ b < B ∧ l[k]? = some ⟨lg.data.toList, hd.data.toList, ⟨nm.data.toList, lv, tx.data.toList, sq⟩⟩ ∧ w.cell? ⟨b, o + k * 6, none⟩ = some (.string lg) ∧ w.cell? ⟨b, o + k * 6 + 1, none⟩ = some (.string hd) ∧ w.cell? ⟨b, o + k * 6 + 2, none⟩ = some (.string nm) ∧ w.cell? ⟨b, o + k * 6 + 3, none⟩ = some (.int .i64 lv) ∧ w.cell? ⟨b, o + k * 6 + 4, none⟩ = some (.string tx) ∧ w.cell? ⟨b, o + k * 6 + 5, none⟩ = some (.int .i64 sq) := by
  obtain ⟨b, o, x, e, hb, hx, hc⟩ := Sl.elem sncells_len h (by omega) hk
  obtain ⟨lg, hd, ⟨nm, lv, tx, sq⟩⟩ := x
  exact ⟨b, o, ⟨lg.toArray⟩, ⟨hd.toArray⟩, ⟨nm.toArray⟩, lv, ⟨tx.toArray⟩, sq, e, hb, by simpa using hx, hc 0 _ rfl, hc 1 _ rfl, hc 2 _ rfl, hc 3 _ rfl, hc 4 _ rfl, hc 5 _ rfl⟩
theorem Tryz.infoSent : (Tryz.prog.info? 41).map (fun i => (i.zero, i.size, i.bytes)) = some (some (.agg #[.string ByteArray.empty, .string ByteArray.empty, .string ByteArray.empty, .int .i64 0, .string ByteArray.empty, .int .i64 0]), 6, 80) := by kernel_rfl

/-- append of one Sent -/
theorem appSent (w : World) {ops : Array Oper} {rest : List Oper} {o : Oper} {a : Act} {Q : Exit → Act → World → Prop} (hg : o.guard = none) (s x : Operand)
    (ho : o.op = .call { callee := .builtin .append, args := #[s, x], argTypes := #[31, 31] }) (base : Nat) (v : Value) (l : List Snt) (hs : a.eval s = v)
    (hown : w.ownsRow base 41 6 v l.length (l.flatMap sncells)) (lg : ByteArray) (hd : ByteArray) (nm : ByteArray) (lv : Int) (tx : ByteArray) (sq : Int) (b0 c : Nat) (te : TypeId) (hx : a.eval x = .slice (some ⟨b0, 0, none⟩) 1 c) (hb0 : b0 = w.heap.size) (hl : l.length ≤ 1048576) (hbase : base ≤ w.heap.size)
    (h : ∀ v' w', w'.ownsRow base 41 6 v' (l ++ [(⟨lg.data.toList, hd.data.toList, ⟨nm.data.toList, lv, tx.data.toList, sq⟩⟩ : Snt)]).length ((l ++ [(⟨lg.data.toList, hd.data.toList, ⟨nm.data.toList, lv, tx.data.toList, sq⟩⟩ : Snt)]).flatMap sncells) → Below base w w' → wpList Tryz.prog ops Q rest (a.put o.dst v') w') :
    wpList Tryz.prog ops Q (o :: rest) a (w.alloc (.cells #[.string lg, .string hd, .string nm, .int .i64 lv, .string tx, .int .i64 sq] te)) := by
  subst hb0
  obtain ⟨i0, hi, hz0, hz1, hz2⟩ := info_parts Tryz.infoSent
  refine wpList_app1 w hg s x 31 ho base 41 i0 _ 6 80 Tryz.underlying31 hi hz0 hz1 hz2 rfl (by decide) v l.length _ hs hown [.string lg, .string hd, .string nm, .int .i64 lv, .string tx, .int .i64 sq] c te hx rfl (List.all_eq_true.1 rfl) (by unfold maxLen; omega) (by omega) hbase fun v' w' h1 h2 => h v' w' ?_ h2
  simpa [sncells, txt_data] using h1

def sncellsKinds : List Bool := [true, true, true, false, true, false]

end Go.Proofs.YtioegkcekbkblaaGreat

/-
  RECORDS SENT: plain: what becomes of a record at its spots.
-/
namespace Go.Proofs.YtioegkcekbkblaaGreat
open Go.RowKit Nm
set_option linter.unusedSimpArgs false
set_option linter.unusedVariables false

/-- what becomes of a record at a spot -/
structure Oc where
  lg : List UInt8
  hd : List UInt8
  kd : Int
  lv : Int
def occells (nm tx : List UInt8) (sq : Int) (o : Oc) : List Value := [txt o.lg, txt o.hd, .int .i64 o.kd, txt nm, .int .i64 o.lv, txt tx, .int .i64 sq]
theorem occells_len (nm tx : List UInt8) (sq : Int) (o : Oc) : (occells nm tx sq o).length = 7 := rfl
/-- a handler is asked: the kind of the reason, the level as it goes on -/
def askH (nm tx : List UInt8) (h : Hnd) (lv : Int) : Int × Int :=
  if lv < h.lv then (5, lv) else match filtL nm tx h.fs lv with
    | none => (6, lv)
    | some q => (0, q)
theorem askH_low {nm tx : List UInt8} {h : Hnd} {lv : Int} (hq : lv < h.lv) : askH nm tx h lv = (5, lv) := by unfold askH; rw [if_pos hq]
theorem askH_drop {nm tx : List UInt8} {h : Hnd} {lv : Int} (hq : ¬ lv < h.lv) (hf : filtL nm tx h.fs lv = none) : askH nm tx h lv = (6, lv) := by unfold askH; rw [if_neg hq, hf]
theorem askH_sent {nm tx : List UInt8} {h : Hnd} {lv q : Int} (hq : ¬ lv < h.lv) (hf : filtL nm tx h.fs lv = some q) : askH nm tx h lv = (0, q) := by unfold askH; rw [if_neg hq, hf]
def lastH : Hnd := ⟨lastL, 30, []⟩
def hOf (H : List Hnd) (x : List UInt8) : Hnd := (H.find? fun h => decide (h.nm = x)).getD lastH
def outs (H : List Hnd) (nm tx : List UInt8) : List Spt → Int → List Oc
  | [], _ => []
  | s :: ss, lv => ⟨s.lg, s.hd, (askH nm tx (hOf H s.hd) lv).1, (askH nm tx (hOf H s.hd) lv).2⟩ :: outs H nm tx ss (askH nm tx (hOf H s.hd) lv).2
def lvAfter (H : List Hnd) (nm tx : List UInt8) : List Spt → Int → Int
  | [], lv => lv
  | s :: ss, lv => lvAfter H nm tx ss (askH nm tx (hOf H s.hd) lv).2
section
variable {H : List Hnd} {nm tx : List UInt8}
theorem outs_app (a b : List Spt) (lv : Int) : outs H nm tx (a ++ b) lv = outs H nm tx a lv ++ outs H nm tx b (lvAfter H nm tx a lv) := by
  induction a generalizing lv with
  | nil => rfl
  | cons s a ih =>
    show _ :: outs H nm tx (a ++ b) _ = _ :: (outs H nm tx a _ ++ _)
    rw [ih]; rfl
theorem lvAfter_app (a b : List Spt) (lv : Int) : lvAfter H nm tx (a ++ b) lv = lvAfter H nm tx b (lvAfter H nm tx a lv) := by
  induction a generalizing lv with
  | nil => rfl
  | cons s a ih => exact ih _
theorem outs_len (a : List Spt) (lv : Int) : (outs H nm tx a lv).length = a.length := by
  induction a generalizing lv with
  | nil => rfl
  | cons s a ih => show (outs H nm tx a _).length + 1 = a.length + 1; rw [ih]
theorem outs_step {ss : List Spt} {k : Nat} {s : Spt} {lv q : Int} (hx : ss[k]? = some s) (hq : lvAfter H nm tx (ss.take k) lv = q) :
    outs H nm tx (ss.take (k + 1)) lv = outs H nm tx (ss.take k) lv ++ [⟨s.lg, s.hd, (askH nm tx (hOf H s.hd) q).1, (askH nm tx (hOf H s.hd) q).2⟩] ∧ lvAfter H nm tx (ss.take (k + 1)) lv = (askH nm tx (hOf H s.hd) q).2 := by
  rw [List.take_add_one, hx]
  show outs H nm tx (ss.take k ++ [s]) lv = _ ∧ lvAfter H nm tx (ss.take k ++ [s]) lv = _
  rw [outs_app, lvAfter_app, hq]
  exact ⟨rfl, rfl⟩
theorem askH_range {h : Hnd} {lv : Int} (hf : filtersOk h.fs = true) (h1 : 1 ≤ lv) (h2 : lv ≤ 60) : 1 ≤ (askH nm tx h lv).2 ∧ (askH nm tx h lv).2 ≤ 60 := by
  unfold askH
  split
  · exact ⟨h1, h2⟩
  · cases e : filtL nm tx h.fs lv with
    | none => exact ⟨h1, h2⟩
    | some q =>
      unfold filtersOk at hf
      rw [Bool.and_eq_true] at hf
      exact filtL_range hf.1 h1 h2 e
theorem hOf_ok {L : List Lgr} {q : Int} (ht : treeOk L H q = true) (x : List UInt8) : filtersOk (hOf H x).fs = true := by
  unfold hOf
  cases e : H.find? fun h => decide (h.nm = x) with
  | none => rfl
  | some h =>
    have hm := List.mem_of_find?_eq_some e
    unfold treeOk hndsOk at ht
    simp only [Bool.and_eq_true, List.all_eq_true] at ht
    have := ht.2.1.1 h hm
    unfold hndOk at this
    simp only [Bool.and_eq_true] at this
    exact this.2.2.2
end
theorem recOk_lv {nm tx : List UInt8} {lv q sq : Int} (h : recOk ⟨nm, lv, tx, sq⟩ = true) (h1 : 1 ≤ q) (h2 : q ≤ 60) : recOk ⟨nm, q, tx, sq⟩ = true := by
  unfold recOk at h ⊢
  simp only [Bool.and_eq_true, decide_eq_true_eq] at h ⊢
  exact ⟨h.1, h1, h2, h.2.2.2⟩
theorem recOk_rng {nm tx : List UInt8} {lv sq : Int} (h : recOk ⟨nm, lv, tx, sq⟩ = true) : 1 ≤ lv ∧ lv ≤ 60 ∧ nameOk nm = true := by
  unfold recOk at h; simp only [Bool.and_eq_true, decide_eq_true_eq] at h; exact ⟨h.2.1, h.2.2.1, h.1⟩
/-- the filters of the record's own logger -/
def ownF (L : List Lgr) (nm : List UInt8) : List Flt := if nm ∈ nsOf L then fsAt L (nearN (nsOf L) nm) else []
/-- the record's logger: the kind of the reason, the level as it goes on -/
def entX (L : List Lgr) (q : Int) (nm tx : List UInt8) (lv : Int) : Int × Int :=
  if offT L nm then (1, lv) else if lv ≤ q then (2, lv) else if lv < levelN (nsOf L) (lvAt L) nm then (3, lv) else match filtL nm tx (ownF L nm) lv with
    | none => (4, lv)
    | some v => (0, v)
def spX (L : List Lgr) (nm : List UInt8) : List Spt := if spotsI L (pathN (nsOf L) nm) = [] then [⟨[], lastL⟩] else spotsI L (pathN (nsOf L) nm)
def ocX (L : List Lgr) (H : List Hnd) (q : Int) (r : Rec) : List Oc :=
  if treeOk L H q && recOk r then
    (if (entX L q r.nm r.tx r.lv).1 = 0 then outs H r.nm r.tx (spX L r.nm) (entX L q r.nm r.tx r.lv).2 else [⟨[], [], (entX L q r.nm r.tx r.lv).1, (entX L q r.nm r.tx r.lv).2⟩])
  else []
def sent1 (nm tx : List UInt8) (sq : Int) (o : Oc) : Snt := ⟨o.lg, o.hd, ⟨nm, o.lv, tx, sq⟩⟩
def sentOf (nm tx : List UInt8) (sq : Int) (l : List Oc) : List Snt := (l.filter fun o => o.kd == 0).map (sent1 nm tx sq)
def sendX (L : List Lgr) (H : List Hnd) (q : Int) (r : Rec) : List Snt := sentOf r.nm r.tx r.sq (ocX L H q r)
theorem sentOf_app (nm tx : List UInt8) (sq : Int) (a b : List Oc) : sentOf nm tx sq (a ++ b) = sentOf nm tx sq a ++ sentOf nm tx sq b := by simp [sentOf]
theorem ent_range {L : List Lgr} {H : List Hnd} {q t : Int} {nm tx : List UInt8} {lv : Int} (ht : treeOk L H t = true) (h1 : 1 ≤ lv) (h2 : lv ≤ 60) : 1 ≤ (entX L q nm tx lv).2 ∧ (entX L q nm tx lv).2 ≤ 60 := by
  unfold entX
  split
  · exact ⟨h1, h2⟩
  split
  · exact ⟨h1, h2⟩
  split
  · exact ⟨h1, h2⟩
  cases e : filtL nm tx (ownF L nm) lv with
  | none => exact ⟨h1, h2⟩
  | some v =>
    refine filtL_range (?_ : (ownF L nm).all fltOk = true) h1 h2 e
    unfold ownF
    split
    · unfold fsAt
      by_cases hk : nearN (nsOf L) nm < L.length
      · have e2 : (L.map (·.fs)).getD (nearN (nsOf L) nm) [] = L[nearN (nsOf L) nm].fs := by simp [List.getD, hk]
        rw [e2]
        unfold treeOk lgrsOk at ht
        simp only [Bool.and_eq_true, List.all_eq_true] at ht
        have := ht.2.2.1 _ (List.getElem_mem hk)
        unfold lgrOk filtersOk at this
        simp only [Bool.and_eq_true] at this
        exact this.2.2.1.1
      · simp [List.getD, hk]
    · rfl
end Go.Proofs.YtioegkcekbkblaaGreat
