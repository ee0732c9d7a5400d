/-
  A TREE APPLIED: plain; a logger added, off or not. By gen_ap.py.
-/
import Derived.Test.YtioegkcekbkblaaGreatZyDL1
import Derived.Test.YtioegkcekbkblaaGreatZyCM
import Derived.Test.YtioegkcekbkblaaGreatZyLookI
namespace Go.Proofs.YtioegkcekbkblaaGreat
open Go.RowKit Nm
set_option linter.unusedSimpArgs false
set_option linter.unusedVariables false

def mkVo (s : List UInt8) (o : Bool) : LgrV := ⟨{ mkL s with off := o }, .slice none 0 0, 0, .slice none 0 0, 0⟩
abbrev newCellsO (s : ByteArray) (o : Bool) : List Value := [.string s, .int .i64 0, .slice none 0 0, .slice none 0 0, .bool false, .bool o]
theorem new_oneO (s : ByteArray) (o : Bool) : ∀ u ∈ newCellsO s o, Value.oneCell' u = true := by
  intro u hu
  simp only [List.mem_cons, List.not_mem_nil, or_false] at hu
  rcases hu with rfl | rfl | rfl | rfl | rfl | rfl <;> rfl
theorem new_cellsO (s : ByteArray) (o : Bool) : lcells (mkVo s.data.toList o) = newCellsO s o := by simp [lcells, mkVo, mkL, txt_data]
/-- a logger behind the others -/
theorem tree_appO {W W' : World} {lo n c : Nat} {A : Option Addr} {v1' v2 : Value} {ls : List LgrV} {hs : List HndV} (hn : n = ls.length) (hr : Rows W lo (treeRows ls.length (.slice A n c) ls hs.length v2 hs)) (s : ByteArray) (o : Bool)
    (ho : W'.ownsRow lo 72 6 v1' (n + 1) (ls.flatMap lcells ++ newCellsO s o)) (hg : W.grownBy W' (Value.slice A n c).ownBlock) (hloc : v1'.ownBlock = (Value.slice A n c).ownBlock ∨ v1'.ownBlock = some (W.heap.size + 1)) (hlo : lo ≤ W.heap.size) :
    Rows W' lo (treeRows (ls ++ [mkVo s.data.toList o]).length v1' (ls ++ [mkVo s.data.toList o]) hs.length v2 hs) ∧
    ∀ b, (∀ r ∈ treeRows ls.length (.slice A n c) ls hs.length v2 hs, r.v.ownBlock ≠ some b) → b ≤ W.heap.size → ∀ r ∈ treeRows (ls ++ [mkVo s.data.toList o]).length v1' (ls ++ [mkVo s.data.toList o]) hs.length v2 hs, r.v.ownBlock ≠ some b := by
  subst hn
  have e1 : (ls ++ [mkVo s.data.toList o]).flatMap lcells = ls.flatMap lcells ++ newCellsO s o := by rw [List.flatMap_append]; simp [new_cellsO]
  have e2 : (ls ++ [mkVo s.data.toList o]).flatMap lrows = ls.flatMap lrows ++ [⟨9, 1, 0, .slice none 0 0, []⟩, ⟨99, 3, 0, .slice none 0 0, []⟩] := by rw [List.flatMap_append]; simp [lrows, mkVo, mkL, fsCells]
  have h0 : Rows W lo ([] ++ ⟨72, 6, ls.length, .slice A ls.length c, ls.flatMap lcells⟩ :: (ls.flatMap lrows ++ two 47 3 hs.length v2 hcells hrows hs)) := by
    rw [treeRows_eq] at hr
    simpa [two] using hr
  have h1 := Rows.app h0 hg ho hloc
  have hn2 : Rows W' W'.heap.size [⟨9, 1, 0, .slice none 0 0, []⟩, ⟨99, 3, 0, .slice none 0 0, []⟩] := by
    refine ⟨fun r hr => ?_, ?_⟩
    · simp only [List.mem_cons, List.not_mem_nil, or_false] at hr
      rcases hr with rfl | rfl <;> exact World.ownsRow_nil _ _ _ _
    · exact List.pairwise_cons.2 ⟨fun b hb => ⟨.inl rfl, by rw [List.mem_singleton] at hb; subst hb; exact .inl rfl⟩, List.pairwise_singleton _ _⟩
  have h2 := h1.newer (Below.refl _ _) hn2 (Nat.le_trans hlo hg.size)
  have h3 := h2.perm (perm_add _ _ _ _)
  have ht : treeRows (ls ++ [mkVo s.data.toList o]).length v1' (ls ++ [mkVo s.data.toList o]) hs.length v2 hs = ⟨72, 6, ls.length + 1, v1', ls.flatMap lcells ++ newCellsO s o⟩ :: ((ls.flatMap lrows ++ [⟨9, 1, 0, .slice none 0 0, []⟩, ⟨99, 3, 0, .slice none 0 0, []⟩]) ++ two 47 3 hs.length v2 hcells hrows hs) := by
    rw [treeRows_eq, two, e1, e2]; simp
  rw [ht]
  refine ⟨h3, fun b hb hbW r hr' => ?_⟩
  rw [treeRows_eq] at hb
  simp only [List.mem_cons, List.mem_append, List.not_mem_nil, or_false] at hr'
  rcases hr' with rfl | (hr' | rfl | rfl) | hr'
  · rcases hloc with e | e
    · show v1'.ownBlock ≠ _
      rw [e]
      exact hb ⟨72, 6, ls.length, .slice A ls.length c, ls.flatMap lcells⟩ (by simp [two])
    · show v1'.ownBlock ≠ _
      rw [e]
      intro e2
      have := Option.some.inj e2
      omega
  · exact hb r (by simp only [two, List.mem_append, List.mem_cons]; exact .inl (.inr hr'))
  · intro e; cases e
  · intro e; cases e
  · exact hb r (List.mem_append.2 (.inr hr'))
/-- the append of a logger to a tree of the call's own -/
theorem run_addO (W : World) {lo n c : Nat} {A : Option Addr} {v2 : Value} {ls : List LgrV} {hs : List HndV} (hn : n = ls.length) (hr : Rows W lo (treeRows ls.length (.slice A n c) ls hs.length v2 hs)) (h8 : n ≤ 64) (s : ByteArray) (o : Bool) (hlo : lo ≤ W.heap.size) :
    ∃ A5 c5 W', (Builtin.append_ #[23, 23] 23 #[.slice A n c, .slice (some ⟨W.heap.size, 0, none⟩) 1 1]).run Tryz.prog (W.alloc (.cells #[.string s, .int .i64 0, .slice none 0 0, .slice none 0 0, .bool false, .bool o] 72)) = .ok (.slice A5 (n + 1) c5) W' ∧
      W'.ownsRow lo 72 6 (.slice A5 (n + 1) c5) (n + 1) (ls.flatMap lcells ++ newCellsO s o) ∧ W.grownBy W' (Value.slice A n c).ownBlock ∧ ((Value.slice A5 (n + 1) c5).ownBlock = (Value.slice A n c).ownBlock ∨ (Value.slice A5 (n + 1) c5).ownBlock = some (W.heap.size + 1)) := by
  obtain ⟨iL, hLi, hLz0, hLz1, hLz2⟩ := info_parts Tryz.infoLogger
  have htop : W.ownsRow lo 72 6 (.slice A n c) n (ls.flatMap lcells) := hr.1 ⟨72, 6, n, .slice A n c, ls.flatMap lcells⟩ (by rw [treeRows_eq, ← hn]; simp [two])
  obtain ⟨v5, w4, hrun, ho4, hg4, hloc⟩ := run_app1P (P := Tryz.prog) W 23 lo 72 iL _ 6 80 Tryz.underlying23 hLi hLz0 hLz1 hLz2 rfl (by decide) _ n _ htop (newCellsO s o) 72 rfl (new_oneO s o) (by unfold maxLen; omega) (by omega) hlo
  obtain ⟨A5, c5, rfl, _, _⟩ := (Sl.of_own ho4).form
  exact ⟨A5, c5, w4, hrun, ho4, hg4, hloc⟩

def anyBelow (L : List Lgr) (nm : Name) : Bool := ((nsOf L).drop 1).any (fun y => belowL nm y)
def newIn (L : List Lgr) (l : Lgr) : Bool := decide (idxL (namesOf L) l.nm < 0)
def offL (L : List Lgr) (l : Lgr) : Lgr := { mkL l.nm with off := !anyBelow L l.nm }
def appK (La L : List Lgr) (k : Nat) : List Lgr := L ++ ((La.take k).filter (newIn L)).map (offL L)
def appX (La : List Lgr) (Ha : List Hnd) (qa : Int) (L : List Lgr) (H : List Hnd) (q : Int) : Option TreeD := if treeOk La Ha qa then changedO L H q (some (appK La L La.length, H, q)) else none
theorem app_res_fit (La : List Lgr) (Ha : List Hnd) (qa : Int) (L : List Lgr) (H : List Hnd) (q : Int) : dataFit (resL (appX La Ha qa L H q)) (resH (appX La Ha qa L H q)) := by
  unfold appX
  split
  · exact changed_fit _ _ _ _
  · exact none_fit
theorem appK_zero (La L : List Lgr) : appK La L 0 = L := by simp [appK]
theorem appK_hit {La L : List Lgr} {k : Nat} {l : Lgr} (h : La[k]? = some l) (hn : idxL (namesOf L) l.nm < 0) : appK La L (k + 1) = appK La L k ++ [offL L l] := by
  have e : newIn L l = true := decide_eq_true hn
  unfold appK
  rw [List.take_add_one, h, List.filter_append, List.map_append, List.append_assoc]
  simp [e]
theorem appK_miss {La L : List Lgr} {k : Nat} {l : Lgr} (h : La[k]? = some l) (hn : ¬ idxL (namesOf L) l.nm < 0) : appK La L (k + 1) = appK La L k := by
  have e : newIn L l = false := decide_eq_false hn
  unfold appK
  rw [List.take_add_one, h, List.filter_append, List.map_append]
  simp [e]
theorem appK_len (La L : List Lgr) (k : Nat) : (appK La L k).length ≤ L.length + La.length := by
  unfold appK
  rw [List.length_append, List.length_map]
  have h1 := List.length_filter_le (newIn L) (La.take k)
  rw [List.length_take] at h1
  omega
theorem appK_fit {La L : List Lgr} {Ha H : List Hnd} (k : Nat) (ha : dataFit La Ha) (h : dataFit L H) (h8 : L.length ≤ 8) (ha8 : La.length ≤ 8) : dataFit (appK La L k) H := by
  refine ⟨⟨by have := appK_len La L k; unfold maxTxt; omega, fun x hx => ?_⟩, h.2⟩
  unfold appK at hx
  rcases List.mem_append.1 hx with hx | hx
  · exact h.1.2 x hx
  · obtain ⟨l, hl, rfl⟩ := List.mem_map.1 hx
    have hl' := List.mem_of_mem_take (List.mem_filter.1 hl).1
    exact ⟨(ha.1.2 l hl').1, ⟨by simp [offL, mkL], by simp [offL, mkL]⟩, ⟨by simp [offL, mkL], by simp [offL, mkL]⟩⟩
theorem near_any {L : List Lgr} {H : List Hnd} {q : Int} {x : Name} (h : treeOk L H q = true) (hx : nameOk x = true) : (nearestT L H q x = []) ↔ anyBelow L x = false := by
  obtain ⟨h0, hnd, _, hlen, _, h1⟩ := tree_ns h
  obtain ⟨b1, b2⟩ := best_spec h0 x (nsOf L).length (Nat.le_refl _)
  have hlt := near_lt h0 x
  have e : nearestT L H q x = (nsOf L).getD (nearN (nsOf L) x) [] := by unfold nearestT; rw [h, hx]; rfl
  rw [e]
  unfold anyBelow
  rw [List.any_eq_false]
  constructor
  · intro hn y hy hb
    obtain ⟨j, hj⟩ := List.getElem?_of_mem hy
    rw [List.getElem?_drop] at hj
    have hjl := (List.getElem?_eq_some_iff.1 hj).1
    have hd : (nsOf L).getD (1 + j) [] = y := by simp [List.getD, hj]
    have h3 := b2 (1 + j) hjl (by rw [hd]; exact hb)
    rw [hd, show (nsOf L).getD (bestN (nsOf L) x (nsOf L).length) [] = [] from hn] at h3
    have hy0 : y = [] := List.eq_nil_of_length_eq_zero (by simpa using h3)
    have h4 := nodup_at hnd hjl (i := 1 + j) (j := 0) (by omega) (by rw [hd, hy0]; simp [List.getD, h0])
    omega
  · intro hall
    apply Classical.byContradiction
    intro hne
    have hk : nearN (nsOf L) x ≠ 0 := fun e0 => hne (by rw [e0]; simp [List.getD, h0])
    obtain ⟨y, hy⟩ : ∃ y, (nsOf L)[nearN (nsOf L) x]? = some y := ⟨_, List.getElem?_eq_getElem hlt⟩
    have hd : (nsOf L).getD (nearN (nsOf L) x) [] = y := by simp [List.getD, hy]
    have hm : y ∈ (nsOf L).drop 1 := by
      refine List.mem_of_getElem? (i := nearN (nsOf L) x - 1) ?_
      rw [List.getElem?_drop, show 1 + (nearN (nsOf L) x - 1) = nearN (nsOf L) x by omega]
      exact hy
    have hb : belowL x y = true := by
      have := b1
      rw [show bestN (nsOf L) x (nsOf L).length = nearN (nsOf L) x from rfl, hd] at this
      exact this
    exact hall y hm hb
end Go.Proofs.YtioegkcekbkblaaGreat
