/-
  A HANDLER ADDED: the program's change. By gen_ah2.py.
-/
import Derived.Test.YtioegkcekbkblaaGreatAH1
import Derived.Test.YtioegkcekbkblaaGreatApp
import Derived.Test.YtioegkcekbkblaaGreatCM
import Derived.Test.YtioegkcekbkblaaGreatHeld
namespace Go.Proofs.YtioegkcekbkblaaGreat
open Go.RowKit Nm
set_option linter.unusedSimpArgs false
set_option linter.unusedVariables false

theorem run_addHd (W : World) {lo n c fn fc : Nat} {A fA : Option Addr} {xs : List Value} (s : ByteArray) (lv : Int) (htop : W.ownsRow lo 47 3 (.slice A n c) n xs) (h8 : n ≤ 64) (hlo : lo ≤ W.heap.size) :
    ∃ A5 c5 W', (Builtin.append_ #[24, 24] 24 #[.slice A n c, .slice (some ⟨W.heap.size, 0, none⟩) 1 1]).run Tryz.prog (W.alloc (.cells #[.string s, .int .i64 lv, .slice fA fn fc] 47)) = .ok (.slice A5 (n + 1) c5) W' ∧
      W'.ownsRow lo 47 3 (.slice A5 (n + 1) c5) (n + 1) (xs ++ [.string s, .int .i64 lv, .slice fA fn fc]) ∧ W.grownBy W' (Value.slice A n c).ownBlock ∧ ((Value.slice A5 (n + 1) c5).ownBlock = (Value.slice A n c).ownBlock ∨ (Value.slice A5 (n + 1) c5).ownBlock = some (W.heap.size + 1)) := by
  obtain ⟨i0, hi, hz0, hz1, hz2⟩ := info_parts Tryz.infoHandler
  obtain ⟨v5, w4, hrun, ho4, hg4, hloc⟩ := run_app1P (P := Tryz.prog) W 24 lo 47 i0 _ 3 48 Tryz.underlying24 hi hz0 hz1 hz2 rfl (by decide) _ n _ htop [.string s, .int .i64 lv, .slice fA fn fc] 47 rfl (by intro u hu; simp only [List.mem_cons, List.not_mem_nil, or_false] at hu; rcases hu with rfl | rfl | rfl <;> rfl) (by unfold maxLen; omega) (by omega) hlo
  obtain ⟨A5, c5, rfl, _, _⟩ := (Sl.of_own ho4).form
  exact ⟨A5, c5, w4, hrun, ho4, hg4, hloc⟩
def mkHd (s : ByteArray) (lv : Int) (fA : Option Addr) (fn fc : Nat) (fs : List Flt) : HndV := ⟨⟨s.data.toList, lv, fs⟩, .slice fA fn fc, fn⟩
theorem mkHd_cells (s : ByteArray) (lv : Int) (fA : Option Addr) (fn fc : Nat) (fs : List Flt) : hcells (mkHd s lv fA fn fc fs) = [.string s, .int .i64 lv, .slice fA fn fc] := by simp [hcells, mkHd, txt_data]
/-- a tree with a handler behind the others -/
theorem tree_addH {W W' : World} {l0 n1 n2 c4 fn fc : Nat} {A4 fA : Option Addr} {v1 v2' : Value} {ls : List LgrV} {hs : List HndV} {fs : List Flt} (s : ByteArray) (lv : Int) (hn : n2 = hs.length)
    (hr : Rows W l0 (treeRows n1 v1 ls n2 (.slice A4 n2 c4) hs ++ [⟨99, 3, fn, .slice fA fn fc, fsCells fs⟩]))
    (ho : W'.ownsRow l0 47 3 v2' (n2 + 1) (hs.flatMap hcells ++ [.string s, .int .i64 lv, .slice fA fn fc])) (hg : W.grownBy W' (Value.slice A4 n2 c4).ownBlock) (hloc : v2'.ownBlock = (Value.slice A4 n2 c4).ownBlock ∨ v2'.ownBlock = some (W.heap.size + 1)) :
    Rows W' l0 (treeRows n1 v1 ls (n2 + 1) v2' (hs ++ [mkHd s lv fA fn fc fs])) ∧ ∀ p : Nat → Prop, (∀ r ∈ treeRows n1 v1 ls n2 (.slice A4 n2 c4) hs ++ [⟨99, 3, fn, .slice fA fn fc, fsCells fs⟩], ∀ z, r.v.ownBlock = some z → p z) → p (W.heap.size + 1) → ∀ r ∈ treeRows n1 v1 ls (n2 + 1) v2' (hs ++ [mkHd s lv fA fn fc fs]), ∀ z, r.v.ownBlock = some z → p z := by
  have e1 : (hs ++ [mkHd s lv fA fn fc fs]).flatMap hcells = hs.flatMap hcells ++ [.string s, .int .i64 lv, .slice fA fn fc] := by rw [List.flatMap_append]; simp [mkHd_cells]
  have e2 : (hs ++ [mkHd s lv fA fn fc fs]).flatMap hrows = hs.flatMap hrows ++ [⟨99, 3, fn, .slice fA fn fc, fsCells fs⟩] := by rw [List.flatMap_append]; simp [hrows, mkHd]
  have e3 : treeRows n1 v1 ls n2 (.slice A4 n2 c4) hs ++ [⟨99, 3, fn, .slice fA fn fc, fsCells fs⟩] = two 72 6 n1 v1 lcells lrows ls ++ ⟨47, 3, n2, .slice A4 n2 c4, hs.flatMap hcells⟩ :: (hs.flatMap hrows ++ [⟨99, 3, fn, .slice fA fn fc, fsCells fs⟩]) := by
    rw [treeRows_eq]; simp [two]
  have e4 : treeRows n1 v1 ls (n2 + 1) v2' (hs ++ [mkHd s lv fA fn fc fs]) = two 72 6 n1 v1 lcells lrows ls ++ ⟨47, 3, n2 + 1, v2', hs.flatMap hcells ++ [.string s, .int .i64 lv, .slice fA fn fc]⟩ :: (hs.flatMap hrows ++ [⟨99, 3, fn, .slice fA fn fc, fsCells fs⟩]) := by
    rw [treeRows_eq]
    show _ ++ two _ _ _ _ _ _ _ = _
    unfold two
    rw [e1, e2]
  rw [e3] at hr
  rw [e3, e4]
  refine ⟨Rows.app hr hg ho hloc, fun p hp hq r hr' z hz => ?_⟩
  rcases List.mem_append.1 hr' with h | h
  · exact hp r (List.mem_append.2 (.inl h)) z hz
  · rcases List.mem_cons.1 h with rfl | h
    · rcases hloc with e | e
      · have hz' : v2'.ownBlock = some z := hz
        rw [e] at hz'
        exact hp ⟨47, 3, n2, .slice A4 n2 c4, hs.flatMap hcells⟩ (List.mem_append.2 (.inr (List.mem_cons.2 (.inl rfl)))) z hz'
      · have hz' : v2'.ownBlock = some z := hz
        rw [e] at hz'
        obtain rfl := Option.some.inj hz'
        exact hq
    · exact hp r (List.mem_append.2 (.inr (List.mem_cons_of_mem _ h))) z hz
end Go.Proofs.YtioegkcekbkblaaGreat
