/-
  DRAWS: trees, how they lie while they are built.
-/
import Derived.Test.YtihigemelekflaaE1
import Derived.Test.YtihigemelekflaaApp
import Derived.Test.YtihigemelekflaaHeld
namespace Go.Proofs.Ytihigemelekflaa
open Go.RowKit Nm
set_option linter.unusedSimpArgs false
set_option linter.unusedVariables false

/-- what a drawn logger, handler, tree keeps to -/
def lgrSm (m : Nat) (l : Lgr) : Prop := l.nm.length ≤ 20 ∧ (l.hs.length ≤ m ∧ ∀ t ∈ l.hs, t.length ≤ 20) ∧ (l.fs.length ≤ m ∧ ffit l.fs)
def hndSm (m : Nat) (h : Hnd) : Prop := h.nm.length ≤ 20 ∧ (h.fs.length ≤ m ∧ ffit h.fs)
theorem lgrSm.up {m m' : Nat} {l : Lgr} (h : lgrSm m l) (hm : m ≤ m') : lgrSm m' l := ⟨h.1, ⟨Nat.le_trans h.2.1.1 hm, h.2.1.2⟩, ⟨Nat.le_trans h.2.2.1 hm, h.2.2.2⟩⟩
theorem hndSm.up {m m' : Nat} {l : Hnd} (h : hndSm m l) (hm : m ≤ m') : hndSm m' l := ⟨h.1, ⟨Nat.le_trans h.2.1 hm, h.2.2⟩⟩
def treeSm (m : Nat) (L : List Lgr) (H : List Hnd) : Prop := 1 ≤ L.length ∧ (L.length ≤ 8 ∧ ∀ l ∈ L, lgrSm m l) ∧ (H.length ≤ m ∧ ∀ h ∈ H, hndSm m h)
theorem sm_fit {m : Nat} {L : List Lgr} {H : List Hnd} (h : treeSm m L H) (hm : m ≤ 1000) : dataFit L H := by
  obtain ⟨_, ⟨h1, h2⟩, h3, h4⟩ := h
  refine ⟨⟨by unfold maxTxt; omega, fun l hl => ?_⟩, ⟨by unfold maxTxt; omega, fun x hx => ?_⟩⟩
  · obtain ⟨a, ⟨b, b'⟩, c, c'⟩ := h2 l hl
    refine ⟨by unfold maxTxt; omega, ⟨by unfold maxTxt; omega, fun t ht => ?_⟩, ⟨by unfold maxTxt; omega, fun f hf => ?_⟩⟩
    · have := b' t ht; unfold maxTxt; omega
    · have := c' f hf; unfold maxTxt; omega
  · obtain ⟨a, c, c'⟩ := h4 x hx
    refine ⟨by unfold maxTxt; omega, ⟨by unfold maxTxt; omega, fun f hf => ?_⟩⟩
    have := c' f hf; unfold maxTxt; omega
/-- a tree is drawn: it lies in memory of its own -/
def TreeDraw (m R p dp : Nat) (w : World) (e : Ending) (w' : World) : Prop :=
  ∃ (v : Value) (rs : List Row) (L : List Lgr) (H : List Hnd) (q : Int) (p' : Nat), e = .returned v ∧ TreeS rs v L H q ∧ treeSm m L H ∧ Rows w' w.heap.size rs ∧ p' ≤ p + dp ∧ Rdr w' R p' ∧ w.grownBy w' (some R)

theorem Rows.offR {w w' : World} {lo R : Nat} {rs : List Row} (h : Rows w lo rs) (hg : w.grownBy w' (some R)) (hR : R < lo) : Rows w' lo rs := ⟨fun r hr => own_off (h.1 r hr) hg hR, h.2⟩
theorem Rows.newerR {w w' : World} {lo R : Nat} {rs rs' : List Row} (h : Rows w lo rs) (hg : w.grownBy w' (some R)) (hR : R < lo) (h2 : Rows w' w.heap.size rs') (hl : lo ≤ w.heap.size) : Rows w' lo (rs' ++ rs) :=
  ⟨fun r hr => by
    rcases List.mem_append.1 hr with hr | hr
    · exact own_base (h2.1 r hr) hl
    · exact (h.offR hg hR).1 r hr, List.pairwise_append.2 ⟨h2.2, h.2, fun a ha b hb => (row_apart (h.1 b hb) (h2.1 a ha)).symm⟩⟩

def treeNames : List (List UInt8) := [[104], [111, 117, 116], [101, 114, 114], [109, 97, 105, 108], [100, 105, 115, 107], [110, 101, 116]]
def nmRow (nb : Nat) : Row := ⟨9, 1, 6, .slice (some ⟨nb, 0, none⟩) 6 6, treeNames.map txt⟩
/-- name k of the list -/
theorem nm_cell (k : Nat) (hk : k < 6) : ∃ p : ByteArray, p.size ≤ 20 ∧ ∀ (nb lo : Nat) (w : World) (rs : List Row), Rows w lo rs → nmRow nb ∈ rs → w.cell? ⟨nb, k, none⟩ = some (.string p) ∧ nb < w.heap.size := by
  have hk' : k < treeNames.length := hk
  refine ⟨⟨(treeNames[k]).toArray⟩, ?_, fun nb lo w rs h hm => ?_⟩
  · rw [Lib.size_eq]
    have : ∀ l ∈ treeNames, l.length ≤ 20 := by decide
    simpa using this _ (List.getElem_mem hk')
  · have ho : w.ownsRow lo 9 1 (.slice (some ⟨nb, 0, none⟩) 6 6) 6 (treeNames.map txt) := h.1 _ hm
    refine ⟨(ho.cellAt k (by omega)).trans ?_, (ho.lt nb rfl).2⟩
    rw [List.getElem?_map, List.getElem?_eq_getElem hk']
    rfl
theorem perm_end (a : Row) (X Y : List Row) : ([a] ++ (X ++ Y)).Perm (X ++ (Y ++ [a])) := by
  have : ([a] ++ (X ++ Y)).Perm ((X ++ Y) ++ [a]) := List.perm_append_comm
  rwa [List.append_assoc] at this
theorem perm_in (a X Y : List Row) : (a ++ (X ++ Y)).Perm (X ++ (a ++ Y)) := List.perm_append_comm_assoc _ _ _
theorem hs_snoc (hs : List HndV) (nk : ByteArray) (lv : Int) (fs : List Flt) (fv : Value) (fn : Nat) : (hs ++ [(⟨⟨nk.data.toList, lv, fs⟩, fv, fn⟩ : HndV)]).flatMap hcells = hs.flatMap hcells ++ [.string nk, .int .i64 lv, fv] := by simp [hcells, txt_data]
theorem ls_snoc (ls : List LgrV) (nk : ByteArray) (lv : Int) (hl : List (List UInt8)) (fs : List Flt) (st off : Bool) (hv fv : Value) (hn fn : Nat) : (ls ++ [(⟨⟨nk.data.toList, lv, hl, fs, st, off⟩, hv, hn, fv, fn⟩ : LgrV)]).flatMap lcells = ls.flatMap lcells ++ [.string nk, .int .i64 lv, hv, fv, .bool st, .bool off] := by simp [lcells, txt_data]

/-- a handler more -/
theorem tHand {w : World} {lo tb k c2 n1 fn : Nat} {A2 A8 : Option Addr} {k8 : Nat} {pre : List Row} {cs : List Value} {v1 : Value} {ls : List LgrV} {hs : List HndV} {fs : List Flt}
    (h : Rows w lo ([⟨70, 3, fn, .slice A8 fn k8, fsCells fs⟩] ++ ([bxRow 41 3 tb cs] ++ (pre ++ treeRows n1 v1 ls k (.slice A2 k c2) hs)))) (hlo : lo ≤ w.heap.size) (hk : k ≤ 1000) (nk : ByteArray) (lv : Int) :
    ∃ A5 c5 w', (Builtin.append_ #[39, 39] 39 #[.slice A2 k c2, .slice (some ⟨w.heap.size, 0, none⟩) 1 1]).run Try.prog (w.alloc (.cells #[.string nk, .int .i64 lv, .slice A8 fn k8] 53)) = .ok (.slice A5 (k + 1) c5) w' ∧
      w.grownBy w' (Value.slice A2 k c2).ownBlock ∧ (∀ z, (Value.slice A2 k c2).ownBlock = some z → lo ≤ z) ∧
      Rows w' lo ([bxRow 41 3 tb cs] ++ (pre ++ treeRows n1 v1 ls (k + 1) (.slice A5 (k + 1) c5) (hs ++ [(⟨⟨nk.data.toList, lv, fs⟩, .slice A8 fn k8, fn⟩ : HndV)]))) := by
  obtain ⟨i0, hi, hz0, hz1, hz2⟩ := info_parts Try.infoHandler
  have htop : w.ownsRow lo 53 3 (.slice A2 k c2) k (hs.flatMap hcells) := h.1 (hsRow k (.slice A2 k c2) hs) (by simp [treeRows])
  obtain ⟨v5, w4, hrun, ho4, hg4, hloc⟩ := run_app1P (P := Try.prog) w 39 lo 53 i0 _ 3 48 Try.underlying39 hi hz0 hz1 hz2 rfl (by decide) _ k _ htop [.string nk, .int .i64 lv, .slice A8 fn k8] 53 rfl (by
    intro u hu
    simp only [List.mem_cons, List.not_mem_nil, or_false] at hu
    rcases hu with rfl | rfl | rfl <;> rfl) (by unfold maxLen; omega) (by omega) hlo
  obtain ⟨A5, c5, rfl, _, _⟩ := (Sl.of_own ho4).form
  refine ⟨A5, c5, w4, hrun, hg4, own_lt htop, ?_⟩
  have h0 : Rows w lo (([⟨70, 3, fn, .slice A8 fn k8, fsCells fs⟩] ++ ([bxRow 41 3 tb cs] ++ (pre ++ (lsRow n1 v1 ls :: ls.flatMap lrows)))) ++ hsRow k (.slice A2 k c2) hs :: hs.flatMap hrows) := by simpa [treeRows] using h
  have h1 := Rows.app h0 hg4 ho4 hloc
  have h2 := h1.perm (by simpa only [List.append_assoc, List.cons_append, List.nil_append] using perm_end ⟨70, 3, fn, .slice A8 fn k8, fsCells fs⟩ ([bxRow 41 3 tb cs] ++ (pre ++ (lsRow n1 v1 ls :: ls.flatMap lrows))) (⟨53, 3, k + 1, .slice A5 (k + 1) c5, hs.flatMap hcells ++ [.string nk, .int .i64 lv, .slice A8 fn k8]⟩ :: hs.flatMap hrows))
  have e1 : (hs ++ [(⟨⟨nk.data.toList, lv, fs⟩, .slice A8 fn k8, fn⟩ : HndV)]).flatMap hrows = hs.flatMap hrows ++ [⟨70, 3, fn, .slice A8 fn k8, fsCells fs⟩] := by simp [hrows]
  rw [treeRows, hsRow, hs_snoc, e1]
  simpa using h2

/-- a logger more -/
theorem tLgr {w : World} {lo tb k c1 n2 hn fn : Nat} {A1 A7 A8 : Option Addr} {k7 k8 : Nat} {pre : List Row} {cs : List Value} {v2 : Value} {ls : List LgrV} {hs : List HndV} {hl : List (List UInt8)} {fs : List Flt}
    (h : Rows w lo ([⟨9, 1, hn, .slice A7 hn k7, hl.map txt⟩, ⟨70, 3, fn, .slice A8 fn k8, fsCells fs⟩] ++ ([bxRow 41 3 tb cs] ++ (pre ++ treeRows k (.slice A1 k c1) ls n2 v2 hs)))) (hlo : lo ≤ w.heap.size) (hk : k ≤ 1000) (nk : ByteArray) (lv : Int) (st off : Bool) :
    ∃ A5 c5 w', (Builtin.append_ #[38, 38] 38 #[.slice A1 k c1, .slice (some ⟨w.heap.size, 0, none⟩) 1 1]).run Try.prog (w.alloc (.cells #[.string nk, .int .i64 lv, .slice A7 hn k7, .slice A8 fn k8, .bool st, .bool off] 56)) = .ok (.slice A5 (k + 1) c5) w' ∧
      w.grownBy w' (Value.slice A1 k c1).ownBlock ∧ (∀ z, (Value.slice A1 k c1).ownBlock = some z → lo ≤ z) ∧
      Rows w' lo ([bxRow 41 3 tb cs] ++ (pre ++ treeRows (k + 1) (.slice A5 (k + 1) c5) (ls ++ [(⟨⟨nk.data.toList, lv, hl, fs, st, off⟩, .slice A7 hn k7, hn, .slice A8 fn k8, fn⟩ : LgrV)]) n2 v2 hs)) := by
  obtain ⟨i0, hi, hz0, hz1, hz2⟩ := info_parts Try.infoLogger
  have htop : w.ownsRow lo 56 6 (.slice A1 k c1) k (ls.flatMap lcells) := h.1 (lsRow k (.slice A1 k c1) ls) (by simp [treeRows])
  obtain ⟨v5, w4, hrun, ho4, hg4, hloc⟩ := run_app1P (P := Try.prog) w 38 lo 56 i0 _ 6 80 Try.underlying38 hi hz0 hz1 hz2 rfl (by decide) _ k _ htop [.string nk, .int .i64 lv, .slice A7 hn k7, .slice A8 fn k8, .bool st, .bool off] 56 rfl (by
    intro u hu
    simp only [List.mem_cons, List.not_mem_nil, or_false] at hu
    rcases hu with rfl | rfl | rfl | rfl | rfl | rfl <;> rfl) (by unfold maxLen; omega) (by omega) hlo
  obtain ⟨A5, c5, rfl, _, _⟩ := (Sl.of_own ho4).form
  refine ⟨A5, c5, w4, hrun, hg4, own_lt htop, ?_⟩
  have h0 : Rows w lo (([⟨9, 1, hn, .slice A7 hn k7, hl.map txt⟩, ⟨70, 3, fn, .slice A8 fn k8, fsCells fs⟩] ++ ([bxRow 41 3 tb cs] ++ pre)) ++ lsRow k (.slice A1 k c1) ls :: (ls.flatMap lrows ++ (hsRow n2 v2 hs :: hs.flatMap hrows))) := by simpa [treeRows] using h
  have h1 := Rows.app h0 hg4 ho4 hloc
  have h2 := h1.perm (by simpa only [List.append_assoc, List.cons_append, List.nil_append] using perm_in [⟨9, 1, hn, .slice A7 hn k7, hl.map txt⟩, ⟨70, 3, fn, .slice A8 fn k8, fsCells fs⟩] ([bxRow 41 3 tb cs] ++ (pre ++ (⟨56, 6, k + 1, .slice A5 (k + 1) c5, ls.flatMap lcells ++ [.string nk, .int .i64 lv, .slice A7 hn k7, .slice A8 fn k8, .bool st, .bool off]⟩ :: ls.flatMap lrows))) (hsRow n2 v2 hs :: hs.flatMap hrows))
  have e1 : (ls ++ [(⟨⟨nk.data.toList, lv, hl, fs, st, off⟩, .slice A7 hn k7, hn, .slice A8 fn k8, fn⟩ : LgrV)]).flatMap lrows = ls.flatMap lrows ++ [⟨9, 1, hn, .slice A7 hn k7, hl.map txt⟩, ⟨70, 3, fn, .slice A8 fn k8, fsCells fs⟩] := by simp [lrows]
  rw [treeRows, lsRow, ls_snoc, e1]
  simpa using h2
/-- an append whose run is known, in a region that goes as it is written -/
theorem wpList_run {P : Program} {ops : Array Oper} {rest : List Oper} {o : Oper} {a : Act} {w w' : World} {Q : Exit → Act → World → Prop} {v v' src : Value} {t : TypeId} {s x : Operand} (hg : o.guard = none)
    (ho : o.op = .call { callee := .builtin .append, args := #[s, x], argTypes := #[t, t] }) (hs : a.eval s = v) (hx : a.eval x = src)
    (hrun : (Builtin.append_ #[t, t] o.type #[v, src]).run P w = .ok v' w') (h : wpList P ops Q rest (a.put o.dst v') w') : wpList P ops Q (o :: rest) a w :=
  wpList_plain hg fun K hK => wp_app ho hs hx hrun (hK _ _ h)
/-- a text more -/
theorem tTxt {w : World} {lo m c7 : Nat} {A7 : Option Addr} {hl : List (List UInt8)} {rest : List Row} (h : Rows w lo ([⟨9, 1, m, .slice A7 m c7, hl.map txt⟩] ++ rest)) (hlo : lo ≤ w.heap.size) (hm : m ≤ 1000) (nk : ByteArray) :
    ∃ A5 c5 w', (Builtin.append_ #[29, 29] 29 #[.slice A7 m c7, .slice (some ⟨w.heap.size, 0, none⟩) 1 1]).run Try.prog (w.alloc (.cells #[.string nk] 9)) = .ok (.slice A5 (m + 1) c5) w' ∧
      w.grownBy w' (Value.slice A7 m c7).ownBlock ∧ (∀ z, (Value.slice A7 m c7).ownBlock = some z → lo ≤ z) ∧
      Rows w' lo ([⟨9, 1, m + 1, .slice A5 (m + 1) c5, (hl ++ [nk.data.toList]).map txt⟩] ++ rest) := by
  obtain ⟨i0, hi, hz0, hz1, hz2⟩ := info_parts Try.infoStr
  have htop : w.ownsRow lo 9 1 (.slice A7 m c7) m (hl.map txt) := h.1 ⟨9, 1, m, .slice A7 m c7, hl.map txt⟩ (by simp)
  obtain ⟨v5, w4, hrun, ho4, hg4, hloc⟩ := run_app1P (P := Try.prog) w 29 lo 9 i0 _ 1 16 Try.underlying29 hi hz0 hz1 hz2 rfl (by decide) _ m _ htop [.string nk] 9 rfl (one_cell rfl) (by unfold maxLen; omega) (by omega) hlo
  obtain ⟨A5, c5, rfl, _, _⟩ := (Sl.of_own ho4).form
  refine ⟨A5, c5, w4, hrun, hg4, own_lt htop, ?_⟩
  have h1 := Rows.app (pre := []) (post := rest) h hg4 ho4 hloc
  have e : (hl ++ [nk.data.toList]).map txt = hl.map txt ++ [.string nk] := by simp [txt_data]
  rw [e]
  exact h1
/-- what the loggers of such a tree read as -/
theorem rows_ls {w : World} {lo n1 n2 m : Nat} {v1 v2 : Value} {ls : List LgrV} {hs : List HndV} (h : Rows w lo (treeRows n1 v1 ls n2 v2 hs)) (hn : ls.length = n1) (hs1 : ∀ x ∈ ls, lgrSm m x.l) : Ls w w.heap.size n1 v1 ls := by
  subst hn
  have hl := h.left
  refine ⟨Sl.of_own (show w.ownsRow _ _ 6 v1 _ _ from hl.head), fun x hx => ?_⟩
  obtain ⟨a, ⟨b, b'⟩, c, c'⟩ := hs1 x hx
  refine ⟨by unfold maxTxt; omega, ⟨?_, fun t ht => ?_⟩, ⟨?_, fun f hf => ?_⟩⟩
  · exact Sl.of_own (show w.ownsRow _ _ 1 x.hv x.hn _ from hl.tail.mem (mem_lrows hx (List.mem_cons_self ..)))
  · have := b' t ht; unfold maxTxt; omega
  · exact Sl.of_own (show w.ownsRow _ _ 3 x.fv x.fn _ from hl.tail.mem (mem_lrows hx (List.mem_cons_of_mem _ (List.mem_cons_self ..))))
  · have := c' f hf; omega
end Go.Proofs.Ytihigemelekflaa
