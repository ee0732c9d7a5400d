/-
  Record: how slices of them lie in memory, and the walks of what the laws do with them (sized, copied, compared, marked, held). By gen_flat.py.
-/
import Derived.Test.YteekkccgdkmjoaaHelps
namespace Go.Proofs.Yteekkccgdkmjoaa
open Go.RowKit Nm
set_option linter.unusedSimpArgs false
set_option linter.unusedVariables false

theorem rcells_len (x : Rec) : (rcells x).length = 4 := rfl
def rcellsFit (x : Rec) : Prop := x.nm.length ≤ maxTxt ∧ x.tx.length ≤ maxTxt
def Rs (w : World) (B n : Nat) (v : Value) (l : List Rec) : Prop := Sl w B 4 n v (l.flatMap rcells) ∧ ∀ x ∈ l, rcellsFit x
section
variable {w w' : World} {B B' n : Nat} {v : Value} {l : List Rec}
theorem Rs.below (h : Rs w B n v l) (hb : Below B' w w') (hB : B ≤ B') : Rs w' B n v l := ⟨h.1.below hb hB, h.2⟩
theorem Rs.more (h : Rs w B n v l) (hB : B ≤ B') : Rs w B' n v l := ⟨h.1.more hB, h.2⟩
theorem Rs.count (h : Rs w B n v l) : l.length = n := Sl.count rcells_len h.1 (by omega)
end
/-- element k: its cells -/
theorem rcells_at {w : World} {B n c : Nat} {A : Option Addr} {l : List Rec} (h : Sl w B 4 n (.slice A n c) (l.flatMap rcells)) {k : Nat} (hk : k < n) :
    ∃ (b o : Nat) (nm : ByteArray) (lv : Int) (tx : ByteArray) (sq : Int), A = some ⟨b, o, none⟩ ∧ b < B ∧ l[k]? = some ⟨nm.data.toList, lv, tx.data.toList, sq⟩ ∧ w.cell? ⟨b, o + k * 4, none⟩ = some (.string nm) ∧ w.cell? ⟨b, o + k * 4 + 1, none⟩ = some (.int .i64 lv) ∧ w.cell? ⟨b, o + k * 4 + 2, none⟩ = some (.string tx) ∧ w.cell? ⟨b, o + k * 4 + 3, none⟩ = some (.int .i64 sq) := by
  obtain ⟨b, o, x, e, hb, hx, hc⟩ := Sl.elem rcells_len h (by omega) hk
  obtain ⟨nm, lv, tx, sq⟩ := x
  exact ⟨b, o, ⟨nm.toArray⟩, lv, ⟨tx.toArray⟩, sq, e, hb, by simpa using hx, hc 0 _ rfl, hc 1 _ rfl, hc 2 _ rfl, hc 3 _ rfl⟩
theorem rcells_fit {l : List Rec} {k : Nat} {nm : ByteArray} {lv : Int} {tx : ByteArray} {sq : Int} (h : ∀ x ∈ l, rcellsFit x) (hx : l[k]? = some ⟨nm.data.toList, lv, tx.data.toList, sq⟩) : nm.size ≤ maxTxt ∧ tx.size ≤ maxTxt := by
  have := h _ (List.mem_of_getElem? hx)
  simpa [rcellsFit, ← Lib.size_eq] using this

set_option maxHeartbeats 1000000 in
set_option maxRecDepth 100000 in
theorem szRecord_c (nm : ByteArray) (lv : Int) (tx : ByteArray) (sq : Int) (left : Int) (w : World) (hnm : nm.size ≤ maxLen) (htx : tx.size ≤ maxLen) (h0 : 0 ≤ left) (h1 : left ≤ 1048576) :
    Calls Try.prog 6 #[.agg #[.string nm, .int .i64 lv, .string tx, .int .i64 sq], .int .i64 left] w (SzPost left (nm.size ≤ maxTxt ∧ tx.size ≤ maxTxt) w) := by
  unfold maxLen at hnm htx
  go_enter Try.func6, Try.ntmps6
  go_wp2_with fail
  all_goals go_ret
  all_goals exact ⟨_, rfl, by go_grown, by unfold maxTxt; omega⟩

set_option maxHeartbeats 1000000 in
set_option maxRecDepth 100000 in
theorem toRecord_c (nm : ByteArray) (lv : Int) (tx : ByteArray) (sq : Int) (w : World) :
    Calls Try.prog 9 #[.agg #[.string nm, .int .i64 lv, .string tx, .int .i64 sq]] w fun e w' => e = .returned (.agg #[.string nm, .int .i64 lv, .string tx, .int .i64 sq]) ∧ Below w.heap.size w w' := by
  go_enter Try.func9, Try.ntmps9
  go_wp2_with fail
  go_returns
  exact ⟨rfl, by go_grown⟩
theorem Try.infoRecord : (Try.prog.info? 27).map (fun i => (i.zero, i.size, i.bytes)) = some (some (.agg #[.string ByteArray.empty, .int .i64 0, .string ByteArray.empty, .int .i64 0]), 4, 48) := by kernel_rfl

/-- append of one Record -/
theorem appRecord (w : World) {ops : Array Oper} {rest : List Oper} {o : Oper} {a : Act} {Q : Exit → Act → World → Prop} (hg : o.guard = none) (s x : Operand)
    (ho : o.op = .call { callee := .builtin .append, args := #[s, x], argTypes := #[41, 41] }) (base : Nat) (v : Value) (l : List Rec) (hs : a.eval s = v)
    (hown : w.ownsRow base 27 4 v l.length (l.flatMap rcells)) (nm : ByteArray) (lv : Int) (tx : ByteArray) (sq : Int) (b0 c : Nat) (te : TypeId) (hx : a.eval x = .slice (some ⟨b0, 0, none⟩) 1 c) (hb0 : b0 = w.heap.size) (hl : l.length ≤ 1048576) (hbase : base ≤ w.heap.size)
    (h : ∀ v' w', w'.ownsRow base 27 4 v' (l ++ [(⟨nm.data.toList, lv, tx.data.toList, sq⟩ : Rec)]).length ((l ++ [(⟨nm.data.toList, lv, tx.data.toList, sq⟩ : Rec)]).flatMap rcells) → Below base w w' → wpList Try.prog ops Q rest (a.put o.dst v') w') :
    wpList Try.prog ops Q (o :: rest) a (w.alloc (.cells #[.string nm, .int .i64 lv, .string tx, .int .i64 sq] te)) := by
  subst hb0
  obtain ⟨i0, hi, hz0, hz1, hz2⟩ := info_parts Try.infoRecord
  refine wpList_app1 w hg s x 41 ho base 27 i0 _ 4 48 Try.underlying41 hi hz0 hz1 hz2 rfl (by decide) v l.length _ hs hown [.string nm, .int .i64 lv, .string tx, .int .i64 sq] c te hx rfl (List.all_eq_true.1 rfl) (by unfold maxLen; omega) (by omega) hbase fun v' w' h1 h2 => h v' w' ?_ h2
  simpa [rcells, txt_data] using h1

theorem rcells_one (l : List Rec) : ∀ u ∈ l.flatMap rcells, u.oneCell' = true := by
  intro u hu
  obtain ⟨x, _, hx⟩ := List.mem_flatMap.1 hu
  simp only [rcells, List.mem_cons, List.not_mem_nil, or_false] at hx
  rcases hx with rfl | rfl | rfl | rfl <;> rfl
/-- append of a slice -/
theorem appRecordS (w : World) {ops : Array Oper} {rest : List Oper} {o : Oper} {a : Act} {Q : Exit → Act → World → Prop} (hg : o.guard = none) (s x : Operand)
    (ho : o.op = .call { callee := .builtin .append, args := #[s, x], argTypes := #[41, 41] }) (base : Nat) (v : Value) (l l2 : List Rec) (hs : a.eval s = v)
    (hown : w.ownsRow base 27 4 v l.length (l.flatMap rcells)) (B : Nat) (src : Value) (hx : a.eval x = src) (hsl : Sl w B 4 l2.length src (l2.flatMap rcells)) (hl : l.length + l2.length ≤ 4194304) (hbase : base ≤ w.heap.size)
    (h : ∀ v' w', w'.ownsRow base 27 4 v' (l ++ l2).length ((l ++ l2).flatMap rcells) → Below base w w' → wpList Try.prog ops Q rest (a.put o.dst v') w') :
    wpList Try.prog ops Q (o :: rest) a w := by
  obtain ⟨i0, hi, hz0, hz1, hz2⟩ := info_parts Try.infoRecord
  refine wpList_appSl w hg s x 41 ho base 27 i0 _ 4 48 Try.underlying41 hi hz0 hz1 hz2 rfl (by decide) v l.length _ hs hown B l2.length src _ hx hsl (rcells_one l2) (by unfold maxLen; omega) (by omega) hbase fun v' w' h1 h2 => h v' w' ?_ h2
  simpa using h1

set_option maxHeartbeats 1000000 in
set_option maxRecDepth 100000 in
theorem eqRecord_c (nm : ByteArray) (lv : Int) (tx : ByteArray) (sq : Int) (w : World) :
    Calls Try.prog 11 #[.agg #[.string nm, .int .i64 lv, .string tx, .int .i64 sq], .agg #[.string nm, .int .i64 lv, .string tx, .int .i64 sq]] w (BoolPost w true) := by
  have b0 : (nm.toList != nm.toList) = false := by simp
  have b1 : (lv != lv) = false := by simp
  have b2 : (tx.toList != tx.toList) = false := by simp
  have b3 : (sq != sq) = false := by simp
  go_enter Try.func11, Try.ntmps11
  go_wp2_with fail
  go_ret
  exact ⟨rfl, by go_grown⟩

def rcellsKinds : List Bool := [true, false, true, false]

end Go.Proofs.Yteekkccgdkmjoaa
