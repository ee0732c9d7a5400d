/-
  Rule: how slices of them lie in memory, and the walks of what the laws do with them (sized, copied, compared, marked, held). By gen_flat.py.
-/
import Derived.Test.YtochbjockoenpaaDoorHelps
namespace Go.Proofs.YtochbjockoenpaaDoor
open Go.RowKit Nm
set_option linter.unusedSimpArgs false
set_option linter.unusedVariables false

structure Rul where
  ac : Int
  wd : List UInt8
  md : List UInt8
  ln : Int
deriving DecidableEq
def rucells (x : Rul) : List Value := [.int .i64 x.ac, txt x.wd, txt x.md, .int .i64 x.ln]
theorem rucells_len (x : Rul) : (rucells x).length = 4 := rfl
def rucellsFit (x : Rul) : Prop := x.wd.length ≤ maxTxt ∧ x.md.length ≤ maxTxt
def Ruls (w : World) (B n : Nat) (v : Value) (l : List Rul) : Prop := Sl w B 4 n v (l.flatMap rucells) ∧ ∀ x ∈ l, rucellsFit x
section
variable {w w' : World} {B B' n : Nat} {v : Value} {l : List Rul}
theorem Ruls.below (h : Ruls w B n v l) (hb : Below B' w w') (hB : B ≤ B') : Ruls w' B n v l := ⟨h.1.below hb hB, h.2⟩
theorem Ruls.more (h : Ruls w B n v l) (hB : B ≤ B') : Ruls w B' n v l := ⟨h.1.more hB, h.2⟩
theorem Ruls.count (h : Ruls w B n v l) : l.length = n := Sl.count rucells_len h.1 (by omega)
end
/-- element k: its cells -/
theorem rucells_at {w : World} {B n c : Nat} {A : Option Addr} {l : List Rul} (h : Sl w B 4 n (.slice A n c) (l.flatMap rucells)) {k : Nat} (hk : k < n) :
    ∃ (b o : Nat) (ac : Int) (wd : ByteArray) (md : ByteArray) (ln : Int), A = some ⟨b, o, none⟩ ∧ b < B ∧ l[k]? = some ⟨ac, wd.data.toList, md.data.toList, ln⟩ ∧ w.cell? ⟨b, o + k * 4, none⟩ = some (.int .i64 ac) ∧ w.cell? ⟨b, o + k * 4 + 1, none⟩ = some (.string wd) ∧ w.cell? ⟨b, o + k * 4 + 2, none⟩ = some (.string md) ∧ w.cell? ⟨b, o + k * 4 + 3, none⟩ = some (.int .i64 ln) := by
  obtain ⟨b, o, x, e, hb, hx, hc⟩ := Sl.elem rucells_len h (by omega) hk
  obtain ⟨ac, wd, md, ln⟩ := x
  exact ⟨b, o, ac, ⟨wd.toArray⟩, ⟨md.toArray⟩, ln, e, hb, by simpa using hx, hc 0 _ rfl, hc 1 _ rfl, hc 2 _ rfl, hc 3 _ rfl⟩
theorem rucells_fit {l : List Rul} {k : Nat} {ac : Int} {wd : ByteArray} {md : ByteArray} {ln : Int} (h : ∀ x ∈ l, rucellsFit x) (hx : l[k]? = some ⟨ac, wd.data.toList, md.data.toList, ln⟩) : wd.size ≤ maxTxt ∧ md.size ≤ maxTxt := by
  have := h _ (List.mem_of_getElem? hx)
  simpa [rucellsFit, ← Lib.size_eq] using this

theorem Tryd.infoRule : (Tryd.prog.info? 33).map (fun i => (i.zero, i.size, i.bytes)) = some (some (.agg #[.int .i64 0, .string ByteArray.empty, .string ByteArray.empty, .int .i64 0]), 4, 48) := by kernel_rfl

/-- append of one Rule -/
theorem appRule (w : World) {ops : Array Oper} {rest : List Oper} {o : Oper} {a : Act} {Q : Exit → Act → World → Prop} (hg : o.guard = none) (s x : Operand)
    (ho : o.op = .call { callee := .builtin .append, args := #[s, x], argTypes := #[23, 23] }) (base : Nat) (v : Value) (l : List Rul) (hs : a.eval s = v)
    (hown : w.ownsRow base 33 4 v l.length (l.flatMap rucells)) (ac : Int) (wd : ByteArray) (md : ByteArray) (ln : Int) (b0 c : Nat) (te : TypeId) (hx : a.eval x = .slice (some ⟨b0, 0, none⟩) 1 c) (hb0 : b0 = w.heap.size) (hl : l.length ≤ 1048576) (hbase : base ≤ w.heap.size)
    (h : ∀ v' w', w'.ownsRow base 33 4 v' (l ++ [(⟨ac, wd.data.toList, md.data.toList, ln⟩ : Rul)]).length ((l ++ [(⟨ac, wd.data.toList, md.data.toList, ln⟩ : Rul)]).flatMap rucells) → Below base w w' → wpList Tryd.prog ops Q rest (a.put o.dst v') w') :
    wpList Tryd.prog ops Q (o :: rest) a (w.alloc (.cells #[.int .i64 ac, .string wd, .string md, .int .i64 ln] te)) := by
  subst hb0
  obtain ⟨i0, hi, hz0, hz1, hz2⟩ := info_parts Tryd.infoRule
  refine wpList_app1 w hg s x 23 ho base 33 i0 _ 4 48 Tryd.underlying23 hi hz0 hz1 hz2 rfl (by decide) v l.length _ hs hown [.int .i64 ac, .string wd, .string md, .int .i64 ln] c te hx rfl (List.all_eq_true.1 rfl) (by unfold maxLen; omega) (by omega) hbase fun v' w' h1 h2 => h v' w' ?_ h2
  simpa [rucells, txt_data] using h1

theorem rucells_one (l : List Rul) : ∀ u ∈ l.flatMap rucells, u.oneCell' = true := by
  intro u hu
  obtain ⟨x, _, hx⟩ := List.mem_flatMap.1 hu
  simp only [rucells, List.mem_cons, List.not_mem_nil, or_false] at hx
  rcases hx with rfl | rfl | rfl | rfl <;> rfl
/-- append of a slice -/
theorem appRuleS (w : World) {ops : Array Oper} {rest : List Oper} {o : Oper} {a : Act} {Q : Exit → Act → World → Prop} (hg : o.guard = none) (s x : Operand)
    (ho : o.op = .call { callee := .builtin .append, args := #[s, x], argTypes := #[23, 23] }) (base : Nat) (v : Value) (l l2 : List Rul) (hs : a.eval s = v)
    (hown : w.ownsRow base 33 4 v l.length (l.flatMap rucells)) (B : Nat) (src : Value) (hx : a.eval x = src) (hsl : Sl w B 4 l2.length src (l2.flatMap rucells)) (hl : l.length + l2.length ≤ 4194304) (hbase : base ≤ w.heap.size)
    (h : ∀ v' w', w'.ownsRow base 33 4 v' (l ++ l2).length ((l ++ l2).flatMap rucells) → Below base w w' → wpList Tryd.prog ops Q rest (a.put o.dst v') w') :
    wpList Tryd.prog ops Q (o :: rest) a w := by
  obtain ⟨i0, hi, hz0, hz1, hz2⟩ := info_parts Tryd.infoRule
  refine wpList_appSl w hg s x 23 ho base 33 i0 _ 4 48 Tryd.underlying23 hi hz0 hz1 hz2 rfl (by decide) v l.length _ hs hown B l2.length src _ hx hsl (rucells_one l2) (by unfold maxLen; omega) (by omega) hbase fun v' w' h1 h2 => h v' w' ?_ h2
  simpa using h1

def rucellsKinds : List Bool := [false, true, true, false]

end Go.Proofs.YtochbjockoenpaaDoor
