/-
  Spot: how slices of them lie in memory, and the walks of what the laws do with them (sized, copied, compared, marked, held). By gen_flat.py.
-/
import Derived.Test.YteekkccgdkmjoaaGreatHelps
namespace Go.Proofs.YteekkccgdkmjoaaGreat
open Go.RowKit Nm
set_option linter.unusedSimpArgs false
set_option linter.unusedVariables false

structure Spt where
  lg : List UInt8
  hd : List UInt8
deriving DecidableEq
def spcells (x : Spt) : List Value := [txt x.lg, txt x.hd]
theorem spcells_len (x : Spt) : (spcells x).length = 2 := rfl
def spcellsFit (x : Spt) : Prop := x.lg.length ≤ maxTxt ∧ x.hd.length ≤ maxTxt
def Sps (w : World) (B n : Nat) (v : Value) (l : List Spt) : Prop := Sl w B 2 n v (l.flatMap spcells) ∧ ∀ x ∈ l, spcellsFit x
section
variable {w w' : World} {B B' n : Nat} {v : Value} {l : List Spt}
theorem Sps.below (h : Sps w B n v l) (hb : Below B' w w') (hB : B ≤ B') : Sps w' B n v l := ⟨h.1.below hb hB, h.2⟩
theorem Sps.more (h : Sps w B n v l) (hB : B ≤ B') : Sps w B' n v l := ⟨h.1.more hB, h.2⟩
theorem Sps.count (h : Sps w B n v l) : l.length = n := Sl.count spcells_len h.1 (by omega)
end
/-- element k: its cells -/
theorem spcells_at {w : World} {B n c : Nat} {A : Option Addr} {l : List Spt} (h : Sl w B 2 n (.slice A n c) (l.flatMap spcells)) {k : Nat} (hk : k < n) :
    ∃ (b o : Nat) (lg : ByteArray) (hd : ByteArray), A = some ⟨b, o, none⟩ ∧ b < B ∧ l[k]? = some ⟨lg.data.toList, hd.data.toList⟩ ∧ w.cell? ⟨b, o + k * 2, none⟩ = some (.string lg) ∧ w.cell? ⟨b, o + k * 2 + 1, none⟩ = some (.string hd) := by
  obtain ⟨b, o, x, e, hb, hx, hc⟩ := Sl.elem spcells_len h (by omega) hk
  obtain ⟨lg, hd⟩ := x
  exact ⟨b, o, ⟨lg.toArray⟩, ⟨hd.toArray⟩, e, hb, by simpa using hx, hc 0 _ rfl, hc 1 _ rfl⟩
theorem spcells_fit {l : List Spt} {k : Nat} {lg : ByteArray} {hd : ByteArray} (h : ∀ x ∈ l, spcellsFit x) (hx : l[k]? = some ⟨lg.data.toList, hd.data.toList⟩) : lg.size ≤ maxTxt ∧ hd.size ≤ maxTxt := by
  have := h _ (List.mem_of_getElem? hx)
  simpa [spcellsFit, ← Lib.size_eq] using this

theorem Tryz.infoSpot : (Tryz.prog.info? 65).map (fun i => (i.zero, i.size, i.bytes)) = some (some (.agg #[.string ByteArray.empty, .string ByteArray.empty]), 2, 32) := by kernel_rfl

/-- append of one Spot -/
theorem appSpot (w : World) {ops : Array Oper} {rest : List Oper} {o : Oper} {a : Act} {Q : Exit → Act → World → Prop} (hg : o.guard = none) (s x : Operand)
    (ho : o.op = .call { callee := .builtin .append, args := #[s, x], argTypes := #[101, 101] }) (base : Nat) (v : Value) (l : List Spt) (hs : a.eval s = v)
    (hown : w.ownsRow base 65 2 v l.length (l.flatMap spcells)) (lg : ByteArray) (hd : ByteArray) (b0 c : Nat) (te : TypeId) (hx : a.eval x = .slice (some ⟨b0, 0, none⟩) 1 c) (hb0 : b0 = w.heap.size) (hl : l.length ≤ 1048576) (hbase : base ≤ w.heap.size)
    (h : ∀ v' w', w'.ownsRow base 65 2 v' (l ++ [(⟨lg.data.toList, hd.data.toList⟩ : Spt)]).length ((l ++ [(⟨lg.data.toList, hd.data.toList⟩ : Spt)]).flatMap spcells) → Below base w w' → wpList Tryz.prog ops Q rest (a.put o.dst v') w') :
    wpList Tryz.prog ops Q (o :: rest) a (w.alloc (.cells #[.string lg, .string hd] te)) := by
  subst hb0
  obtain ⟨i0, hi, hz0, hz1, hz2⟩ := info_parts Tryz.infoSpot
  refine wpList_app1 w hg s x 101 ho base 65 i0 _ 2 32 Tryz.underlying101 hi hz0 hz1 hz2 rfl (by decide) v l.length _ hs hown [.string lg, .string hd] c te hx rfl (List.all_eq_true.1 rfl) (by unfold maxLen; omega) (by omega) hbase fun v' w' h1 h2 => h v' w' ?_ h2
  simpa [spcells, txt_data] using h1

theorem spcells_one (l : List Spt) : ∀ u ∈ l.flatMap spcells, u.oneCell' = true := by
  intro u hu
  obtain ⟨x, _, hx⟩ := List.mem_flatMap.1 hu
  simp only [spcells, List.mem_cons, List.not_mem_nil, or_false] at hx
  rcases hx with rfl | rfl <;> rfl
/-- append of a slice -/
theorem appSpotS (w : World) {ops : Array Oper} {rest : List Oper} {o : Oper} {a : Act} {Q : Exit → Act → World → Prop} (hg : o.guard = none) (s x : Operand)
    (ho : o.op = .call { callee := .builtin .append, args := #[s, x], argTypes := #[101, 101] }) (base : Nat) (v : Value) (l l2 : List Spt) (hs : a.eval s = v)
    (hown : w.ownsRow base 65 2 v l.length (l.flatMap spcells)) (B : Nat) (src : Value) (hx : a.eval x = src) (hsl : Sl w B 2 l2.length src (l2.flatMap spcells)) (hl : l.length + l2.length ≤ 4194304) (hbase : base ≤ w.heap.size)
    (h : ∀ v' w', w'.ownsRow base 65 2 v' (l ++ l2).length ((l ++ l2).flatMap spcells) → Below base w w' → wpList Tryz.prog ops Q rest (a.put o.dst v') w') :
    wpList Tryz.prog ops Q (o :: rest) a w := by
  obtain ⟨i0, hi, hz0, hz1, hz2⟩ := info_parts Tryz.infoSpot
  refine wpList_appSl w hg s x 101 ho base 65 i0 _ 2 32 Tryz.underlying101 hi hz0 hz1 hz2 rfl (by decide) v l.length _ hs hown B l2.length src _ hx hsl (spcells_one l2) (by unfold maxLen; omega) (by omega) hbase fun v' w' h1 h2 => h v' w' ?_ h2
  simpa using h1

def spcellsKinds : List Bool := [true, true]

end Go.Proofs.YteekkccgdkmjoaaGreat
