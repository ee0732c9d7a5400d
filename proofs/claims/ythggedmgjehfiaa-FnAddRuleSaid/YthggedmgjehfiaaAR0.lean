/-
  RULES ADDED: plain; copies into rows of the call's own.
-/
import Derived.Test.YthggedmgjehfiaaDL2
import Derived.Test.YthggedmgjehfiaaR10
import Derived.Test.YthggedmgjehfiaaKRules
import Derived.Laws.CopyRow
import Derived.Lib.AppendZerosOnto
import Derived.Lib.Overlaps
namespace Go.Proofs.Ythggedmgjehfiaa
open Go.RowKit Nm
set_option linter.unusedSimpArgs false
set_option linter.unusedVariables false

def notR (x y : Rul) : Bool := !decide (y = x)
/-- the rules without x, and x at one end -/
def addR (l : List Rul) (x : Rul) (front : Bool) : List Rul := if front then x :: l.filter (notR x) else l.filter (notR x) ++ [x]
def addROk (l : List Rul) (x : Rul) (front : Bool) : Bool := rulsOk l && rulsOk (addR l x front)
def addRX (l : List Rul) (x : Rul) (front : Bool) : List Rul := if addROk l x front then addR l x front else []
theorem addRX_fit {l : List Rul} {x : Rul} {front : Bool} (h : ∀ y ∈ l, rucellsFit y) (hx : rucellsFit x) : RulesFit (addRX l x front) := by
  unfold addRX
  split
  · rename_i h9
    unfold addROk rulsOk at h9
    simp only [Bool.and_eq_true, decide_eq_true_eq] at h9
    refine ⟨by have := h9.2.2; unfold maxTxt; omega, fun y hy => ?_⟩
    unfold addR at hy
    split at hy
    · rcases List.mem_cons.1 hy with rfl | hy
      · exact hx
      · exact h y (List.mem_filter.1 hy).1
    · rcases List.mem_append.1 hy with hy | hy
      · exact h y (List.mem_filter.1 hy).1
      · rw [List.mem_singleton.1 hy]; exact hx
  · exact RulesFit.nil

theorem run_copy_rowN {P : Program} (w : World) (dT sT ty elem : TypeId) (g o dLen dCap : Nat) (a : Addr) (sLen sCap : Nat) (cur : Array Value) (t : TypeId) (i : TypeInfo) (cs : List Value)
    (hu : P.underlying dT = some (.slice elem)) (hi : P.info? elem = some i)
    (hg : w.heap[g]? = some (.cells cur t (0, 0))) (hn : cs.length = Nat.min sLen dLen * i.size)
    (hsrc : ∀ j v, cs[j]? = some v → w.cell? (a.add j) = some v) (hfit : o + cs.length ≤ cur.size) (h1 : ∀ v ∈ cs, v.oneCell' = true) :
    (Builtin.copy_ #[dT, sT] ty #[.slice (some ⟨g, o, none⟩) dLen dCap, .slice (some a) sLen sCap]).run P w =
      .ok (goInt (Nat.min sLen dLen)) (w.setRow g (cur.toList.take o ++ cs ++ cur.toList.drop (o + cs.length)).toArray) := by
  have hl := run_loadCells_list (P := P) w a cs hsrc
  have hst := run_storeCells_at P g o t cs 0 cur w hg (by simpa using hfit) h1
  simp [Builtin.copy_, run_underlying hu, Builtin.lenOf, Builtin.firstCells, sizeOf, typeInfo, hi, ← hn, hl, hst]

theorem seg_take {α : Type} (cur cs : List α) (o N : Nat) (h1 : o + cs.length ≤ N) (h2 : N ≤ cur.length) :
    (cur.take o ++ cs ++ cur.drop (o + cs.length)).take N = (cur.take N).take o ++ cs ++ (cur.take N).drop (o + cs.length) := by
  have ho : (cur.take o).length = o := by rw [List.length_take]; omega
  rw [List.take_append, List.take_of_length_le (by rw [List.length_append, ho]; exact h1), List.length_append, ho, List.take_take, Nat.min_eq_left (by omega), List.drop_take]

theorem own_copy {P : Program} {W : World} {lo size n cap g k q o : Nat} {e t : TypeId} {i : TypeInfo} {xs cs : List Value} {a : Addr}
    (ht : P.underlying t = some (.slice e)) (hi : P.info? e = some i) (hsize : i.size = size)
    (h : W.ownsRow lo e size (.slice (some ⟨g, 0, none⟩) n cap) n xs) (ho : o = k * size) (hk : k + q ≤ n) (hcs : cs.length = q * size)
    (hsrc : ∀ j v, cs[j]? = some v → W.cell? (a.add j) = some v) (h1 : ∀ u ∈ cs, u.oneCell' = true) :
    ∃ W', (∀ (ty : TypeId) (dLen c sLen sCap : Nat), Nat.min sLen dLen = q → (Builtin.copy_ #[t, t] ty #[.slice (some ⟨g, o, none⟩) dLen c, .slice (some a) sLen sCap]).run P W = .ok (goInt q) W') ∧
      W'.ownsRow lo e size (.slice (some ⟨g, 0, none⟩) n cap) n (xs.take (k * size) ++ cs ++ xs.drop (k * size + cs.length)) ∧ W.grownBy W' (some g) := by
  subst ho
  have h1' := h.1
  rcases h.2 with ⟨h', _⟩ | ⟨g', cap', cur, h', hb, hg, hnc, hcm, hcz, htk⟩
  · simp at h'
  · simp only [Value.slice.injEq, Option.some.injEq, Addr.mk.injEq, and_true, true_and] at h'
    obtain ⟨rfl, rfl⟩ := h'
    have hkq : k * size + q * size ≤ n * size := by rw [← Nat.add_mul]; exact Nat.mul_le_mul_right _ hk
    have hnz : n * size ≤ cap * size := Nat.mul_le_mul_right _ hnc
    refine ⟨W.setRow g (cur.toList.take (k * size) ++ cs ++ cur.toList.drop (k * size + cs.length)).toArray, fun ty dLen c sLen sCap hq => ?_, ?_, ?_⟩
    · have hrun := run_copy_rowN (P := P) W t t ty e g (k * size) dLen c a sLen sCap cur e i cs ht hi hg (by rw [hq, hsize]; exact hcs) hsrc (by rw [hcs, hcz]; omega) h1
      rw [hq] at hrun
      exact hrun
    · refine ⟨?_, .inr ⟨g, cap, _, rfl, hb, setRow_heap W g cur _ e _ hg, hnc, hcm, ?_, ?_⟩⟩
      · rw [List.length_append, List.length_append, List.length_take, List.length_drop, h1', hcs]; omega
      · simp only [List.size_toArray, List.length_append, List.length_take, List.length_drop, Array.length_toList, hcs, hcz]; omega
      · simp only
        rw [seg_take cur.toList cs (k * size) (n * size) (by rw [hcs]; exact hkq) (by rw [Array.length_toList, hcz]; exact hnz), htk]
    · exact ⟨rfl, rfl, rfl, by simp [World.setRow], fun k _ hk => setRow_other W g k _ (fun e => hk (by simp [e]))⟩
/-- a slice of the call's own, lengthened within its room -/
theorem own_more {W : World} {lo size n cap g k : Nat} {e : TypeId} {xs : List Value} (h : W.ownsRow lo e size (.slice (some ⟨g, 0, none⟩) n cap) n xs) (hn : n ≤ k) (hk : k ≤ cap) :
    ∃ ys, W.ownsRow lo e size (.slice (some ⟨g, 0, none⟩) k cap) k (xs ++ ys) := by
  have h1' := h.1
  rcases h.2 with ⟨h', _⟩ | ⟨g', cap', cur, h', hb, hg, hnc, hcm, hcz, htk⟩
  · simp at h'
  · simp only [Value.slice.injEq, Option.some.injEq, Addr.mk.injEq, and_true, true_and] at h'
    obtain ⟨rfl, rfl⟩ := h'
    have hkn : n * size ≤ k * size := Nat.mul_le_mul_right _ hn
    have hkc : k * size ≤ cap * size := Nat.mul_le_mul_right _ hk
    refine ⟨(cur.toList.take (k * size)).drop (n * size), ?_, .inr ⟨g, cap, cur, rfl, hb, hg, hk, hcm, hcz, ?_⟩⟩
    · rw [List.length_append, List.length_drop, List.length_take, h1', Array.length_toList, hcz]; omega
    · have h9 : xs = (cur.toList.take (k * size)).take (n * size) := by rw [List.take_take, Nat.min_eq_left hkn, htk]
      rw [h9, List.take_append_drop]
/-- a new row is the call's own -/
theorem own_made (w : World) (ROW : Array Value) (e : TypeId) (size n G : Nat) (hs : ROW.size = G * size) (hn : n ≤ G) (hG : G ≤ maxLen) :
    (w.alloc (.cells ROW e)).ownsRow w.heap.size e size (.slice (some ⟨w.heap.size, 0, none⟩) n G) n (ROW.toList.take (n * size)) :=
  ⟨by rw [List.length_take, Array.length_toList, hs]; exact Nat.min_eq_left (Nat.mul_le_mul_right _ hn), .inr ⟨w.heap.size, G, ROW, rfl, Nat.le_refl _, by rw [show (w.alloc (.cells ROW e)).heap = w.heap.push (.cells ROW e) from rfl]; simp, hn, hG, hs, rfl⟩⟩
theorem wp_copyI {P : Program} {o : Oper} {a : Act} {w w' : World} {K : Act → World → Prop} {Q : Exit → Act → World → Prop} {v u v' : Value} {t : TypeId} {d s : Operand}
    (ho : o.op = .call { callee := .builtin .copy, args := #[d, s], argTypes := #[t, t] }) (hd : a.eval d = v) (hs : a.eval s = u)
    (hr : (Builtin.copy_ #[t, t] o.type #[v, u]).run P w = .ok v' w') (h : K (a.put o.dst v') w') : o.wp P a w K Q := by
  unfold Oper.wp execOp
  simp only [ho, resolve, invoke, builtin, Sem.run_bind, Sem.run_pure, Result.andThen_ok, List.map_toArray, List.map_cons, List.map_nil, hd, hs, hr]
  exact h
theorem wpList_copyI {P : Program} (w : World) {ops : Array Oper} {rest : List Oper} {o : Oper} {a : Act} {Q : Exit → Act → World → Prop} (hgd : o.guard = none) (d s : Operand) (t : TypeId)
    (ho : o.op = .call { callee := .builtin .copy, args := #[d, s], argTypes := #[t, t] }) (v u : Value) (hd : a.eval d = v) (hs : a.eval s = u) {v' : Value} {w' : World}
    (hr : (Builtin.copy_ #[t, t] o.type #[v, u]).run P w = .ok v' w') (h : wpList P ops Q rest (a.put o.dst v') w') : wpList P ops Q (o :: rest) a w :=
  wpList_plain hgd fun _ hK => wp_copyI ho hd hs hr (hK _ _ h)
end Go.Proofs.Ythggedmgjehfiaa
