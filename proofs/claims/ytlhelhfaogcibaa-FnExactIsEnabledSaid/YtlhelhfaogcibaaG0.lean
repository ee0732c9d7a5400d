/-
  What the texts of gen_flat.py share.
-/
import Derived.Test.YtlhelhfaogcibaaW7
import Derived.Test.YtlhelhfaogcibaaA1
import Derived.Test.YtlhelhfaogcibaaW15
import Derived.Test.YtlhelhfaogcibaaT5
namespace Go.Proofs.Ytlhelhfaogcibaa
open Go.RowKit Nm
set_option linter.unusedSimpArgs false
set_option linter.unusedVariables false

def SzPost (left : Int) (P : Prop) (w : World) (e : Ending) (w' : World) : Prop :=
  ∃ r : Int, e = .returned (.int .i64 r) ∧ Below w.heap.size w w' ∧ (r < 0 ∨ (0 ≤ r ∧ r ≤ left ∧ P))
/-- a slice of the call's own -/
def RowPost (w : World) (T : TypeId) (d n : Nat) (xs : List Value) (e : Ending) (w' : World) : Prop :=
  ∃ v, e = .returned v ∧ w'.ownsRow w.heap.size T d v n xs ∧ Below w.heap.size w w'
/-- .. and whether it could be made -/
def RowPost2 (w : World) (T : TypeId) (d n : Nat) (xs : List Value) (b : Bool) (e : Ending) (w' : World) : Prop :=
  ∃ v, e = .returned (.tuple #[v, .bool b]) ∧ w'.ownsRow w.heap.size T d v n xs ∧ Below w.heap.size w w'
theorem own_cell {w : World} {base d g c n : Nat} {T : TypeId} {xs : List Value} (h : w.ownsRow base T d (.slice (some ⟨g, 0, none⟩) n c) n xs) {j : Nat} (hj : j < n * d) : ∃ u, w.cell? ⟨g, j, none⟩ = some u :=
  ⟨_, (h.cellAt j (by have := h.1; omega)).trans (List.getElem?_eq_getElem (by have := h.1; omega))⟩
section
variable {w : World} {base n c g d : Nat} {e : TypeId} {xs : List Value}
theorem own_put2 (h : w.ownsRow base e d (.slice (some ⟨g, 0, none⟩) n c) n xs) (j : Nat) (a1 a2 : Value) :
    ((w.setCell ⟨g, j, none⟩ a1).setCell ⟨g, j + 1, none⟩ a2).ownsRow base e d (.slice (some ⟨g, 0, none⟩) n c) n ((xs.set j a1).set (j + 1) a2) :=
  ((h.stored j a1).1.stored (j + 1) a2).1
theorem own_put3 (h : w.ownsRow base e d (.slice (some ⟨g, 0, none⟩) n c) n xs) (j : Nat) (a1 a2 a3 : Value) :
    (((w.setCell ⟨g, j, none⟩ a1).setCell ⟨g, j + 1, none⟩ a2).setCell ⟨g, j + 2, none⟩ a3).ownsRow base e d (.slice (some ⟨g, 0, none⟩) n c) n (((xs.set j a1).set (j + 1) a2).set (j + 2) a3) :=
  ((own_put2 h j a1 a2).stored (j + 2) a3).1
theorem own_put4 (h : w.ownsRow base e d (.slice (some ⟨g, 0, none⟩) n c) n xs) (j : Nat) (a1 a2 a3 a4 : Value) :
    ((((w.setCell ⟨g, j, none⟩ a1).setCell ⟨g, j + 1, none⟩ a2).setCell ⟨g, j + 2, none⟩ a3).setCell ⟨g, j + 3, none⟩ a4).ownsRow base e d (.slice (some ⟨g, 0, none⟩) n c) n ((((xs.set j a1).set (j + 1) a2).set (j + 2) a3).set (j + 3) a4) :=
  ((own_put3 h j a1 a2 a3).stored (j + 3) a4).1
theorem own_put6 (h : w.ownsRow base e d (.slice (some ⟨g, 0, none⟩) n c) n xs) (j : Nat) (a1 a2 a3 a4 a5 a6 : Value) :
    ((((((w.setCell ⟨g, j, none⟩ a1).setCell ⟨g, j + 1, none⟩ a2).setCell ⟨g, j + 2, none⟩ a3).setCell ⟨g, j + 3, none⟩ a4).setCell ⟨g, j + 4, none⟩ a5).setCell ⟨g, j + 5, none⟩ a6).ownsRow base e d (.slice (some ⟨g, 0, none⟩) n c) n ((((((xs.set j a1).set (j + 1) a2).set (j + 2) a3).set (j + 3) a4).set (j + 4) a5).set (j + 5) a6) :=
  (((own_put4 h j a1 a2 a3 a4).stored (j + 4) a5).1.stored (j + 5) a6).1
end
/-- values put one behind the other, from place j on -/
def put_all : List Value → Nat → List Value → List Value
  | xs, _, [] => xs
  | xs, j, u :: us => put_all (xs.set j u) (j + 1) us
theorem put_all_len (us xs : List Value) (j : Nat) : (put_all xs j us).length = xs.length := by
  induction us generalizing xs j with
  | nil => rfl
  | cons u us ih => simp [put_all, ih]
theorem put_all_get (us xs : List Value) (j q : Nat) (h : j + us.length ≤ xs.length) : (put_all xs j us)[q]? = if q < j then xs[q]? else if q < j + us.length then us[q - j]? else xs[q]? := by
  induction us generalizing xs j with
  | nil => simp [put_all]; intros; omega
  | cons u us ih =>
    simp only [List.length_cons] at h
    rw [put_all, ih _ _ (by simp; omega)]
    simp only [List.length_cons, List.getElem?_set]
    by_cases h1 : q < j
    · rw [if_pos (by omega), if_neg (by omega), if_pos h1]
    · by_cases h2 : q = j
      · subst h2
        rw [if_pos (by omega), if_pos rfl, if_pos (by omega), if_neg (by omega), if_pos (by omega)]; simp
      · rw [if_neg (by omega), if_neg h1]
        by_cases h3 : q < j + 1 + us.length
        · rw [if_pos h3, if_pos (by omega), show q - j = (q - (j + 1)) + 1 by omega]; simp
        · rw [if_neg h3, if_neg (by omega), if_neg (by omega)]
theorem flat_put {α : Type} (f : α → List Value) (d : Nat) (hf : ∀ x, (f x).length = d) (l : List α) (k : Nat) (x : α) (hx : l[k]? = some x) (xs : List Value) (hd : 0 < d) (hl : xs.length = l.length * d)
    (hX : ∀ j, j < k * d → xs[j]? = (l.flatMap f)[j]?) (j : Nat) (hj : j < (k + 1) * d) : (put_all xs (k * d) (f x))[j]? = (l.flatMap f)[j]? := by
  have hk := (List.getElem?_eq_some_iff.1 hx).1
  have e : (k + 1) * d = k * d + d := by rw [Nat.add_mul]; omega
  have e2 : (k + 1) * d ≤ l.length * d := Nat.mul_le_mul_right d hk
  rw [put_all_get _ _ _ _ (by rw [hf]; omega)]
  by_cases h1 : j < k * d
  · rw [if_pos h1]; exact hX j h1
  · rw [if_neg h1, hf, if_pos (by omega), ← flat_at f d hf l k (j - k * d) x hx (by omega), show k * d + (j - k * d) = j by omega]
theorem flat_grow {α : Type} (f : α → List Value) (d : Nat) (hf : ∀ x, (f x).length = d) (l : List α) (y : α) (xs : List Value) (k : Nat) (hk : l.length = k) (hl : (k + 1) * d ≤ xs.length)
    (hX : ∀ j, j < k * d → xs[j]? = (l.flatMap f)[j]?) (j : Nat) (hj : j < (k + 1) * d) : (put_all xs (k * d) (f y))[j]? = ((l ++ [y]).flatMap f)[j]? := by
  have e : (k + 1) * d = k * d + d := by rw [Nat.add_mul]; omega
  have hfl := flat_len f d hf l
  rw [hk] at hfl
  rw [put_all_get _ _ _ _ (by rw [hf]; omega), List.flatMap_append]
  by_cases h1 : j < k * d
  · rw [if_pos h1, List.getElem?_append_left (by omega)]; exact hX j h1
  · rw [if_neg h1, hf, if_pos (by omega), List.getElem?_append_right (by omega), hfl]; simp
/-- the cells of marks: texts where 'true' -/
def mkv (s : Bool) (k : Nat) : Value := if s then txt (mt k) else .int .i64 k
def MarkedK (ks : List Bool) (d : Nat) (ys : List Value) (k m : Nat) : Prop := ∀ j, j < m → ys[j]? = some (mkv (ks.getD (j % d) false) (k + j))
def MarkPost (w : World) (v : Value) (base : Nat) (T : TypeId) (ks : List Bool) (d n k : Nat) (e : Ending) (w' : World) : Prop :=
  e = .returned (.int .i64 ((k + n * d : Nat) : Int)) ∧ (∃ ys, w'.ownsRow base T d v n ys ∧ MarkedK ks d ys k (n * d)) ∧ w.grownBy w' v.ownBlock
theorem grown_tr {a b c : World} {r : Option Nat} (h1 : a.grownBy b r) (h2 : b.grownBy c r) : a.grownBy c r :=
  ⟨h2.os.trans h1.os, h2.tape.trans h1.tape, h2.output.trans h1.output, Nat.le_trans h1.size h2.size, fun q hq hne => (h2.block q (by have := h1.size; omega) hne).trans (h1.block q hq hne)⟩
theorem own_some {w : World} {base d c n : Nat} {T : TypeId} {A : Option Addr} {xs : List Value} (h : w.ownsRow base T d (.slice A n c) n xs) (hn : 0 < n) : ∃ g, A = some ⟨g, 0, none⟩ ∧ g < w.heap.size := by
  rcases h.2 with ⟨h1, h2⟩ | ⟨g, cap, cur, h1, hbg, hgb, _⟩
  · omega
  · obtain ⟨rfl, rfl⟩ : A = some ⟨g, 0, none⟩ ∧ c = cap := by simpa using h1
    exact ⟨g, rfl, (Array.getElem?_eq_some_iff.1 hgb).1⟩
theorem mark_at {q : Int} {m : Nat} (W : World) (hq : q = (m : Int)) (hm : m ≤ 1099511627776) {x : ByteArray} (hx : txt (mt m) = .string x) :
    Calls Try.prog 50 #[.int .i64 q] W fun e w' => e = .returned (.string x) ∧ Below W.heap.size W w' := by
  rw [hq, ← hx]; exact markText_c m W hm
theorem marked_put {ks : List Bool} {d k i : Nat} {ys : List Value} (h : MarkedK ks d ys k (i * d)) (us : List Value) (hu : us.length = d) (hl : i * d + d ≤ ys.length) (hv : ∀ j, j < us.length → us[j]? = some (mkv (ks.getD j false) (k + i * d + j))) :
    MarkedK ks d (put_all ys (i * d) us) k ((i + 1) * d) := by
  intro j hj
  have e : (i + 1) * d = i * d + d := by rw [Nat.add_mul]; omega
  rw [put_all_get _ _ _ _ (by omega)]
  by_cases h1 : j < i * d
  · rw [if_pos h1]; exact h j h1
  · rw [if_neg h1, if_pos (by omega), hv _ (by omega)]
    have e3 : j % d = j - i * d := by
      rw [show j = (j - i * d) + d * i by rw [Nat.mul_comm d i]; omega, Nat.add_mul_mod_self_left, Nat.mod_eq_of_lt (by omega)]; rw [Nat.mul_comm d i]; omega
    rw [e3, show k + i * d + (j - i * d) = k + j by omega]
theorem marked_at {ks : List Bool} {d k n i j : Nat} {ys : List Value} {u : Value} (h : MarkedK ks d ys k (n * d)) (hij : i * d + j < n * d) (hj : j < d) (hu : mkv (ks.getD j false) (k + i * d + j) = u) : ys[i * d + j]? = some u := by
  rw [h _ hij, show (i * d + j) % d = j by rw [Nat.mul_comm i d, Nat.mul_add_mod, Nat.mod_eq_of_lt hj], ← Nat.add_assoc, hu]
theorem sl_elem {w : World} {B d n c : Nat} {A : Option Addr} {xs : List Value} (h : Sl w B d n (.slice A n c) xs) {k : Nat} (hk : k < n) :
    ∃ (b o : Nat), A = some ⟨b, o, none⟩ ∧ b < B ∧ ∀ j u, xs[k * d + j]? = some u → w.cell? ⟨b, o + k * d + j, none⟩ = some u := by
  obtain ⟨hl, A', c', he, h2, h3, h4⟩ := h
  obtain ⟨rfl, rfl⟩ : A = A' ∧ c = c' := by simpa using he
  obtain ⟨b, o, e, hb, hc⟩ := h4 (by omega)
  exact ⟨b, o, e, hb, fun j u hu => by rw [Nat.add_assoc]; exact hc _ u hu⟩
/-- old cells and old marks read as before: two rules that the walk takes -/
theorem bcell {W w1 : World} (hb : Below W.heap.size W w1) : (∀ b o, b < W.heap.size → w1.cell? ⟨b, o, none⟩ = W.cell? ⟨b, o, none⟩) ∧ (∀ b o, b < W.heap.size → w1.frozen? ⟨b, o, none⟩ = W.frozen? ⟨b, o, none⟩) :=
  ⟨fun b o h => hb.cell (p := ⟨b, o, none⟩) h, fun b o h => hb.frozen (p := ⟨b, o, none⟩) h⟩
theorem grownBy_refl' (w : World) (g : Nat) : w.grownBy w (some g) := World.grownBy.refl _ _
theorem mem_take_succ' {α : Type} (l : List α) (k : Nat) (x y : α) (h : l[k]? = some x) (hy : y ∈ l.take (k + 1)) : y = x ∨ y ∈ l.take k := by
  rw [List.take_add_one, h] at hy
  rcases List.mem_append.1 hy with hy | hy
  · exact .inr hy
  · exact .inl (by simpa using hy)
end Go.Proofs.Ytlhelhfaogcibaa
