/-
  Slices of Field, told by their rows. By gen_kind.py.
-/
import Derived.Test.YtmadcocbncmpoaaGField
import Derived.Test.YtmadcocbncmpoaaMarks
namespace Go.Proofs.Ytmadcocbncmpoaa
open Go.RowKit Nm
set_option linter.unusedSimpArgs false
set_option linter.unusedVariables false

def FldsR (rs : List Row) (v : Value) (l : List Fld) : Prop := rs = [⟨40, 2, l.length, v, l.flatMap fdcells⟩]
def FldsFit (l : List Fld) : Prop := l.length ≤ maxTxt ∧ ∀ x ∈ l, fdcellsFit x
def FldsIn (w : World) (B : Nat) (v : Value) (l : List Fld) : Prop := Flds w B l.length v l ∧ l.length ≤ maxTxt
def FldsM (rs : List Row) (v : Value) (k r : Nat) : Prop := ∃ n xs, rs = [⟨40, 2, n, v, xs⟩] ∧ MarkedK fdcellsKinds 2 xs k (n * 2) ∧ r = k + n * 2 ∧ n * 2 + k ≤ 17592186044416
section
variable {w w' : World} {B B' lo : Nat} {v : Value} {l : List Fld} {rs rest : List Row}
theorem FldsIn.below (h : FldsIn w B v l) (hb : Below B' w w') (hB : B ≤ B') : FldsIn w' B v l := ⟨h.1.below hb hB, h.2⟩
theorem FldsIn.more (h : FldsIn w B v l) (hB : B ≤ B') : FldsIn w B' v l := ⟨h.1.more hB, h.2⟩
theorem FldsIn.form (h : FldsIn w B v l) : ∃ A n c, v = .slice A n c := by obtain ⟨A, c, h1, _, _⟩ := h.1.1.form; exact ⟨A, _, c, h1⟩
theorem FldsR.at_ (h : FldsR rs v l) (hr : Rows w lo rs) (hf : FldsFit l) : FldsIn w w.heap.size v l := by
  subst h; exact ⟨⟨Sl.of_own (show w.ownsRow _ _ 2 v _ _ from hr.head), hf.2⟩, hf.1⟩
theorem FldsR.form (h : FldsR rs v l) (hr : Rows w lo rs) : ∃ A n c, v = .slice A n c := by
  subst h; obtain ⟨A, c, h1, _, _⟩ := (Sl.of_own (show w.ownsRow _ _ 2 v _ _ from hr.head)).form; exact ⟨A, _, c, h1⟩
theorem FldsR.of_own (h : w'.ownsRow w.heap.size 40 2 v l.length (l.flatMap fdcells)) : ∃ rs, FldsR rs v l ∧ Rows w' w.heap.size rs := ⟨_, rfl, Rows.one h⟩
theorem FldsR.nil (w : World) (lo : Nat) : ∃ rs, FldsR rs (.slice none 0 0) ([] : List Fld) ∧ Rows w lo rs := ⟨_, rfl, Rows.one (World.ownsRow_nil _ _ _ _)⟩
theorem FldsFit.nil : FldsFit [] := ⟨by simp [maxTxt], by simp⟩
end
theorem toFldsX_c (v : Value) (n B : Nat) (l : List Fld) (w : World) (hv : Sl w B 2 n v (l.flatMap fdcells)) (hB : B ≤ w.heap.size) (hf : FldsFit l) :
    Calls Try.prog 16 #[v] w fun e w' => ∃ v' rs, e = .returned v' ∧ FldsR rs v' l ∧ Rows w' w.heap.size rs ∧ Below w.heap.size w w' := by
  have hn := Sl.count fdcells_len hv (by omega)
  have h1 := hf.1
  unfold maxTxt at h1
  refine (toFieldS_c v n B l w hv hB (by omega)).mono ?_
  rintro e w' ⟨v', rfl, ho, hb⟩
  subst hn
  exact ⟨v', _, rfl, rfl, Rows.one ho, hb⟩
theorem eqFldsX_c {rs rs' : List Row} {v v' : Value} {l : List Fld} {w : World} {lo lo' : Nat} (h : FldsR rs v l) (hr : Rows w lo rs) (h' : FldsR rs' v' l) (hr' : Rows w lo' rs') :
    Calls Try.prog 8 #[v, v'] w (BoolPost w true) := by
  subst h; subst h'
  exact eqFieldS_c v v' l.length w.heap.size l w (Sl.of_own (show w.ownsRow _ _ 2 v _ _ from hr.head)) (Sl.of_own (show w.ownsRow _ _ 2 v' _ _ from hr'.head)) (Nat.le_refl _)
theorem markFldsX_c {rs rest : List Row} {v : Value} {l : List Fld} {w : World} {lo k : Nat} (h : FldsR rs v l) (hR : Rows w lo (rs ++ rest)) (hlo : lo ≤ w.heap.size) (hd : FldsFit l) (hk : k ≤ 17000000000000) :
    Calls Try.prog 11 #[v, .int .i64 k] w fun e w' => ∃ (r : Nat) (rs' : List Row), e = .returned (.int .i64 (r : Int)) ∧ FldsM rs' v k r ∧ Rows w' lo (rs' ++ rest) ∧ Below lo w w' ∧ r ≤ k + 8388608 := by
  subst h
  have h1 := hd.1
  unfold maxTxt at h1
  have ho : w.ownsRow lo 40 2 v l.length (l.flatMap fdcells) := hR.left.head
  refine (markFieldS_c v l.length lo k _ w ho (by omega)).mono ?_
  rintro e w' ⟨rfl, ⟨ys, ho', hM⟩, hg⟩
  exact ⟨_, _, rfl, ⟨_, _, rfl, hM, rfl, by omega⟩, Rows.write1 hR hg ho', below_of_grown hg hlo (own_lt ho), by omega⟩
theorem heldFldsX_c {rs : List Row} {v : Value} {k r lo : Nat} {w : World} (h : FldsM rs v k r) (hR : Rows w lo rs) :
    Calls Try.prog 12 #[v, .int .i64 k] w fun e w' => e = .returned (.int .i64 (r : Int)) ∧ Below w.heap.size w w' := by
  obtain ⟨n, xs, rfl, hM, rfl, hn⟩ := h
  exact heldFieldS_c v n w.heap.size k xs w (Sl.of_own (show w.ownsRow _ _ 2 v _ _ from hR.head)) (Nat.le_refl _) hM hn
theorem FldsM.form {rs : List Row} {v : Value} {k r lo : Nat} {w : World} (h : FldsM rs v k r) (hr : Rows w lo rs) : ∃ A n c, v = .slice A n c := by
  obtain ⟨n, xs, rfl, _⟩ := h; obtain ⟨A, c, h1, _, _⟩ := (Sl.of_own (show w.ownsRow _ _ 2 v _ _ from hr.head)).form; exact ⟨A, _, c, h1⟩
def FldsRaw (w : World) (B : Nat) (A : Option Addr) (n c : Nat) (l : List Fld) : Prop := Sl w B 2 n (.slice A n c) (l.flatMap fdcells) ∧ ∀ x ∈ l, x.ky.length ≤ maxLen ∧ x.vl.length ≤ maxLen
theorem FldsRaw.below {w w' : World} {B B' : Nat} {A : Option Addr} {n c : Nat} {l : List Fld} (h : FldsRaw w B A n c l) (hb : Below B' w w') (hB : B ≤ B') : FldsRaw w' B A n c l := ⟨h.1.below hb hB, h.2⟩
theorem szFldsY_c (A : Option Addr) (n c : Nat) (l : List Fld) (B : Nat) (left : Int) (w : World) (h : FldsRaw w B A n c l) (hB : B ≤ w.heap.size) (h0 : 0 ≤ left) (h1 : left ≤ 1048576) :
    Calls Try.prog 13 #[.slice A n c, .int .i64 left] w (SzPost left (FldsFit l) w) := by
  have hn := Sl.count fdcells_len h.1 (by omega)
  have := szFieldS_c (.slice A n c) n B l left w h.1 hB h.2 h0 h1
  unfold FldsFit
  rw [hn]
  exact this
theorem toFldsY_c (A : Option Addr) (n c : Nat) (l : List Fld) (B : Nat) (w : World) (h : FldsRaw w B A n c l) (hB : B ≤ w.heap.size) (hf : FldsFit l) :
    Calls Try.prog 16 #[.slice A n c] w fun e w' => ∃ v' rs, e = .returned v' ∧ FldsR rs v' l ∧ Rows w' w.heap.size rs ∧ Below w.heap.size w w' := toFldsX_c _ n B l w h.1 hB hf
end Go.Proofs.Ytmadcocbncmpoaa
