/-
  Slices of Warning, told by their rows. By gen_kind.py.
-/
import Derived.Test.YtlifaeleoiodkaaGreatDoorGWarning
import Derived.Test.YtlifaeleoiodkaaGreatDoorMarks
namespace Go.Proofs.YtlifaeleoiodkaaGreatDoor
open Go.RowKit Nm
set_option linter.unusedSimpArgs false
set_option linter.unusedVariables false

def WrnsR (rs : List Row) (v : Value) (l : List Wrn) : Prop := rs = [⟨59, 3, l.length, v, l.flatMap wncells⟩]
def WrnsFit (l : List Wrn) : Prop := l.length ≤ maxTxt ∧ ∀ x ∈ l, wncellsFit x
def WrnsIn (w : World) (B : Nat) (v : Value) (l : List Wrn) : Prop := Wrns w B l.length v l ∧ l.length ≤ maxTxt
def WrnsM (rs : List Row) (v : Value) (k r : Nat) : Prop := ∃ n xs, rs = [⟨59, 3, n, v, xs⟩] ∧ MarkedK wncellsKinds 3 xs k (n * 3) ∧ r = k + n * 3 ∧ n * 3 + k ≤ 17592186044416
section
variable {w w' : World} {B B' lo : Nat} {v : Value} {l : List Wrn} {rs rest : List Row}
theorem WrnsIn.below (h : WrnsIn w B v l) (hb : Below B' w w') (hB : B ≤ B') : WrnsIn w' B v l := ⟨h.1.below hb hB, h.2⟩
theorem WrnsIn.more (h : WrnsIn w B v l) (hB : B ≤ B') : WrnsIn w B' v l := ⟨h.1.more hB, h.2⟩
theorem WrnsIn.form (h : WrnsIn w B v l) : ∃ A n c, v = .slice A n c := by obtain ⟨A, c, h1, _, _⟩ := h.1.1.form; exact ⟨A, _, c, h1⟩
theorem WrnsR.at_ (h : WrnsR rs v l) (hr : Rows w lo rs) (hf : WrnsFit l) : WrnsIn w w.heap.size v l := by
  subst h; exact ⟨⟨Sl.of_own (show w.ownsRow _ _ 3 v _ _ from hr.head), hf.2⟩, hf.1⟩
theorem WrnsR.form (h : WrnsR rs v l) (hr : Rows w lo rs) : ∃ A n c, v = .slice A n c := by
  subst h; obtain ⟨A, c, h1, _, _⟩ := (Sl.of_own (show w.ownsRow _ _ 3 v _ _ from hr.head)).form; exact ⟨A, _, c, h1⟩
theorem WrnsR.of_own (h : w'.ownsRow w.heap.size 59 3 v l.length (l.flatMap wncells)) : ∃ rs, WrnsR rs v l ∧ Rows w' w.heap.size rs := ⟨_, rfl, Rows.one h⟩
theorem WrnsR.nil (w : World) (lo : Nat) : ∃ rs, WrnsR rs (.slice none 0 0) ([] : List Wrn) ∧ Rows w lo rs := ⟨_, rfl, Rows.one (World.ownsRow_nil _ _ _ _)⟩
theorem WrnsFit.nil : WrnsFit [] := ⟨by simp [maxTxt], by simp⟩
end
theorem toWrnsX_c (v : Value) (n B : Nat) (l : List Wrn) (w : World) (hv : Sl w B 3 n v (l.flatMap wncells)) (hB : B ≤ w.heap.size) (hf : WrnsFit l) :
    Calls Tryz.prog 11 #[v] w fun e w' => ∃ v' rs, e = .returned v' ∧ WrnsR rs v' l ∧ Rows w' w.heap.size rs ∧ Below w.heap.size w w' := by
  have hn := Sl.count wncells_len hv (by omega)
  have h1 := hf.1
  unfold maxTxt at h1
  refine (toWarningS_c v n B l w hv hB (by omega)).mono ?_
  rintro e w' ⟨v', rfl, ho, hb⟩
  subst hn
  exact ⟨v', _, rfl, rfl, Rows.one ho, hb⟩
theorem eqWrnsX_c {rs rs' : List Row} {v v' : Value} {l : List Wrn} {w : World} {lo lo' : Nat} (h : WrnsR rs v l) (hr : Rows w lo rs) (h' : WrnsR rs' v' l) (hr' : Rows w lo' rs') :
    Calls Tryz.prog 16 #[v, v'] w (BoolPost w true) := by
  subst h; subst h'
  exact eqWarningS_c v v' l.length w.heap.size l w (Sl.of_own (show w.ownsRow _ _ 3 v _ _ from hr.head)) (Sl.of_own (show w.ownsRow _ _ 3 v' _ _ from hr'.head)) (Nat.le_refl _)
theorem markWrnsX_c {rs rest : List Row} {v : Value} {l : List Wrn} {w : World} {lo k : Nat} (h : WrnsR rs v l) (hR : Rows w lo (rs ++ rest)) (hlo : lo ≤ w.heap.size) (hd : WrnsFit l) (hk : k ≤ 17000000000000) :
    Calls Tryz.prog 19 #[v, .int .i64 k] w fun e w' => ∃ (r : Nat) (rs' : List Row), e = .returned (.int .i64 (r : Int)) ∧ WrnsM rs' v k r ∧ Rows w' lo (rs' ++ rest) ∧ Below lo w w' ∧ r ≤ k + 8388608 := by
  subst h
  have h1 := hd.1
  unfold maxTxt at h1
  have ho : w.ownsRow lo 59 3 v l.length (l.flatMap wncells) := hR.left.head
  refine (markWarningS_c v l.length lo k _ w ho (by omega)).mono ?_
  rintro e w' ⟨rfl, ⟨ys, ho', hM⟩, hg⟩
  exact ⟨_, _, rfl, ⟨_, _, rfl, hM, rfl, by omega⟩, Rows.write1 hR hg ho', below_of_grown hg hlo (own_lt ho), by omega⟩
theorem WrnsM.form {rs : List Row} {v : Value} {k r lo : Nat} {w : World} (h : WrnsM rs v k r) (hr : Rows w lo rs) : ∃ A n c, v = .slice A n c := by
  obtain ⟨n, xs, rfl, _⟩ := h; obtain ⟨A, c, h1, _, _⟩ := (Sl.of_own (show w.ownsRow _ _ 3 v _ _ from hr.head)).form; exact ⟨A, _, c, h1⟩
def WrnsRaw (w : World) (B : Nat) (A : Option Addr) (n c : Nat) (l : List Wrn) : Prop := Sl w B 3 n (.slice A n c) (l.flatMap wncells) ∧ ∀ x ∈ l, x.tx.length ≤ maxLen ∧ x.md.length ≤ maxLen
theorem WrnsRaw.below {w w' : World} {B B' : Nat} {A : Option Addr} {n c : Nat} {l : List Wrn} (h : WrnsRaw w B A n c l) (hb : Below B' w w') (hB : B ≤ B') : WrnsRaw w' B A n c l := ⟨h.1.below hb hB, h.2⟩
theorem szWrnsY_c (A : Option Addr) (n c : Nat) (l : List Wrn) (B : Nat) (left : Int) (w : World) (h : WrnsRaw w B A n c l) (hB : B ≤ w.heap.size) (h0 : 0 ≤ left) (h1 : left ≤ 1048576) :
    Calls Tryz.prog 7 #[.slice A n c, .int .i64 left] w (SzPost left (WrnsFit l) w) := by
  have hn := Sl.count wncells_len h.1 (by omega)
  have := szWarningS_c (.slice A n c) n B l left w h.1 hB h.2 h0 h1
  unfold WrnsFit
  rw [hn]
  exact this
theorem toWrnsY_c (A : Option Addr) (n c : Nat) (l : List Wrn) (B : Nat) (w : World) (h : WrnsRaw w B A n c l) (hB : B ≤ w.heap.size) (hf : WrnsFit l) :
    Calls Tryz.prog 11 #[.slice A n c] w fun e w' => ∃ v' rs, e = .returned v' ∧ WrnsR rs v' l ∧ Rows w' w.heap.size rs ∧ Below w.heap.size w w' := toWrnsX_c _ n B l w h.1 hB hf
end Go.Proofs.YtlifaeleoiodkaaGreatDoor
