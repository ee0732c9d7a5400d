/-
  Slices of Rule, told by their rows. By gen_kind.py.
-/
import Derived.Test.YtlifaeleoiodkaaGreatDoorGRule
import Derived.Test.YtlifaeleoiodkaaGreatDoorMarks
namespace Go.Proofs.YtlifaeleoiodkaaGreatDoor
open Go.RowKit Nm
set_option linter.unusedSimpArgs false
set_option linter.unusedVariables false

def RulesR (rs : List Row) (v : Value) (l : List Rul) : Prop := rs = [⟨63, 4, l.length, v, l.flatMap rucells⟩]
def RulesFit (l : List Rul) : Prop := l.length ≤ maxTxt ∧ ∀ x ∈ l, rucellsFit x
def RulesIn (w : World) (B : Nat) (v : Value) (l : List Rul) : Prop := Ruls w B l.length v l ∧ l.length ≤ maxTxt
def RulesM (rs : List Row) (v : Value) (k r : Nat) : Prop := ∃ n xs, rs = [⟨63, 4, n, v, xs⟩] ∧ MarkedK rucellsKinds 4 xs k (n * 4) ∧ r = k + n * 4 ∧ n * 4 + k ≤ 17592186044416
section
variable {w w' : World} {B B' lo : Nat} {v : Value} {l : List Rul} {rs rest : List Row}
theorem RulesIn.below (h : RulesIn w B v l) (hb : Below B' w w') (hB : B ≤ B') : RulesIn w' B v l := ⟨h.1.below hb hB, h.2⟩
theorem RulesIn.more (h : RulesIn w B v l) (hB : B ≤ B') : RulesIn w B' v l := ⟨h.1.more hB, h.2⟩
theorem RulesIn.form (h : RulesIn w B v l) : ∃ A n c, v = .slice A n c := by obtain ⟨A, c, h1, _, _⟩ := h.1.1.form; exact ⟨A, _, c, h1⟩
theorem RulesR.at_ (h : RulesR rs v l) (hr : Rows w lo rs) (hf : RulesFit l) : RulesIn w w.heap.size v l := by
  subst h; exact ⟨⟨Sl.of_own (show w.ownsRow _ _ 4 v _ _ from hr.head), hf.2⟩, hf.1⟩
theorem RulesR.form (h : RulesR rs v l) (hr : Rows w lo rs) : ∃ A n c, v = .slice A n c := by
  subst h; obtain ⟨A, c, h1, _, _⟩ := (Sl.of_own (show w.ownsRow _ _ 4 v _ _ from hr.head)).form; exact ⟨A, _, c, h1⟩
theorem RulesR.of_own (h : w'.ownsRow w.heap.size 63 4 v l.length (l.flatMap rucells)) : ∃ rs, RulesR rs v l ∧ Rows w' w.heap.size rs := ⟨_, rfl, Rows.one h⟩
theorem RulesR.nil (w : World) (lo : Nat) : ∃ rs, RulesR rs (.slice none 0 0) ([] : List Rul) ∧ Rows w lo rs := ⟨_, rfl, Rows.one (World.ownsRow_nil _ _ _ _)⟩
theorem RulesFit.nil : RulesFit [] := ⟨by simp [maxTxt], by simp⟩
end
theorem toRulesX_c (v : Value) (n B : Nat) (l : List Rul) (w : World) (hv : Sl w B 4 n v (l.flatMap rucells)) (hB : B ≤ w.heap.size) (hf : RulesFit l) :
    Calls Tryz.prog 10 #[v] w fun e w' => ∃ v' rs, e = .returned v' ∧ RulesR rs v' l ∧ Rows w' w.heap.size rs ∧ Below w.heap.size w w' := by
  have hn := Sl.count rucells_len hv (by omega)
  have h1 := hf.1
  unfold maxTxt at h1
  refine (toRuleS_c v n B l w hv hB (by omega)).mono ?_
  rintro e w' ⟨v', rfl, ho, hb⟩
  subst hn
  exact ⟨v', _, rfl, rfl, Rows.one ho, hb⟩
theorem eqRulesX_c {rs rs' : List Row} {v v' : Value} {l : List Rul} {w : World} {lo lo' : Nat} (h : RulesR rs v l) (hr : Rows w lo rs) (h' : RulesR rs' v' l) (hr' : Rows w lo' rs') :
    Calls Tryz.prog 15 #[v, v'] w (BoolPost w true) := by
  subst h; subst h'
  exact eqRuleS_c v v' l.length w.heap.size l w (Sl.of_own (show w.ownsRow _ _ 4 v _ _ from hr.head)) (Sl.of_own (show w.ownsRow _ _ 4 v' _ _ from hr'.head)) (Nat.le_refl _)
theorem markRulesX_c {rs rest : List Row} {v : Value} {l : List Rul} {w : World} {lo k : Nat} (h : RulesR rs v l) (hR : Rows w lo (rs ++ rest)) (hlo : lo ≤ w.heap.size) (hd : RulesFit l) (hk : k ≤ 17000000000000) :
    Calls Tryz.prog 18 #[v, .int .i64 k] w fun e w' => ∃ (r : Nat) (rs' : List Row), e = .returned (.int .i64 (r : Int)) ∧ RulesM rs' v k r ∧ Rows w' lo (rs' ++ rest) ∧ Below lo w w' ∧ r ≤ k + 8388608 := by
  subst h
  have h1 := hd.1
  unfold maxTxt at h1
  have ho : w.ownsRow lo 63 4 v l.length (l.flatMap rucells) := hR.left.head
  refine (markRuleS_c v l.length lo k _ w ho (by omega)).mono ?_
  rintro e w' ⟨rfl, ⟨ys, ho', hM⟩, hg⟩
  exact ⟨_, _, rfl, ⟨_, _, rfl, hM, rfl, by omega⟩, Rows.write1 hR hg ho', below_of_grown hg hlo (own_lt ho), by omega⟩
theorem RulesM.form {rs : List Row} {v : Value} {k r lo : Nat} {w : World} (h : RulesM rs v k r) (hr : Rows w lo rs) : ∃ A n c, v = .slice A n c := by
  obtain ⟨n, xs, rfl, _⟩ := h; obtain ⟨A, c, h1, _, _⟩ := (Sl.of_own (show w.ownsRow _ _ 4 v _ _ from hr.head)).form; exact ⟨A, _, c, h1⟩
def RulesRaw (w : World) (B : Nat) (A : Option Addr) (n c : Nat) (l : List Rul) : Prop := Sl w B 4 n (.slice A n c) (l.flatMap rucells) ∧ ∀ x ∈ l, x.wd.length ≤ maxLen ∧ x.md.length ≤ maxLen
theorem RulesRaw.below {w w' : World} {B B' : Nat} {A : Option Addr} {n c : Nat} {l : List Rul} (h : RulesRaw w B A n c l) (hb : Below B' w w') (hB : B ≤ B') : RulesRaw w' B A n c l := ⟨h.1.below hb hB, h.2⟩
theorem szRulesY_c (A : Option Addr) (n c : Nat) (l : List Rul) (B : Nat) (left : Int) (w : World) (h : RulesRaw w B A n c l) (hB : B ≤ w.heap.size) (h0 : 0 ≤ left) (h1 : left ≤ 1048576) :
    Calls Tryz.prog 6 #[.slice A n c, .int .i64 left] w (SzPost left (RulesFit l) w) := by
  have hn := Sl.count rucells_len h.1 (by omega)
  have := szRuleS_c (.slice A n c) n B l left w h.1 hB h.2 h0 h1
  unfold RulesFit
  rw [hn]
  exact this
theorem toRulesY_c (A : Option Addr) (n c : Nat) (l : List Rul) (B : Nat) (w : World) (h : RulesRaw w B A n c l) (hB : B ≤ w.heap.size) (hf : RulesFit l) :
    Calls Tryz.prog 10 #[.slice A n c] w fun e w' => ∃ v' rs, e = .returned v' ∧ RulesR rs v' l ∧ Rows w' w.heap.size rs ∧ Below w.heap.size w w' := toRulesX_c _ n B l w h.1 hB hf
end Go.Proofs.YtlifaeleoiodkaaGreatDoor
