/-
  Slices of Sent, told by their rows. By gen_kind.py.
-/
import Derived.Test.YtlifaeleoiodkaaGreatDoorGM
import Derived.Test.YtlifaeleoiodkaaGreatDoorMarks
namespace Go.Proofs.YtlifaeleoiodkaaGreatDoor
open Go.RowKit Nm
set_option linter.unusedSimpArgs false
set_option linter.unusedVariables false

def SentsR (rs : List Row) (v : Value) (l : List Snt) : Prop := rs = [⟨83, 6, l.length, v, l.flatMap sncells⟩]
def SentsFit (l : List Snt) : Prop := l.length ≤ maxTxt ∧ ∀ x ∈ l, sncellsFit x
def SentsIn (w : World) (B : Nat) (v : Value) (l : List Snt) : Prop := Snts w B l.length v l ∧ l.length ≤ maxTxt
def SentsM (rs : List Row) (v : Value) (k r : Nat) : Prop := ∃ n xs, rs = [⟨83, 6, n, v, xs⟩] ∧ MarkedK sncellsKinds 6 xs k (n * 6) ∧ r = k + n * 6 ∧ n * 6 + k ≤ 17592186044416
section
variable {w w' : World} {B B' lo : Nat} {v : Value} {l : List Snt} {rs rest : List Row}
theorem SentsIn.below (h : SentsIn w B v l) (hb : Below B' w w') (hB : B ≤ B') : SentsIn w' B v l := ⟨h.1.below hb hB, h.2⟩
theorem SentsIn.more (h : SentsIn w B v l) (hB : B ≤ B') : SentsIn w B' v l := ⟨h.1.more hB, h.2⟩
theorem SentsIn.form (h : SentsIn w B v l) : ∃ A n c, v = .slice A n c := by obtain ⟨A, c, h1, _, _⟩ := h.1.1.form; exact ⟨A, _, c, h1⟩
theorem SentsR.at_ (h : SentsR rs v l) (hr : Rows w lo rs) (hf : SentsFit l) : SentsIn w w.heap.size v l := by
  subst h; exact ⟨⟨Sl.of_own (show w.ownsRow _ _ 6 v _ _ from hr.head), hf.2⟩, hf.1⟩
theorem SentsR.form (h : SentsR rs v l) (hr : Rows w lo rs) : ∃ A n c, v = .slice A n c := by
  subst h; obtain ⟨A, c, h1, _, _⟩ := (Sl.of_own (show w.ownsRow _ _ 6 v _ _ from hr.head)).form; exact ⟨A, _, c, h1⟩
theorem SentsR.of_own (h : w'.ownsRow w.heap.size 83 6 v l.length (l.flatMap sncells)) : ∃ rs, SentsR rs v l ∧ Rows w' w.heap.size rs := ⟨_, rfl, Rows.one h⟩
theorem SentsR.nil (w : World) (lo : Nat) : ∃ rs, SentsR rs (.slice none 0 0) ([] : List Snt) ∧ Rows w lo rs := ⟨_, rfl, Rows.one (World.ownsRow_nil _ _ _ _)⟩
theorem SentsFit.nil : SentsFit [] := ⟨by simp [maxTxt], by simp⟩
end
theorem eqSentsX_c {rs rs' : List Row} {v v' : Value} {l : List Snt} {w : World} {lo lo' : Nat} (h : SentsR rs v l) (hr : Rows w lo rs) (h' : SentsR rs' v' l) (hr' : Rows w lo' rs') :
    Calls Tryz.prog 13 #[v, v'] w (BoolPost w true) := by
  subst h; subst h'
  exact eqSentS_c v v' l.length w.heap.size l w (Sl.of_own (show w.ownsRow _ _ 6 v _ _ from hr.head)) (Sl.of_own (show w.ownsRow _ _ 6 v' _ _ from hr'.head)) (Nat.le_refl _)
theorem markSentsX_c {rs rest : List Row} {v : Value} {l : List Snt} {w : World} {lo k : Nat} (h : SentsR rs v l) (hR : Rows w lo (rs ++ rest)) (hlo : lo ≤ w.heap.size) (hd : SentsFit l) (hk : k ≤ 17000000000000) :
    Calls Tryz.prog 20 #[v, .int .i64 k] w fun e w' => ∃ (r : Nat) (rs' : List Row), e = .returned (.int .i64 (r : Int)) ∧ SentsM rs' v k r ∧ Rows w' lo (rs' ++ rest) ∧ Below lo w w' ∧ r ≤ k + 8388608 := by
  subst h
  have h1 := hd.1
  unfold maxTxt at h1
  have ho : w.ownsRow lo 83 6 v l.length (l.flatMap sncells) := hR.left.head
  refine (markSentS_c v l.length lo k _ w ho (by omega)).mono ?_
  rintro e w' ⟨rfl, ⟨ys, ho', hM⟩, hg⟩
  exact ⟨_, _, rfl, ⟨_, _, rfl, hM, rfl, by omega⟩, Rows.write1 hR hg ho', below_of_grown hg hlo (own_lt ho), by omega⟩
theorem heldSentsX_c {rs : List Row} {v : Value} {k r lo : Nat} {w : World} (h : SentsM rs v k r) (hR : Rows w lo rs) :
    Calls Tryz.prog 21 #[v, .int .i64 k] w fun e w' => e = .returned (.int .i64 (r : Int)) ∧ Below w.heap.size w w' := by
  obtain ⟨n, xs, rfl, hM, rfl, hn⟩ := h
  exact heldSentS_c v n w.heap.size k xs w (Sl.of_own (show w.ownsRow _ _ 6 v _ _ from hR.head)) (Nat.le_refl _) hM hn
theorem SentsM.form {rs : List Row} {v : Value} {k r lo : Nat} {w : World} (h : SentsM rs v k r) (hr : Rows w lo rs) : ∃ A n c, v = .slice A n c := by
  obtain ⟨n, xs, rfl, _⟩ := h; obtain ⟨A, c, h1, _, _⟩ := (Sl.of_own (show w.ownsRow _ _ 6 v _ _ from hr.head)).form; exact ⟨A, _, c, h1⟩
def SentsRaw (w : World) (B : Nat) (A : Option Addr) (n c : Nat) (l : List Snt) : Prop := Sl w B 6 n (.slice A n c) (l.flatMap sncells) ∧ ∀ x ∈ l, x.lg.length ≤ maxLen ∧ x.hd.length ≤ maxLen ∧ x.rc.nm.length ≤ maxLen ∧ x.rc.tx.length ≤ maxLen
theorem SentsRaw.below {w w' : World} {B B' : Nat} {A : Option Addr} {n c : Nat} {l : List Snt} (h : SentsRaw w B A n c l) (hb : Below B' w w') (hB : B ≤ B') : SentsRaw w' B A n c l := ⟨h.1.below hb hB, h.2⟩
end Go.Proofs.YtlifaeleoiodkaaGreatDoor
