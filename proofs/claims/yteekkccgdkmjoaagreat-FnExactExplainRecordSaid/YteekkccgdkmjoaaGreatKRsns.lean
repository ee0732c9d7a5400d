/-
  Slices of Reason, told by their rows. By gen_kind.py.
-/
import Derived.Test.YteekkccgdkmjoaaGreatGReason
import Derived.Test.YteekkccgdkmjoaaGreatMarks
namespace Go.Proofs.YteekkccgdkmjoaaGreat
open Go.RowKit Nm
set_option linter.unusedSimpArgs false
set_option linter.unusedVariables false

def RsnsR (rs : List Row) (v : Value) (l : List Rsn) : Prop := rs = [⟨77, 3, l.length, v, l.flatMap rscells⟩]
def RsnsFit (l : List Rsn) : Prop := l.length ≤ maxTxt ∧ ∀ x ∈ l, rscellsFit x
def RsnsIn (w : World) (B : Nat) (v : Value) (l : List Rsn) : Prop := Rsns w B l.length v l ∧ l.length ≤ maxTxt
def RsnsM (rs : List Row) (v : Value) (k r : Nat) : Prop := ∃ n xs, rs = [⟨77, 3, n, v, xs⟩] ∧ MarkedK rscellsKinds 3 xs k (n * 3) ∧ r = k + n * 3 ∧ n * 3 + k ≤ 17592186044416
section
variable {w w' : World} {B B' lo : Nat} {v : Value} {l : List Rsn} {rs rest : List Row}
theorem RsnsIn.below (h : RsnsIn w B v l) (hb : Below B' w w') (hB : B ≤ B') : RsnsIn w' B v l := ⟨h.1.below hb hB, h.2⟩
theorem RsnsIn.more (h : RsnsIn w B v l) (hB : B ≤ B') : RsnsIn w B' v l := ⟨h.1.more hB, h.2⟩
theorem RsnsIn.form (h : RsnsIn w B v l) : ∃ A n c, v = .slice A n c := by obtain ⟨A, c, h1, _, _⟩ := h.1.1.form; exact ⟨A, _, c, h1⟩
theorem RsnsR.at_ (h : RsnsR rs v l) (hr : Rows w lo rs) (hf : RsnsFit l) : RsnsIn w w.heap.size v l := by
  subst h; exact ⟨⟨Sl.of_own (show w.ownsRow _ _ 3 v _ _ from hr.head), hf.2⟩, hf.1⟩
theorem RsnsR.form (h : RsnsR rs v l) (hr : Rows w lo rs) : ∃ A n c, v = .slice A n c := by
  subst h; obtain ⟨A, c, h1, _, _⟩ := (Sl.of_own (show w.ownsRow _ _ 3 v _ _ from hr.head)).form; exact ⟨A, _, c, h1⟩
theorem RsnsR.of_own (h : w'.ownsRow w.heap.size 77 3 v l.length (l.flatMap rscells)) : ∃ rs, RsnsR rs v l ∧ Rows w' w.heap.size rs := ⟨_, rfl, Rows.one h⟩
theorem RsnsR.nil (w : World) (lo : Nat) : ∃ rs, RsnsR rs (.slice none 0 0) ([] : List Rsn) ∧ Rows w lo rs := ⟨_, rfl, Rows.one (World.ownsRow_nil _ _ _ _)⟩
theorem RsnsFit.nil : RsnsFit [] := ⟨by simp [maxTxt], by simp⟩
end
theorem eqRsnsX_c {rs rs' : List Row} {v v' : Value} {l : List Rsn} {w : World} {lo lo' : Nat} (h : RsnsR rs v l) (hr : Rows w lo rs) (h' : RsnsR rs' v' l) (hr' : Rows w lo' rs') :
    Calls Tryz.prog 19 #[v, v'] w (BoolPost w true) := by
  subst h; subst h'
  exact eqReasonS_c v v' l.length w.heap.size l w (Sl.of_own (show w.ownsRow _ _ 3 v _ _ from hr.head)) (Sl.of_own (show w.ownsRow _ _ 3 v' _ _ from hr'.head)) (Nat.le_refl _)
theorem markRsnsX_c {rs rest : List Row} {v : Value} {l : List Rsn} {w : World} {lo k : Nat} (h : RsnsR rs v l) (hR : Rows w lo (rs ++ rest)) (hlo : lo ≤ w.heap.size) (hd : RsnsFit l) (hk : k ≤ 17000000000000) :
    Calls Tryz.prog 20 #[v, .int .i64 k] w fun e w' => ∃ (r : Nat) (rs' : List Row), e = .returned (.int .i64 (r : Int)) ∧ RsnsM rs' v k r ∧ Rows w' lo (rs' ++ rest) ∧ Below lo w w' ∧ r ≤ k + 8388608 := by
  subst h
  have h1 := hd.1
  unfold maxTxt at h1
  have ho : w.ownsRow lo 77 3 v l.length (l.flatMap rscells) := hR.left.head
  refine (markReasonS_c v l.length lo k _ w ho (by omega)).mono ?_
  rintro e w' ⟨rfl, ⟨ys, ho', hM⟩, hg⟩
  exact ⟨_, _, rfl, ⟨_, _, rfl, hM, rfl, by omega⟩, Rows.write1 hR hg ho', below_of_grown hg hlo (own_lt ho), by omega⟩
theorem heldRsnsX_c {rs : List Row} {v : Value} {k r lo : Nat} {w : World} (h : RsnsM rs v k r) (hR : Rows w lo rs) :
    Calls Tryz.prog 21 #[v, .int .i64 k] w fun e w' => e = .returned (.int .i64 (r : Int)) ∧ Below w.heap.size w w' := by
  obtain ⟨n, xs, rfl, hM, rfl, hn⟩ := h
  exact heldReasonS_c v n w.heap.size k xs w (Sl.of_own (show w.ownsRow _ _ 3 v _ _ from hR.head)) (Nat.le_refl _) hM hn
theorem RsnsM.form {rs : List Row} {v : Value} {k r lo : Nat} {w : World} (h : RsnsM rs v k r) (hr : Rows w lo rs) : ∃ A n c, v = .slice A n c := by
  obtain ⟨n, xs, rfl, _⟩ := h; obtain ⟨A, c, h1, _, _⟩ := (Sl.of_own (show w.ownsRow _ _ 3 v _ _ from hr.head)).form; exact ⟨A, _, c, h1⟩
end Go.Proofs.YteekkccgdkmjoaaGreat
