/-
  Slices of Record, told by their rows. By gen_kind.py.
-/
import Derived.Test.YtfjpfdmlcgkfeaaGM
import Derived.Test.YtfjpfdmlcgkfeaaMarks
namespace Go.Proofs.Ytfjpfdmlcgkfeaa
open Go.RowKit Nm
set_option linter.unusedSimpArgs false
set_option linter.unusedVariables false

def RecsR (rs : List Row) (v : Value) (l : List Rec) : Prop := rs = [⟨46, 4, l.length, v, l.flatMap rcells⟩]
def RecsFit (l : List Rec) : Prop := l.length ≤ maxTxt ∧ ∀ x ∈ l, rcellsFit x
def RecsIn (w : World) (B : Nat) (v : Value) (l : List Rec) : Prop := Rs w B l.length v l ∧ l.length ≤ maxTxt
def RecsM (rs : List Row) (v : Value) (k r : Nat) : Prop := ∃ n xs, rs = [⟨46, 4, n, v, xs⟩] ∧ MarkedK rcellsKinds 4 xs k (n * 4) ∧ r = k + n * 4 ∧ n * 4 + k ≤ 17592186044416
section
variable {w w' : World} {B B' lo : Nat} {v : Value} {l : List Rec} {rs rest : List Row}
theorem RecsIn.below (h : RecsIn w B v l) (hb : Below B' w w') (hB : B ≤ B') : RecsIn w' B v l := ⟨h.1.below hb hB, h.2⟩
theorem RecsIn.more (h : RecsIn w B v l) (hB : B ≤ B') : RecsIn w B' v l := ⟨h.1.more hB, h.2⟩
theorem RecsIn.form (h : RecsIn w B v l) : ∃ A n c, v = .slice A n c := by obtain ⟨A, c, h1, _, _⟩ := h.1.1.form; exact ⟨A, _, c, h1⟩
theorem RecsR.at_ (h : RecsR rs v l) (hr : Rows w lo rs) (hf : RecsFit l) : RecsIn w w.heap.size v l := by
  subst h; exact ⟨⟨Sl.of_own (show w.ownsRow _ _ 4 v _ _ from hr.head), hf.2⟩, hf.1⟩
theorem RecsR.form (h : RecsR rs v l) (hr : Rows w lo rs) : ∃ A n c, v = .slice A n c := by
  subst h; obtain ⟨A, c, h1, _, _⟩ := (Sl.of_own (show w.ownsRow _ _ 4 v _ _ from hr.head)).form; exact ⟨A, _, c, h1⟩
theorem RecsR.of_own (h : w'.ownsRow w.heap.size 46 4 v l.length (l.flatMap rcells)) : ∃ rs, RecsR rs v l ∧ Rows w' w.heap.size rs := ⟨_, rfl, Rows.one h⟩
theorem RecsR.nil (w : World) (lo : Nat) : ∃ rs, RecsR rs (.slice none 0 0) ([] : List Rec) ∧ Rows w lo rs := ⟨_, rfl, Rows.one (World.ownsRow_nil _ _ _ _)⟩
theorem RecsFit.nil : RecsFit [] := ⟨by simp [maxTxt], by simp⟩
end
theorem toRecsX_c (v : Value) (n B : Nat) (l : List Rec) (w : World) (hv : Sl w B 4 n v (l.flatMap rcells)) (hB : B ≤ w.heap.size) (hf : RecsFit l) :
    Calls Try.prog 9 #[v] w fun e w' => ∃ v' rs, e = .returned v' ∧ RecsR rs v' l ∧ Rows w' w.heap.size rs ∧ Below w.heap.size w w' := by
  have hn := Sl.count rcells_len hv (by omega)
  have h1 := hf.1
  unfold maxTxt at h1
  refine (toRecordS_c v n B l w hv hB (by omega)).mono ?_
  rintro e w' ⟨v', rfl, ho, hb⟩
  subst hn
  exact ⟨v', _, rfl, rfl, Rows.one ho, hb⟩
theorem eqRecsX_c {rs rs' : List Row} {v v' : Value} {l : List Rec} {w : World} {lo lo' : Nat} (h : RecsR rs v l) (hr : Rows w lo rs) (h' : RecsR rs' v' l) (hr' : Rows w lo' rs') :
    Calls Try.prog 13 #[v, v'] w (BoolPost w true) := by
  subst h; subst h'
  exact eqRecordS_c v v' l.length w.heap.size l w (Sl.of_own (show w.ownsRow _ _ 4 v _ _ from hr.head)) (Sl.of_own (show w.ownsRow _ _ 4 v' _ _ from hr'.head)) (Nat.le_refl _)
theorem markRecsX_c {rs rest : List Row} {v : Value} {l : List Rec} {w : World} {lo k : Nat} (h : RecsR rs v l) (hR : Rows w lo (rs ++ rest)) (hlo : lo ≤ w.heap.size) (hd : RecsFit l) (hk : k ≤ 17000000000000) :
    Calls Try.prog 15 #[v, .int .i64 k] w fun e w' => ∃ (r : Nat) (rs' : List Row), e = .returned (.int .i64 (r : Int)) ∧ RecsM rs' v k r ∧ Rows w' lo (rs' ++ rest) ∧ Below lo w w' ∧ r ≤ k + 8388608 := by
  subst h
  have h1 := hd.1
  unfold maxTxt at h1
  have ho : w.ownsRow lo 46 4 v l.length (l.flatMap rcells) := hR.left.head
  refine (markRecordS_c v l.length lo k _ w ho (by omega)).mono ?_
  rintro e w' ⟨rfl, ⟨ys, ho', hM⟩, hg⟩
  exact ⟨_, _, rfl, ⟨_, _, rfl, hM, rfl, by omega⟩, Rows.write1 hR hg ho', below_of_grown hg hlo (own_lt ho), by omega⟩
theorem heldRecsX_c {rs : List Row} {v : Value} {k r lo : Nat} {w : World} (h : RecsM rs v k r) (hR : Rows w lo rs) :
    Calls Try.prog 35 #[v, .int .i64 k] w fun e w' => e = .returned (.int .i64 (r : Int)) ∧ Below w.heap.size w w' := by
  obtain ⟨n, xs, rfl, hM, rfl, hn⟩ := h
  exact heldRecordS_c v n w.heap.size k xs w (Sl.of_own (show w.ownsRow _ _ 4 v _ _ from hR.head)) (Nat.le_refl _) hM hn
theorem RecsM.form {rs : List Row} {v : Value} {k r lo : Nat} {w : World} (h : RecsM rs v k r) (hr : Rows w lo rs) : ∃ A n c, v = .slice A n c := by
  obtain ⟨n, xs, rfl, _⟩ := h; obtain ⟨A, c, h1, _, _⟩ := (Sl.of_own (show w.ownsRow _ _ 4 v _ _ from hr.head)).form; exact ⟨A, _, c, h1⟩
def RecsRaw (w : World) (B : Nat) (A : Option Addr) (n c : Nat) (l : List Rec) : Prop := Sl w B 4 n (.slice A n c) (l.flatMap rcells) ∧ ∀ x ∈ l, x.nm.length ≤ maxLen ∧ x.tx.length ≤ maxLen
theorem RecsRaw.below {w w' : World} {B B' : Nat} {A : Option Addr} {n c : Nat} {l : List Rec} (h : RecsRaw w B A n c l) (hb : Below B' w w') (hB : B ≤ B') : RecsRaw w' B A n c l := ⟨h.1.below hb hB, h.2⟩
theorem szRecsY_c (A : Option Addr) (n c : Nat) (l : List Rec) (B : Nat) (left : Int) (w : World) (h : RecsRaw w B A n c l) (hB : B ≤ w.heap.size) (h0 : 0 ≤ left) (h1 : left ≤ 1048576) :
    Calls Try.prog 6 #[.slice A n c, .int .i64 left] w (SzPost left (RecsFit l) w) := by
  have hn := Sl.count rcells_len h.1 (by omega)
  have := szRecordS_c (.slice A n c) n B l left w h.1 hB h.2 h0 h1
  unfold RecsFit
  rw [hn]
  exact this
theorem toRecsY_c (A : Option Addr) (n c : Nat) (l : List Rec) (B : Nat) (w : World) (h : RecsRaw w B A n c l) (hB : B ≤ w.heap.size) (hf : RecsFit l) :
    Calls Try.prog 9 #[.slice A n c] w fun e w' => ∃ v' rs, e = .returned v' ∧ RecsR rs v' l ∧ Rows w' w.heap.size rs ∧ Below w.heap.size w w' := toRecsX_c _ n B l w h.1 hB hf
end Go.Proofs.Ytfjpfdmlcgkfeaa
