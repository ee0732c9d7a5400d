/-
  Tree: told by its rows, as gen_any.py's walks want a kind.
-/
import Derived.Test.YtlifaeleoiodkaaGreatDoorCM
import Derived.Test.YtlifaeleoiodkaaGreatDoorMarks
namespace Go.Proofs.YtlifaeleoiodkaaGreatDoor
open Go.RowKit Nm
set_option linter.unusedSimpArgs false
set_option linter.unusedVariables false

def resD (o : Option TreeD) : TreeD := (resL o, resH o, resQ o)
def TreR (rs : List Row) (v : Value) (d : TreeD) : Prop := TreeS rs v d.1 d.2.1 d.2.2
def TreIn (w : World) (B : Nat) (v : Value) (d : TreeD) : Prop := TreeIn w B v d.1 d.2.1 d.2.2
def TreM (rs : List Row) (v : Value) (k r : Nat) : Prop := Stamped rs v k r
def TreFit (d : TreeD) : Prop := dataFit d.1 d.2.1
def TreRaw (w : World) (B : Nat) (Aa : Option Addr) (na ca : Nat) (Ab : Option Addr) (nb cb : Nat) (d : TreeD) : Prop := ∃ la lb, treeRaw w B Aa na ca Ab nb cb la lb ∧ lsOf la = d.1 ∧ hsOf lb = d.2.1
section
variable {w w' : World} {B B' lo : Nat} {v : Value} {d : TreeD} {rs rest : List Row}
theorem TreIn.below (h : TreIn w B v d) (hb : Below B' w w') (hB : B ≤ B') : TreIn w' B v d := TreeIn.below h hb hB
theorem TreIn.form (h : TreIn w B v d) : ∃ A1 n1 k1 A2 n2 k2, v = .agg #[.slice A1 n1 k1, .slice A2 n2 k2, .int .i64 d.2.2] := TreeIn.form h
theorem TreR.at_ (h : TreR rs v d) (hr : Rows w lo rs) (hf : TreFit d) : TreIn w w.heap.size v d := TreeS.at_ h hr hf
theorem TreR.form (h : TreR rs v d) (hr : Rows w lo rs) : ∃ A1 n1 k1 A2 n2 k2, v = .agg #[.slice A1 n1 k1, .slice A2 n2 k2, .int .i64 d.2.2] := by
  obtain ⟨v1, v2, ls, hs, rfl, hL, hH, rfl⟩ := h
  obtain ⟨hl, hh⟩ := hr.lsIn
  obtain ⟨A3, c3, rfl, _, _⟩ := hl.1.form
  obtain ⟨A4, c4, rfl, _, _⟩ := hh.1.form
  exact ⟨_, _, _, _, _, _, rfl⟩
theorem TreM.form {k r : Nat} (h : TreM rs v k r) (hr : Rows w lo rs) : ∃ A1 n1 k1 A2 n2 k2 q, v = .agg #[.slice A1 n1 k1, .slice A2 n2 k2, .int .i64 q] := by
  obtain ⟨v1, v2, q, l0, ls, h0, hs, rfl, rfl, _⟩ := h
  obtain ⟨hl, hh⟩ := hr.lsIn
  obtain ⟨A3, c3, rfl, _, _⟩ := hl.1.form
  obtain ⟨A4, c4, rfl, _, _⟩ := hh.1.form
  exact ⟨_, _, _, _, _, _, _, rfl⟩
theorem TreRaw.below {Aa : Option Addr} {na ca : Nat} {Ab : Option Addr} {nb cb : Nat} (h : TreRaw w B Aa na ca Ab nb cb d) (hb : Below B' w w') (hB : B ≤ B') : TreRaw w' B Aa na ca Ab nb cb d := by
  obtain ⟨la, lb, h1, h2, h3⟩ := h
  exact ⟨la, lb, h1.below hb hB, h2, h3⟩
end
theorem fit_back {w : World} {B : Nat} {Aa : Option Addr} {na ca : Nat} {Ab : Option Addr} {nb cb : Nat} {la : List LgrV} {lb : List HndV} (h : treeRaw w B Aa na ca Ab nb cb la lb) (hd : dataFit (lsOf la) (hsOf lb)) : treeFit na nb la lb := by
  have h1 := Sl.count lcells_len h.1.1 (by omega)
  have h2 := Sl.count hcells_len h.2.1 (by omega)
  refine ⟨⟨by have := hd.1.1; simp [lsOf] at this; omega, fun x hx => ?_⟩, ⟨by have := hd.2.1; simp [hsOf] at this; omega, fun x hx => ?_⟩⟩
  · obtain ⟨a, b, c⟩ := hd.1.2 x.l (List.mem_map.2 ⟨x, hx, rfl⟩)
    obtain ⟨a', b', c'⟩ := h.1.2 x hx
    have e1 : x.l.hs.length = x.hn := by have := b'.1.1; simpa using this
    have e2 : x.l.fs.length = x.fn := by have := c'.1.flen; exact this
    exact ⟨a, ⟨by omega, b.2⟩, ⟨by omega, c.2⟩⟩
  · obtain ⟨a, c⟩ := hd.2.2 x.h (List.mem_map.2 ⟨x, hx, rfl⟩)
    obtain ⟨a', c'⟩ := h.2.2 x hx
    have e2 : x.h.fs.length = x.fn := by have := c'.1.flen; exact this
    exact ⟨a, ⟨by omega, c.2⟩⟩
theorem szTreY_c (Aa : Option Addr) (na ca : Nat) (Ab : Option Addr) (nb cb : Nat) (d : TreeD) (B : Nat) (left : Int) (w : World) (h : TreRaw w B Aa na ca Ab nb cb d) (hB : B ≤ w.heap.size) (h0 : 0 ≤ left) (h1 : left ≤ 1048576) :
    Calls Tryz.prog 5 #[.agg #[.slice Aa na ca, .slice Ab nb cb, .int .i64 d.2.2], .int .i64 left] w (SzPost left (TreFit d) w) := by
  obtain ⟨la, lb, hr, hL, hH⟩ := h
  refine (szTree_c Aa na ca Ab nb cb B d.2.2 la lb left w hr hB h0 h1).mono ?_
  rintro e w' ⟨r, rfl, hb, hx⟩
  refine ⟨r, rfl, hb, ?_⟩
  rcases hx with hx | ⟨x0, x1, hf⟩
  · exact .inl hx
  · refine .inr ⟨x0, x1, ?_⟩
    have := fit_data hr hf
    rw [hL, hH] at this; exact this
theorem toTreY_c (Aa : Option Addr) (na ca : Nat) (Ab : Option Addr) (nb cb : Nat) (d : TreeD) (B : Nat) (w : World) (h : TreRaw w B Aa na ca Ab nb cb d) (hB : B ≤ w.heap.size) (hf : TreFit d) :
    Calls Tryz.prog 9 #[.agg #[.slice Aa na ca, .slice Ab nb cb, .int .i64 d.2.2]] w fun e w' => ∃ v' rs, e = .returned v' ∧ TreR rs v' d ∧ Rows w' w.heap.size rs ∧ Below w.heap.size w w' := by
  obtain ⟨la, lb, hr, hL, hH⟩ := h
  have h9 := toTreeX_c Aa na ca Ab nb cb B d.2.2 la lb w hr (fit_back hr (by rw [hL, hH]; exact hf)) hB
  rw [hL, hH] at h9
  exact h9
theorem eqTreX_c {rs rs' : List Row} {v v' : Value} {d : TreeD} {w : World} {lo lo' : Nat} (h : TreR rs v d) (hr : Rows w lo rs) (h' : TreR rs' v' d) (hr' : Rows w lo' rs') (hd : TreFit d) :
    Calls Tryz.prog 14 #[v, v'] w (BoolPost w true) := eqTreeX_c h hr h' hr' hd
theorem markTreX_c {rs rest : List Row} {v : Value} {d : TreeD} {w : World} {lo k : Nat} (h : TreR rs v d) (hR : Rows w lo (rs ++ rest)) (hlo : lo ≤ w.heap.size) (hd : TreFit d) (hk : k ≤ 8000000000000) :
    Calls Tryz.prog 17 #[v, .int .i64 k] w fun e w' => ∃ (r : Nat) (rs' : List Row), e = .returned (.int .i64 (r : Int)) ∧ TreM rs' v k r ∧ Rows w' lo (rs' ++ rest) ∧ Below lo w w' ∧ r ≤ k + 7700000000000 := by
  obtain ⟨v1, v2, ls, hs, rfl, hL, hH, rfl⟩ := h
  obtain ⟨hl, hh⟩ := hR.left.lsIn
  have b1 : ∀ x ∈ ls, wdV x ≤ 4194308 := fun x hx => by
    obtain ⟨_, h2, h3⟩ := hd.1.2 x.l (by rw [← hL]; exact List.mem_map.2 ⟨x, hx, rfl⟩)
    have e1 : x.l.hs.length = x.hn := by have := (hl.2 x hx).1.1; simpa using this
    have e2 : x.l.fs.length = x.fn := (hl.2 x hx).2.flen
    have h2' := h2.1
    have h3' := h3.1
    unfold maxTxt at h2' h3'
    unfold wdV; omega
  have b2 : ∀ x ∈ hs, wdH x ≤ 3145730 := fun x hx => by
    obtain ⟨_, h3⟩ := hd.2.2 x.h (by rw [← hH]; exact List.mem_map.2 ⟨x, hx, rfl⟩)
    have e2 : x.h.fs.length = x.fn := (hh.2 x hx).flen
    have h3' := h3.1
    unfold maxTxt at h3'
    unfold wdH; omega
  have s1 := sum_le ls wdV b1
  have s2 := sum_le hs wdH b2
  have n1 : ls.length ≤ 1048576 := by have := hd.1.1; rw [← hL] at this; simpa [lsOf, maxTxt] using this
  have n2 : hs.length ≤ 1048576 := by have := hd.2.1; rw [← hH] at this; simpa [hsOf, maxTxt] using this
  have m1 : ls.length * 4194308 ≤ 1048576 * 4194308 := Nat.mul_le_mul_right _ n1
  have m2 : hs.length * 3145730 ≤ 1048576 * 3145730 := Nat.mul_le_mul_right _ n2
  refine (markTree_c v1 v2 d.2.2 lo k ls hs rest w hR hlo (by omega)).mono ?_
  rintro e w' ⟨ls', hs', rfl, hM1, hM2, hR', hb⟩
  exact ⟨_, _, rfl, ⟨v1, v2, d.2.2, ls, ls', hs, hs', rfl, rfl, hM1, hM2, rfl, by omega⟩, hR', hb, by omega⟩
end Go.Proofs.YtlifaeleoiodkaaGreatDoor
