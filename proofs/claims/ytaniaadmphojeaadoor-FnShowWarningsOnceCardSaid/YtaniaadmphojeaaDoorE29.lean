/-
  DRAWS of the law of rules: a warning, rules and a warning; the first rule, plain. By gen_ruleof.py.
-/
import Derived.Test.YtaniaadmphojeaaDoorD14
import Derived.Test.YtaniaadmphojeaaDoorRU1
import Derived.Test.YtaniaadmphojeaaDoorStB
namespace Go.Proofs.YtaniaadmphojeaaDoor
open Go.RowKit Go.Proofs.YtaniaadmphojeaaDoor.Nm
set_option linter.unusedSimpArgs false
set_option linter.unusedVariables false

/-- a drawn warning -/
def WrnPost (R p dp : Nat) (w : World) (e : Ending) (w' : World) : Prop :=
  ∃ (tx md : ByteArray) (ln : Int) (p' : Nat), (tx.size ≤ 20 ∧ md.size ≤ 20) ∧ e = .returned (.agg #[.string tx, .string md, .int .i64 ln]) ∧ p' ≤ p + dp ∧ Rdr w' R p' ∧ w.grownBy w' (some R)
def wTexts : List (List UInt8) := [[120], [110, 111], [110, 111, 32, 120], [120]]
def wMods : List (List UInt8) := [[97], [97, 46, 98], [98], []]
set_option maxHeartbeats 4000000 in
set_option maxRecDepth 100000 in
theorem aWarning_c (R p : Nat) (w : World) (hr : Rdr w R p) (hp : p ≤ 900000) :
    Calls Tryd.prog 53 #[.pointer (some ⟨R, 0, none⟩)] w (WrnPost R p 4 w) := by
  have hlt := hr.lt
  have K0 := hid (Blk.new w #[.string ByteArray.empty, .string ByteArray.empty, .int .i64 0] 53)
  have C := hid (of_lit R p 4 20 wTexts _ (hr.below ((Below.refl _ _).alloc (Nat.le_refl _) (.cells #[.string ByteArray.empty, .string ByteArray.empty, .int .i64 0] 53))) (by omega) rfl (by omega) (by omega) (by decide))
  simp only [World.size_alloc] at C
  clear hr
  go_enter Tryd.func53, Tryd.ntmps53
  go_wp2_with fail
  refine C.out.mono ?_
  rintro e w1 ⟨tx, p1, htx, rfl, hp1, hr1, hg1⟩
  have G1 := hid (grown_tr (World.grownBy_alloc w _ _) hg1)
  have K1 := hid (K0.out.kept hg1 (by simp; omega))
  have C2 := hid (of_lit R p1 4 20 wMods w1 hr1 (by omega) rfl (by omega) (by omega) (by decide))
  clear hr1 hg1 C
  go_wp2_with fail
  refine C2.out.mono ?_
  rintro e w2 ⟨md, p2, hmd, rfl, hp2, hr2, hg2⟩
  have G2 := hid (grown_tr G1.out hg2)
  have K2 := hid (K1.out.kept hg2 (by simp; omega))
  have C3 := hid (pick_c R p2 3 w2 hr2 (by omega) (by omega))
  clear hr2 hg2 C2 K0 K1 G1
  go_wp2_with fail
  refine C3.out.mono ?_
  rintro e w3 ⟨k, rfl, hk1, hk2, hr3, hg3⟩
  have hk : k < 3 := by have := hk1 (by omega); omega
  have G3 := hid (grown_tr G2.out hg3)
  have K3 := K2.out.kept hg3 (by simp; omega)
  have R3 := hid hr3
  obtain ⟨k0, g0⟩ := K3.2 0 _ rfl
  obtain ⟨k1, g1⟩ := K3.2 1 _ rfl
  obtain ⟨k2, g2⟩ := K3.2 2 _ rfl
  have hw9 : IntKind.i64.wrap (1 + (k : Int)) = 1 + (k : Int) := by rw [IntKind.wrap_i64]; omega
  clear hr3 hg3 C3 K2 G2 hk1 hk2
  go_wp2_with fail
  have RB := ((K3.set 0 (.string tx)).set 1 (.string md)).set 2 (.int .i64 (1 + (k : Int)))
  have f0 := (RB.2 0 _ rfl).1
  have f1 := (RB.2 1 _ rfl).1
  have f2 := (RB.2 2 _ rfl).1
  refine bodyPost_ret (v := .agg #[.string tx, .string md, .int .i64 (1 + (k : Int))]) (by simp [results, Tryd.results53, go_sem, f0, f1, f2]) rfl ?_
  refine ⟨tx, md, 1 + (k : Int), p2 + 1, ⟨htx, hmd⟩, rfl, by omega, ?_, ?_⟩
  · exact ((R3.out.set hlt).set hlt).set hlt
  · exact grown_at (grown_at (grown_at G3.out (Nat.le_refl _)) (Nat.le_refl _)) (Nat.le_refl _)

theorem IsRow.leW {k : IntKind} {w : World} {a : Option Addr} {len cap : Nat} {z : List Int} (h : IsRow k w a len cap z) : len ≤ 9223372036854775807 := by
  rcases h with ⟨_, h, _, _⟩ | ⟨x, _, h1, h2, _⟩
  · omega
  · unfold maxLen at h2; omega
theorem IsRow.belowW {k : IntKind} {w w' : World} {a : Option Addr} {len cap : Nat} {z : List Int} (h : IsRow k w a len cap z) (hb : Below w.heap.size w w') : IsRow k w' a len cap z := by
  rcases h with h | ⟨x, h0, h1, h2, h3, h4, h5⟩
  · exact .inl h
  · refine .inr ⟨x, h0, h1, h2, h3, fun i hi => ?_, h5⟩
    have hc := h4 i hi
    exact (hb.cell (p := x.add i) (World.block_lt_of_cell? _ _ hc)).trans hc
/-- drawn for a law: rules and a warning -/
def DrawRulsWrn (w : World) (e : Ending) (w' : World) : Prop :=
  ∃ (A : Option Addr) (n c : Nat) (l : List Rul) (tx md : ByteArray) (ln : Int), e = .returned (.tuple #[.slice A n c, .agg #[.string tx, .string md, .int .i64 ln]]) ∧ l.length = n ∧ n ≤ 6 ∧ rfit l ∧ w'.ownsRow w.heap.size 44 4 (.slice A n c) n (l.flatMap rucells) ∧ (tx.size ≤ 20 ∧ md.size ≤ 20) ∧ Below w.heap.size w w'
theorem firstIx_someE {α : Type} {p : α → Bool} {l : List α} {k : Nat} (h : firstIx p l = some k) : k < l.length ∧ (l.take k).any p = false ∧ ∃ x, l[k]? = some x ∧ p x = true := by
  induction l generalizing k with
  | nil => cases h
  | cons a l ih =>
    unfold firstIx at h
    split at h
    · rename_i hp
      cases h
      exact ⟨by simp, by simp, a, by simp, hp⟩
    · rename_i hp
      cases e : firstIx p l with
      | none => rw [e] at h; cases h
      | some j =>
        rw [e] at h
        cases h
        obtain ⟨h1, h2, x, h3, h4⟩ := ih e
        refine ⟨by simp; omega, ?_, x, by simpa using h3, h4⟩
        simp only [List.take_succ_cons, List.any_cons, h2, Bool.or_false]
        simpa using hp
theorem firstIx_no {α : Type} {p : α → Bool} {l : List α} (h : firstIx p l = none) : l.any p = false := by
  induction l with
  | nil => rfl
  | cons a l ih =>
    unfold firstIx at h
    split at h
    · cases h
    · rename_i hp
      cases e : firstIx p l with
      | none => simp only [List.any_cons, ih e, Bool.or_false]; simpa using hp
      | some j => rw [e] at h; cases h
theorem any_at {α : Type} {p : α → Bool} {l : List α} {k j : Nat} {x : α} (hx : l[k]? = some x) (hp : p x = true) (hk : k < j) : (l.take j).any p = true :=
  List.any_eq_true.2 ⟨x, List.mem_of_getElem? (i := k) (by rw [List.getElem?_take_of_lt hk]; exact hx), hp⟩
/-- where a rule has the warning, the first one is there or ahead of it; where it hasn't, it is not there -/
theorem ruleIx_at {l : List Rul} {w : Wrn} {k : Nat} {x : Rul} (hx : l[k]? = some x) : (fallsB w x = true → 0 ≤ ruleIx l w ∧ ruleIx l w ≤ (k : Int)) ∧ (fallsB w x = false → ruleIx l w ≠ (k : Int)) := by
  unfold ruleIx
  cases e : firstIx (fallsB w) l with
  | none =>
    refine ⟨fun hf => ?_, fun _ h => ?_⟩
    · have h9 := firstIx_no e
      rw [any_hit hx hf] at h9; cases h9
    · have h9 : (-1 : Int) = (k : Int) := h; omega
  | some j =>
    obtain ⟨h1, h2, y, h3, h4⟩ := firstIx_someE e
    refine ⟨fun hf => ⟨by show (0 : Int) ≤ (j : Int); omega, ?_⟩, fun hf h => ?_⟩
    · show (j : Int) ≤ (k : Int)
      by_cases hjk : j ≤ k
      · omega
      · rw [any_at hx hf (by omega)] at h2; cases h2
    · have h9 : (j : Int) = (k : Int) := h
      obtain rfl : j = k := by omega
      rw [hx] at h3
      cases h3
      rw [hf] at h4; cases h4
theorem ruleIx_end (l : List Rul) (w : Wrn) : (ruleIx l w < 0) ∨ ∃ k : Nat, ruleIx l w = (k : Int) ∧ k < l.length ∧ ruleIx (l.take (k + 1)) w = (k : Int) := by
  unfold ruleIx
  cases e : firstIx (fallsB w) l with
  | none => exact .inl (by show (-1 : Int) < 0; omega)
  | some j =>
    obtain ⟨h1, h2, y, h3, h4⟩ := firstIx_someE e
    refine .inr ⟨j, rfl, h1, ?_⟩
    rw [firstIx_hit (k := j) (x := y) (by rw [List.take_take, Nat.min_eq_left (by omega)]; exact h2) (by rw [List.getElem?_take_of_lt (by omega)]; exact h3) h4]
    rfl
theorem ruls_sub {l m : List Rul} (h : rulsOk l = true) (hs : ∀ x ∈ m, x ∈ l) (hl : m.length ≤ l.length) : rulsOk m = true := by
  unfold rulsOk at h ⊢
  simp only [Bool.and_eq_true, List.all_eq_true, decide_eq_true_eq] at h ⊢
  exact ⟨fun x hx => h.1 x (hs x hx), by omega⟩
theorem ruleX_one {l : List Rul} {w : Wrn} {k : Nat} {x : Rul} (h : rulsOk l = true) (hw : wrnOk w = true) (hx : l[k]? = some x) : ruleX [x] w = if fallsB w x then 0 else -1 := by
  have hk := (List.getElem?_eq_some_iff.1 hx).1
  have h1 : rulsOk [x] = true := ruls_sub h (fun y hy => by rw [List.mem_singleton] at hy; subst hy; exact List.mem_of_getElem? hx) (by show 1 ≤ l.length; omega)
  unfold ruleX ruleIx firstIx
  rw [h1, hw]
  by_cases hf : fallsB w x = true
  · rw [if_pos hf, if_pos hf]; rfl
  · rw [if_neg hf, if_neg hf]; rfl
theorem ruleX_take {l : List Rul} {w : Wrn} {k : Nat} (h : rulsOk l = true) (hw : wrnOk w = true) : ruleX (l.take k) w = ruleIx (l.take k) w := by
  have h1 : rulsOk (l.take k) = true := ruls_sub h (fun y hy => List.mem_of_mem_take hy) (by rw [List.length_take]; omega)
  unfold ruleX
  rw [h1, hw]; rfl
theorem wrnLitI_c (W : World) (tx md : ByteArray) (ln : Int) (h1 : tx.size ≤ maxTxt) (h2 : md.size ≤ maxTxt) :
    Calls Tryd.prog 21 #[.slice (some ⟨W.heap.size, 0, none⟩) 1 1] (W.alloc (.cells #[.string tx, .string md, .int .i64 ln] 53)) (BoolPost (W.alloc (.cells #[.string tx, .string md, .int .i64 ln] 53)) (wrnOk ⟨tx.data.toList, md.data.toList, ln⟩)) := by
  have h9 := implValidWarnings_c (.slice (some ⟨W.heap.size, 0, none⟩) 1 1) 1 (W.alloc (.cells #[.string tx, .string md, .int .i64 ln] 53)).heap.size [⟨tx.data.toList, md.data.toList, ln⟩] _ ⟨Sl.of_own (wrn_lit W tx md ln), fun x hx => by
    rw [List.mem_singleton] at hx; subst hx
    exact ⟨by show tx.data.toList.length ≤ _; rw [← Lib.size_eq]; exact h1, by show md.data.toList.length ≤ _; rw [← Lib.size_eq]; exact h2⟩⟩ (Nat.le_refl _)
  rw [wrns_one] at h9
  exact h9
theorem Ruls.cutR {w : World} {B n c : Nat} {A : Option Addr} {l : List Rul} (h : Ruls w B n (.slice A n c) l) {k : Nat} (hk : k ≤ n) : Ruls w B k (.slice A k c) (l.take k) :=
  ⟨by rw [← flat_takeK rucells 4 rucells_len]; exact h.1.cutK hk, fun x hx => h.2 x (List.mem_of_mem_take hx)⟩
theorem Ruls.fromR {w : World} {B n c b o : Nat} {l : List Rul} (h : Ruls w B n (.slice (some ⟨b, o, none⟩) n c) l) {k : Nat} (hk : k ≤ n) : Ruls w B (n - k) (.slice (some ⟨b, o + k * 4, none⟩) (n - k) (c - k)) (l.drop k) :=
  ⟨by rw [← flat_drop rucells 4 rucells_len]; exact h.1.from_ hk, fun x hx => h.2 x (List.mem_of_mem_drop hx)⟩
theorem Ruls.oneR {w : World} {B n c b o : Nat} {l : List Rul} (h : Ruls w B n (.slice (some ⟨b, o, none⟩) n c) l) {k : Nat} {x : Rul} (hk : k < n) (hx : l[k]? = some x) : Ruls w B 1 (.slice (some ⟨b, o + k * 4, none⟩) 1 (c - k)) [x] := by
  have h9 := (h.fromR (Nat.le_of_lt hk)).cutR (k := 1) (by omega)
  have hlt := (List.getElem?_eq_some_iff.1 hx).1
  rwa [show (l.drop k).take 1 = [x] by rw [List.drop_eq_getElem_cons hlt, (List.getElem?_eq_some_iff.1 hx).2]; rfl] at h9
end Go.Proofs.YtaniaadmphojeaaDoor
