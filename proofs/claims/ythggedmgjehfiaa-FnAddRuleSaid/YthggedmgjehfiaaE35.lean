/-
  RULES ADDED: the draw of the law; plain: what is added stays; rules compared, quietly. By gen_addr.py.
-/
import Derived.Test.YthggedmgjehfiaaAR4
import Derived.Test.YthggedmgjehfiaaD14
import Derived.Test.YthggedmgjehfiaaStB
import Derived.Test.YthggedmgjehfiaaEqRule
namespace Go.Proofs.Ythggedmgjehfiaa
open Go.RowKit Nm
set_option linter.unusedSimpArgs false
set_option linter.unusedVariables false

theorem IsRow.leA {k : IntKind} {w : World} {a : Option Addr} {len cap : Nat} {z : List Int} (h : IsRow k w a len cap z) : len ≤ 9223372036854775807 := by
  rcases h with ⟨_, h, _, _⟩ | ⟨x, _, h1, h2, _⟩
  · omega
  · unfold maxLen at h2; omega
theorem IsRow.belowA {k : IntKind} {w w' : World} {a : Option Addr} {len cap : Nat} {z : List Int} (h : IsRow k w a len cap z) (hb : Below w.heap.size w w') : IsRow k w' a len cap z := by
  rcases h with h | ⟨x, h0, h1, h2, h3, h4, h5⟩
  · exact .inl h
  · refine .inr ⟨x, h0, h1, h2, h3, fun i hi => ?_, h5⟩
    have hc := h4 i hi
    exact (hb.cell (p := x.add i) (World.block_lt_of_cell? _ _ hc)).trans hc
/-- drawn for a law: rules, a rule, and an end -/
def DrawRulsRul (w : World) (e : Ending) (w' : World) : Prop :=
  ∃ (A : Option Addr) (n c : Nat) (l : List Rul) (xa xl : Int) (xw xm : ByteArray) (fr : Bool), e = .returned (.tuple #[.slice A n c, .agg #[.int .i64 xa, .string xw, .string xm, .int .i64 xl], .bool fr]) ∧ l.length = n ∧ n ≤ 6 ∧ rfit l ∧ w'.ownsRow w.heap.size 31 4 (.slice A n c) n (l.flatMap rucells) ∧ (xw.size ≤ 20 ∧ xm.size ≤ 20) ∧ Below w.heap.size w w'
set_option maxHeartbeats 8000000 in
set_option maxRecDepth 100000 in
theorem drawAddRule_c (a : Option Addr) (len cap : Nat) (z : List Int) (w : World) (h : IsRow .u8 w a len cap z) :
    Calls Try.prog 14 #[.slice a len cap] w (DrawRulsRul w) := by
  have hb0 : Below w.heap.size w (w.alloc (.cells #[.int .i64 0, .string ByteArray.empty, .string ByteArray.empty, .int .i64 0] 31)) := (Below.refl _ _).alloc (Nat.le_refl _) _
  have KR := hid (Blk.new w #[.int .i64 0, .string ByteArray.empty, .string ByteArray.empty, .int .i64 0] 31)
  have C := hid (newReader_c a len cap z (w.alloc (.cells #[.int .i64 0, .string ByteArray.empty, .string ByteArray.empty, .int .i64 0] 31)) (h.belowA hb0))
  have HB0 := hid hb0
  simp only [World.size_alloc] at C
  clear h hb0
  go_enter Try.func14, Try.ntmps14
  go_wp2_with fail
  refine C.out.mono ?_
  rintro e w1 ⟨rfl, hr1, hb1⟩
  have hs1 : w.heap.size + 1 < w1.heap.size := by have := hr1.lt; omega
  have KR1 := hid (KR.out.below hb1 (by omega))
  have HB1 := hid (HB0.out.trans (hb1.mono (by omega)))
  have C1 := hid (someRules_c _ 0 w1 hr1 (by omega))
  clear hr1 hb1 C KR HB0
  go_wp2_with fail
  generalize hR : w.heap.size + 1 = R at *
  refine C1.out.mono ?_
  rintro e w2 ⟨v, l, p2, rfl, hl6, hfit, ho2, hp2, hr2, hg2⟩
  obtain ⟨A, c, rfl, _, hcm⟩ := (Sl.of_own ho2).form
  unfold maxLen at hcm
  have KR2 := hid (KR1.out.kept hg2 (by simp <;> omega))
  have HB2 := hid (HB1.out.trans (below_own hg2 HB1.out.size (by omega)))
  have HO2 := hid ho2
  have HF := hid hfit
  have C2 := hid (aRule_c _ p2 w2 hr2 (by omega))
  have hs2 : w1.heap.size ≤ w2.heap.size := hg2.size
  generalize hfn : l.length = n at *
  replace hfn := hid hfn
  clear hr2 hg2 C1 KR1 ho2 hfit
  go_wp2_with fail
  refine C2.out.mono ?_
  rintro e w3 ⟨xa, xw, xm, xl, p3, hntx, rfl, hp3, hr3, hg3⟩
  have hs3 : w2.heap.size ≤ w3.heap.size := hg3.size
  have KR3 := hid (KR2.out.kept hg3 (by simp <;> omega))
  have HB3 := hid (HB2.out.trans (below_own hg3 HB2.out.size (by omega)))
  have HO3 := hid (own_off HO2.out hg3 (by omega))
  have hb3 : Below w3.heap.size w3 (w3.alloc (.cells #[.int .i64 0, .string ByteArray.empty, .string ByteArray.empty, .int .i64 0] 31)) := (Below.refl _ _).alloc (Nat.le_refl _) _
  have K7 := hid (Blk.new w3 #[.int .i64 0, .string ByteArray.empty, .string ByteArray.empty, .int .i64 0] 31)
  have KRa := hid (KR3.out.below hb3 (by omega))
  have HBa := hid (HB3.out.alloc HB3.out.size (.cells #[.int .i64 0, .string ByteArray.empty, .string ByteArray.empty, .int .i64 0] 31))
  have HOa := hid (HO3.out.alloc (.cells #[.int .i64 0, .string ByteArray.empty, .string ByteArray.empty, .int .i64 0] 31))
  have Ra := hid (hr3.below hb3)
  have hne7 : (Value.slice A n c).ownBlock ≠ some w3.heap.size := fun e2 => by have := (HO3.out.lt _ e2).2; omega
  have hsa : w.heap.size ≤ (w3.alloc (.cells #[.int .i64 0, .string ByteArray.empty, .string ByteArray.empty, .int .i64 0] 31)).heap.size := HBa.out.size
  clear hr3 hg3 hb3 C2 KR2 HB2 HO2 KR3 HB3 HO3
  go_wp2_with (refine wpList_stB (P := Try.prog) rfl 31 _ _ rfl w3.heap.size [.int .i64 xa, .string xw, .string xm, .int .i64 xl] rfl rfl _ K7.out rfl (by kernel_rfl) (List.all_eq_true.1 rfl) ?_)
  intro w4 hk4 hg4 hs4
  generalize hb7 : w3.heap.size = b7 at *
  have K7f := hid hk4
  have KRf := hid (KRa.out.kept hg4 (by simp; omega))
  have HOf := hid (HOa.out.kept hg4 (.inr hne7))
  have Rf := hid (Ra.out.off hg4 (fun g e => by cases e; omega))
  have HBf := hid (HBa.out.grown hg4 hsa (by intro z hz; cases hz; omega))
  clear hk4 hg4 hs4 K7 KRa HBa HOa Ra hsa
  rcases Nat.eq_zero_or_pos n with hn0 | hn0
  · subst hn0
    have CP := hid (pick_c R p3 2 w4.drew (Rf.out.below (Below.refl _ _).drew) (by omega) (by omega))
    go_wp2_with fail
    refine wp_region_held_drew (S := fun w' : World => w'.cell? ⟨b7, 0, none⟩ = some (.int .i64 xa) ∧ w'.cell? ⟨b7, 1, none⟩ = some (.string xw) ∧ w'.cell? ⟨b7, 2, none⟩ = some (.string xm) ∧ w'.cell? ⟨b7, 3, none⟩ = some (.int .i64 xl)) (by kernel_rfl) ⟨(K7f.out.2 0 _ rfl).1, (K7f.out.2 1 _ rfl).1, (K7f.out.2 2 _ rfl).1, (K7f.out.2 3 _ rfl).1⟩ (fun hS => ?_)
    refine wpAnyH_take (i := 0) (oi := ?oi101) (v := ?v101) ?hi101 (by kernel_rfl) ?hf101 ?hr101 ?hQ101 (Or.inl ⟨?hw101, ?hy101⟩) (by assumption) ?rest101
    case hi101 => simp only [List.getElem?_toArray, List.getElem?_cons_succ, List.getElem?_cons_zero]; rfl
    case hf101 => kernel_rfl
    case hr101 => kernel_rfl
    case hw101 => rfl
    case hy101 => (intro w hSw; (try dsimp only at hSw); go_simp; all_goals (first | done | with_reducible rfl))
    case hQ101 => exact fun _ _ _ h => h
    simp only [Act.put, List.setIfInBounds_toArray, List.set_cons_zero, List.set_cons_succ]
    refine wpAnyH_take (i := 1) (oi := ?oi102) (v := ?v102) ?hi102 (by kernel_rfl) ?hf102 ?hr102 ?hQ102 (Or.inl ⟨?hw102, ?hy102⟩) (by assumption) ?rest102
    case hi102 => simp only [List.getElem?_toArray, List.getElem?_cons_succ, List.getElem?_cons_zero]; rfl
    case hf102 => kernel_rfl
    case hr102 => kernel_rfl
    case hw102 => rfl
    case hy102 => (intro w hSw; (try dsimp only at hSw); go_simp; all_goals (first | done | with_reducible rfl))
    case hQ102 => exact fun _ _ _ h => h
    simp only [Act.put, List.setIfInBounds_toArray, List.set_cons_zero, List.set_cons_succ]
    refine wpAnyH_take (i := 2) (oi := ?oi103) (v := ?v103) ?hi103 (by kernel_rfl) ?hf103 ?hr103 ?hQ103 (Or.inl ⟨?hw103, ?hy103⟩) (by assumption) ?rest103
    case hi103 => simp only [List.getElem?_toArray, List.getElem?_cons_succ, List.getElem?_cons_zero]; rfl
    case hf103 => kernel_rfl
    case hr103 => kernel_rfl
    case hw103 => rfl
    case hy103 => (intro w hSw; (try dsimp only at hSw); go_simp; all_goals (first | done | with_reducible rfl))
    case hQ103 => exact fun _ _ _ h => h
    simp only [Act.put, List.setIfInBounds_toArray, List.set_cons_zero, List.set_cons_succ]
    refine wpAnyH_ready (rs := [3]) (by kernel_rfl) (by simp) ?_
    refine AllReadyH.cons (o := ?oi104) ?hi104 (fun K hK => ?step104) AllReadyH.nil
    case hi104 => simp only [List.getElem?_toArray, List.getElem?_cons_succ, List.getElem?_cons_zero]; rfl
    rw [if_pos (by rfl)]
    go_simp
    go_at_call 27
    refine CP.out.mono ?_
    rintro e w8 ⟨k8, rfl, _, _, hr8, hg8⟩
    have hgW : w4.grownBy w8 (some R) := grown_tr (show w4.grownBy w4.drew (some R) from ⟨rfl, rfl, rfl, Nat.le_refl _, fun _ _ _ => rfl⟩) hg8
    have KR8 := hid (KRf.out.kept hgW (by simp; omega))
    have K78 := hid (K7f.out.kept hgW (by simp; omega))
    have HO8 := hid (own_off HOf.out hgW (by omega))
    have HB8 := hid (HBf.out.trans (below_own hgW HBf.out.size (by omega)))
    clear hr8 hg8 hgW
    refine hK.out _ _ ⟨(K78.out.2 0 _ rfl).1, (K78.out.2 1 _ rfl).1, (K78.out.2 2 _ rfl).1, (K78.out.2 3 _ rfl).1⟩ (fun hS => ?_)
    refine wpAnyH_take (i := 4) (oi := ?oi105) (v := ?v105) ?hi105 (by kernel_rfl) ?hf105 ?hr105 ?hQ105 (Or.inl ⟨?hw105, ?hy105⟩) (by assumption) ?rest105
    case hi105 => simp only [List.getElem?_toArray, List.getElem?_cons_succ, List.getElem?_cons_zero]; rfl
    case hf105 => kernel_rfl
    case hr105 => kernel_rfl
    case hw105 => rfl
    case hy105 => (intro w hSw; (try dsimp only at hSw); go_simp; all_goals (first | done | with_reducible rfl))
    case hQ105 => exact fun _ _ _ h => h
    simp only [Act.put, List.setIfInBounds_toArray, List.set_cons_zero, List.set_cons_succ]
    refine wpAnyH_take (i := 5) (oi := ?oi106) (v := ?v106) ?hi106 (by kernel_rfl) ?hf106 ?hr106 ?hQ106 (Or.inl ⟨?hw106, ?hy106⟩) (by assumption) ?rest106
    case hi106 => simp only [List.getElem?_toArray, List.getElem?_cons_succ, List.getElem?_cons_zero]; rfl
    case hf106 => kernel_rfl
    case hr106 => kernel_rfl
    case hw106 => rfl
    case hy106 => (intro w hSw; (try dsimp only at hSw); go_simp; all_goals (first | done | with_reducible rfl))
    case hQ106 => exact fun _ _ _ h => h
    simp only [Act.put, List.setIfInBounds_toArray, List.set_cons_zero, List.set_cons_succ]
    obtain ⟨z0c, z0f⟩ := KR8.out.2 0 _ rfl
    obtain ⟨z1c, z1f⟩ := KR8.out.2 1 _ rfl
    obtain ⟨z2c, z2f⟩ := KR8.out.2 2 _ rfl
    obtain ⟨z3c, z3f⟩ := KR8.out.2 3 _ rfl
    have KA := hid ((((K78.out.apart ⟨w.heap.size, 0, none⟩ (.int .i64 xa) (by simp; omega)).apart ⟨w.heap.size, 1, none⟩ (.string xw) (by simp; omega)).apart ⟨w.heap.size, 2, none⟩ (.string xm) (by simp; omega)).apart ⟨w.heap.size, 3, none⟩ (.int .i64 xl) (by simp; omega))
    refine wpAnyH_ready (rs := [6]) (by kernel_rfl) (by simp) ?_
    refine AllReadyH.cons (o := ?oi107) ?hi107 (fun K hK => ?step107) AllReadyH.nil
    case hi107 => simp only [List.getElem?_toArray, List.getElem?_cons_succ, List.getElem?_cons_zero]; rfl
    rw [if_pos (by rfl)]
    go_simp
    refine hK.out _ _ ⟨(KA.out.2 0 _ rfl).1, (KA.out.2 1 _ rfl).1, (KA.out.2 2 _ rfl).1, (KA.out.2 3 _ rfl).1⟩ (fun hS => ?_)
    refine wpAnyH_take (i := 7) (oi := ?oi108) (v := ?v108) ?hi108 (by kernel_rfl) ?hf108 ?hr108 ?hQ108 (Or.inl ⟨?hw108, ?hy108⟩) (by assumption) ?rest108
    case hi108 => simp only [List.getElem?_toArray, List.getElem?_cons_succ, List.getElem?_cons_zero]; rfl
    case hf108 => kernel_rfl
    case hr108 => kernel_rfl
    case hw108 => rfl
    case hy108 => (intro w hSw; (try dsimp only at hSw); go_simp; all_goals (first | done | with_reducible rfl))
    case hQ108 => exact fun _ _ _ h => h
    simp only [Act.put, List.setIfInBounds_toArray, List.set_cons_zero, List.set_cons_succ]
    refine wpAnyH_done (by kernel_rfl) ?_ _
    have KS := ((((KR8.out.set 0 (.int .i64 xa)).set 1 (.string xw)).set 2 (.string xm)).set 3 (.int .i64 xl))
    have g0 := (KS.2 0 _ rfl).1
    have g1 := (KS.2 1 _ rfl).1
    have g2 := (KS.2 2 _ rfl).1
    have g3 := (KS.2 3 _ rfl).1
    have HO9 := (own_off (own_off (own_off (own_off HO8.out (grow_cell _ w.heap.size 0 (.int .i64 xa)) (by omega)) (grow_cell _ w.heap.size 1 (.string xw)) (by omega)) (grow_cell _ w.heap.size 2 (.string xm)) (by omega)) (grow_cell _ w.heap.size 3 (.int .i64 xl)) (by omega))
    have HB9 := ((((HB8.out.setCell (p := ⟨w.heap.size, 0, none⟩) (Nat.le_refl _) (.int .i64 xa)).setCell (p := ⟨w.heap.size, 1, none⟩) (Nat.le_refl _) (.string xw)).setCell (p := ⟨w.heap.size, 2, none⟩) (Nat.le_refl _) (.string xm)).setCell (p := ⟨w.heap.size, 3, none⟩) (Nat.le_refl _) (.int .i64 xl))
    clear z0c z0f z1c z1f z2c z2f z3c z3f KA KR8 K78
    generalize ((((w8.setCell ⟨w.heap.size, 0, none⟩ (.int .i64 xa)).setCell ⟨w.heap.size, 1, none⟩ (.string xw)).setCell ⟨w.heap.size, 2, none⟩ (.string xm)).setCell ⟨w.heap.size, 3, none⟩ (.int .i64 xl)) = w9 at *
    go_wp2_with fail
    refine bodyPost_ret (v := .tuple #[.slice A 0 c, .agg #[.int .i64 xa, .string xw, .string xm, .int .i64 xl], .bool ((k8 : Int) == 0)]) (by simp [results, Try.results14, go_sem, g0, g1, g2, g3]) rfl ?_
    exact ⟨A, 0, c, l, xa, xl, xw, xm, _, rfl, hfn.out, hl6, HF.out, own_base HO9 (by omega), hntx, HB9⟩
  have hz0 : (0 : Int) < (n : Int) := by omega
  have C4 := hid (pick_c R p3 2 w4 Rf.out (by omega) (by omega))
  go_wp2_with fail
  refine C4.out.mono ?_
  rintro e w5 ⟨k, rfl, _, _, hr5, hg5⟩
  replace K7f := hid (K7f.out.kept hg5 (by simp; omega))
  replace KRf := hid (KRf.out.kept hg5 (by simp; omega))
  replace HOf := hid (own_off HOf.out hg5 (by omega))
  replace Rf := hid hr5
  replace HBf := hid (HBf.out.trans (below_own hg5 HBf.out.size (by omega)))
  clear hr5 hg5 C4
  rcases Nat.eq_zero_or_pos k with hk0 | hk0
  · subst hk0
    have C5 := hid (pick_c R (p3 + 1) n w5 Rf.out (by omega) (by omega))
    go_wp2_with fail
    refine C5.out.mono ?_
    rintro e w6 ⟨j, rfl, hj, _, hr6, hg6⟩
    have hjn : j < n := by have := hj (by omega); omega
    replace K7f := hid (K7f.out.kept hg6 (by simp; omega))
    replace KRf := hid (KRf.out.kept hg6 (by simp; omega))
    replace HOf := hid (own_off HOf.out hg6 (by omega))
    replace Rf := hid hr6
    replace HBf := hid (HBf.out.trans (below_own hg6 HBf.out.size (by omega)))
    clear hr6 hg6 C5 hj
    have hne7' := hne7
    obtain ⟨b, o, ya, yw, ym, yl, rfl, hbB, hx, c0, c1, c2, c3⟩ := rucells_at (Sl.of_own HOf.out) hjn
    have hnty := HF.out _ (List.mem_of_getElem? hx)
    have s0 : (0 : Int) ≤ (j : Int) := by omega
    have s1 : (j : Int) < (n : Int) := by omega
    have s2 : ((j : Int)).toNat = j := by simp
    clear hx
    go_wp2_with (refine wpList_stB (P := Try.prog) rfl 31 _ _ rfl b7 [.int .i64 ya, .string yw, .string ym, .int .i64 yl] rfl rfl _ K7f.out rfl (by kernel_rfl) (List.all_eq_true.1 rfl) ?_)
    intro w7 hk7 hg7 hs7
    replace K7f := hid hk7
    replace KRf := hid (KRf.out.kept hg7 (by simp; omega))
    replace HOf := hid (HOf.out.kept hg7 (.inr hne7'))
    replace Rf := hid (Rf.out.off hg7 (fun g e => by cases e; omega))
    have hsf := HBf.out.size
    replace HBf := hid (HBf.out.grown hg7 hsf (by intro z hz; cases hz; omega))
    clear hk7 hg7 hs7 c0 c1 c2 c3 hsf
    have CP := hid (pick_c R (p3 + 1 + 1) 2 w7.drew (Rf.out.below (Below.refl _ _).drew) (by omega) (by omega))
    go_wp2_with fail
    refine wp_region_held_drew (S := fun w' : World => w'.cell? ⟨b7, 0, none⟩ = some (.int .i64 ya) ∧ w'.cell? ⟨b7, 1, none⟩ = some (.string yw) ∧ w'.cell? ⟨b7, 2, none⟩ = some (.string ym) ∧ w'.cell? ⟨b7, 3, none⟩ = some (.int .i64 yl)) (by kernel_rfl) ⟨(K7f.out.2 0 _ rfl).1, (K7f.out.2 1 _ rfl).1, (K7f.out.2 2 _ rfl).1, (K7f.out.2 3 _ rfl).1⟩ (fun hS => ?_)
    refine wpAnyH_take (i := 0) (oi := ?oi109) (v := ?v109) ?hi109 (by kernel_rfl) ?hf109 ?hr109 ?hQ109 (Or.inl ⟨?hw109, ?hy109⟩) (by assumption) ?rest109
    case hi109 => simp only [List.getElem?_toArray, List.getElem?_cons_succ, List.getElem?_cons_zero]; rfl
    case hf109 => kernel_rfl
    case hr109 => kernel_rfl
    case hw109 => rfl
    case hy109 => (intro w hSw; (try dsimp only at hSw); go_simp; all_goals (first | done | with_reducible rfl))
    case hQ109 => exact fun _ _ _ h => h
    simp only [Act.put, List.setIfInBounds_toArray, List.set_cons_zero, List.set_cons_succ]
    refine wpAnyH_take (i := 1) (oi := ?oi110) (v := ?v110) ?hi110 (by kernel_rfl) ?hf110 ?hr110 ?hQ110 (Or.inl ⟨?hw110, ?hy110⟩) (by assumption) ?rest110
    case hi110 => simp only [List.getElem?_toArray, List.getElem?_cons_succ, List.getElem?_cons_zero]; rfl
    case hf110 => kernel_rfl
    case hr110 => kernel_rfl
    case hw110 => rfl
    case hy110 => (intro w hSw; (try dsimp only at hSw); go_simp; all_goals (first | done | with_reducible rfl))
    case hQ110 => exact fun _ _ _ h => h
    simp only [Act.put, List.setIfInBounds_toArray, List.set_cons_zero, List.set_cons_succ]
    refine wpAnyH_take (i := 2) (oi := ?oi111) (v := ?v111) ?hi111 (by kernel_rfl) ?hf111 ?hr111 ?hQ111 (Or.inl ⟨?hw111, ?hy111⟩) (by assumption) ?rest111
    case hi111 => simp only [List.getElem?_toArray, List.getElem?_cons_succ, List.getElem?_cons_zero]; rfl
    case hf111 => kernel_rfl
    case hr111 => kernel_rfl
    case hw111 => rfl
    case hy111 => (intro w hSw; (try dsimp only at hSw); go_simp; all_goals (first | done | with_reducible rfl))
    case hQ111 => exact fun _ _ _ h => h
    simp only [Act.put, List.setIfInBounds_toArray, List.set_cons_zero, List.set_cons_succ]
    refine wpAnyH_ready (rs := [3]) (by kernel_rfl) (by simp) ?_
    refine AllReadyH.cons (o := ?oi112) ?hi112 (fun K hK => ?step112) AllReadyH.nil
    case hi112 => simp only [List.getElem?_toArray, List.getElem?_cons_succ, List.getElem?_cons_zero]; rfl
    rw [if_pos (by rfl)]
    go_simp
    go_at_call 27
    refine CP.out.mono ?_
    rintro e w8 ⟨k8, rfl, _, _, hr8, hg8⟩
    have hgW : w7.grownBy w8 (some R) := grown_tr (show w7.grownBy w7.drew (some R) from ⟨rfl, rfl, rfl, Nat.le_refl _, fun _ _ _ => rfl⟩) hg8
    have KR8 := hid (KRf.out.kept hgW (by simp; omega))
    have K78 := hid (K7f.out.kept hgW (by simp; omega))
    have HO8 := hid (own_off HOf.out hgW (by omega))
    have HB8 := hid (HBf.out.trans (below_own hgW HBf.out.size (by omega)))
    clear hr8 hg8 hgW
    refine hK.out _ _ ⟨(K78.out.2 0 _ rfl).1, (K78.out.2 1 _ rfl).1, (K78.out.2 2 _ rfl).1, (K78.out.2 3 _ rfl).1⟩ (fun hS => ?_)
    refine wpAnyH_take (i := 4) (oi := ?oi113) (v := ?v113) ?hi113 (by kernel_rfl) ?hf113 ?hr113 ?hQ113 (Or.inl ⟨?hw113, ?hy113⟩) (by assumption) ?rest113
    case hi113 => simp only [List.getElem?_toArray, List.getElem?_cons_succ, List.getElem?_cons_zero]; rfl
    case hf113 => kernel_rfl
    case hr113 => kernel_rfl
    case hw113 => rfl
    case hy113 => (intro w hSw; (try dsimp only at hSw); go_simp; all_goals (first | done | with_reducible rfl))
    case hQ113 => exact fun _ _ _ h => h
    simp only [Act.put, List.setIfInBounds_toArray, List.set_cons_zero, List.set_cons_succ]
    refine wpAnyH_take (i := 5) (oi := ?oi114) (v := ?v114) ?hi114 (by kernel_rfl) ?hf114 ?hr114 ?hQ114 (Or.inl ⟨?hw114, ?hy114⟩) (by assumption) ?rest114
    case hi114 => simp only [List.getElem?_toArray, List.getElem?_cons_succ, List.getElem?_cons_zero]; rfl
    case hf114 => kernel_rfl
    case hr114 => kernel_rfl
    case hw114 => rfl
    case hy114 => (intro w hSw; (try dsimp only at hSw); go_simp; all_goals (first | done | with_reducible rfl))
    case hQ114 => exact fun _ _ _ h => h
    simp only [Act.put, List.setIfInBounds_toArray, List.set_cons_zero, List.set_cons_succ]
    obtain ⟨z0c, z0f⟩ := KR8.out.2 0 _ rfl
    obtain ⟨z1c, z1f⟩ := KR8.out.2 1 _ rfl
    obtain ⟨z2c, z2f⟩ := KR8.out.2 2 _ rfl
    obtain ⟨z3c, z3f⟩ := KR8.out.2 3 _ rfl
    have KA := hid ((((K78.out.apart ⟨w.heap.size, 0, none⟩ (.int .i64 ya) (by simp; omega)).apart ⟨w.heap.size, 1, none⟩ (.string yw) (by simp; omega)).apart ⟨w.heap.size, 2, none⟩ (.string ym) (by simp; omega)).apart ⟨w.heap.size, 3, none⟩ (.int .i64 yl) (by simp; omega))
    refine wpAnyH_ready (rs := [6]) (by kernel_rfl) (by simp) ?_
    refine AllReadyH.cons (o := ?oi115) ?hi115 (fun K hK => ?step115) AllReadyH.nil
    case hi115 => simp only [List.getElem?_toArray, List.getElem?_cons_succ, List.getElem?_cons_zero]; rfl
    rw [if_pos (by rfl)]
    go_simp
    refine hK.out _ _ ⟨(KA.out.2 0 _ rfl).1, (KA.out.2 1 _ rfl).1, (KA.out.2 2 _ rfl).1, (KA.out.2 3 _ rfl).1⟩ (fun hS => ?_)
    refine wpAnyH_take (i := 7) (oi := ?oi116) (v := ?v116) ?hi116 (by kernel_rfl) ?hf116 ?hr116 ?hQ116 (Or.inl ⟨?hw116, ?hy116⟩) (by assumption) ?rest116
    case hi116 => simp only [List.getElem?_toArray, List.getElem?_cons_succ, List.getElem?_cons_zero]; rfl
    case hf116 => kernel_rfl
    case hr116 => kernel_rfl
    case hw116 => rfl
    case hy116 => (intro w hSw; (try dsimp only at hSw); go_simp; all_goals (first | done | with_reducible rfl))
    case hQ116 => exact fun _ _ _ h => h
    simp only [Act.put, List.setIfInBounds_toArray, List.set_cons_zero, List.set_cons_succ]
    refine wpAnyH_done (by kernel_rfl) ?_ _
    have KS := ((((KR8.out.set 0 (.int .i64 ya)).set 1 (.string yw)).set 2 (.string ym)).set 3 (.int .i64 yl))
    have g0 := (KS.2 0 _ rfl).1
    have g1 := (KS.2 1 _ rfl).1
    have g2 := (KS.2 2 _ rfl).1
    have g3 := (KS.2 3 _ rfl).1
    have HO9 := (own_off (own_off (own_off (own_off HO8.out (grow_cell _ w.heap.size 0 (.int .i64 ya)) (by omega)) (grow_cell _ w.heap.size 1 (.string yw)) (by omega)) (grow_cell _ w.heap.size 2 (.string ym)) (by omega)) (grow_cell _ w.heap.size 3 (.int .i64 yl)) (by omega))
    have HB9 := ((((HB8.out.setCell (p := ⟨w.heap.size, 0, none⟩) (Nat.le_refl _) (.int .i64 ya)).setCell (p := ⟨w.heap.size, 1, none⟩) (Nat.le_refl _) (.string yw)).setCell (p := ⟨w.heap.size, 2, none⟩) (Nat.le_refl _) (.string ym)).setCell (p := ⟨w.heap.size, 3, none⟩) (Nat.le_refl _) (.int .i64 yl))
    clear z0c z0f z1c z1f z2c z2f z3c z3f KA KR8 K78
    generalize ((((w8.setCell ⟨w.heap.size, 0, none⟩ (.int .i64 ya)).setCell ⟨w.heap.size, 1, none⟩ (.string yw)).setCell ⟨w.heap.size, 2, none⟩ (.string ym)).setCell ⟨w.heap.size, 3, none⟩ (.int .i64 yl)) = w9 at *
    go_wp2_with fail
    refine bodyPost_ret (v := .tuple #[.slice (some ⟨b, o, none⟩) n c, .agg #[.int .i64 ya, .string yw, .string ym, .int .i64 yl], .bool ((k8 : Int) == 0)]) (by simp [results, Try.results14, go_sem, g0, g1, g2, g3]) rfl ?_
    exact ⟨_, n, c, l, ya, yl, yw, ym, _, rfl, hfn.out, hl6, HF.out, own_base HO9 (by omega), ⟨by rw [Lib.size_eq]; exact hnty.1, by rw [Lib.size_eq]; exact hnty.2⟩, HB9⟩
  · have q0 : ((k : Int) == 0) = false := by simp; omega
    have CP := hid (pick_c R (p3 + 1) 2 w5.drew (Rf.out.below (Below.refl _ _).drew) (by omega) (by omega))
    go_wp2_with fail
    refine wp_region_held_drew (S := fun w' : World => w'.cell? ⟨b7, 0, none⟩ = some (.int .i64 xa) ∧ w'.cell? ⟨b7, 1, none⟩ = some (.string xw) ∧ w'.cell? ⟨b7, 2, none⟩ = some (.string xm) ∧ w'.cell? ⟨b7, 3, none⟩ = some (.int .i64 xl)) (by kernel_rfl) ⟨(K7f.out.2 0 _ rfl).1, (K7f.out.2 1 _ rfl).1, (K7f.out.2 2 _ rfl).1, (K7f.out.2 3 _ rfl).1⟩ (fun hS => ?_)
    refine wpAnyH_take (i := 0) (oi := ?oi117) (v := ?v117) ?hi117 (by kernel_rfl) ?hf117 ?hr117 ?hQ117 (Or.inl ⟨?hw117, ?hy117⟩) (by assumption) ?rest117
    case hi117 => simp only [List.getElem?_toArray, List.getElem?_cons_succ, List.getElem?_cons_zero]; rfl
    case hf117 => kernel_rfl
    case hr117 => kernel_rfl
    case hw117 => rfl
    case hy117 => (intro w hSw; (try dsimp only at hSw); go_simp; all_goals (first | done | with_reducible rfl))
    case hQ117 => exact fun _ _ _ h => h
    simp only [Act.put, List.setIfInBounds_toArray, List.set_cons_zero, List.set_cons_succ]
    refine wpAnyH_take (i := 1) (oi := ?oi118) (v := ?v118) ?hi118 (by kernel_rfl) ?hf118 ?hr118 ?hQ118 (Or.inl ⟨?hw118, ?hy118⟩) (by assumption) ?rest118
    case hi118 => simp only [List.getElem?_toArray, List.getElem?_cons_succ, List.getElem?_cons_zero]; rfl
    case hf118 => kernel_rfl
    case hr118 => kernel_rfl
    case hw118 => rfl
    case hy118 => (intro w hSw; (try dsimp only at hSw); go_simp; all_goals (first | done | with_reducible rfl))
    case hQ118 => exact fun _ _ _ h => h
    simp only [Act.put, List.setIfInBounds_toArray, List.set_cons_zero, List.set_cons_succ]
    refine wpAnyH_take (i := 2) (oi := ?oi119) (v := ?v119) ?hi119 (by kernel_rfl) ?hf119 ?hr119 ?hQ119 (Or.inl ⟨?hw119, ?hy119⟩) (by assumption) ?rest119
    case hi119 => simp only [List.getElem?_toArray, List.getElem?_cons_succ, List.getElem?_cons_zero]; rfl
    case hf119 => kernel_rfl
    case hr119 => kernel_rfl
    case hw119 => rfl
    case hy119 => (intro w hSw; (try dsimp only at hSw); go_simp; all_goals (first | done | with_reducible rfl))
    case hQ119 => exact fun _ _ _ h => h
    simp only [Act.put, List.setIfInBounds_toArray, List.set_cons_zero, List.set_cons_succ]
    refine wpAnyH_ready (rs := [3]) (by kernel_rfl) (by simp) ?_
    refine AllReadyH.cons (o := ?oi120) ?hi120 (fun K hK => ?step120) AllReadyH.nil
    case hi120 => simp only [List.getElem?_toArray, List.getElem?_cons_succ, List.getElem?_cons_zero]; rfl
    rw [if_pos (by rfl)]
    go_simp
    go_at_call 27
    refine CP.out.mono ?_
    rintro e w8 ⟨k8, rfl, _, _, hr8, hg8⟩
    have hgW : w5.grownBy w8 (some R) := grown_tr (show w5.grownBy w5.drew (some R) from ⟨rfl, rfl, rfl, Nat.le_refl _, fun _ _ _ => rfl⟩) hg8
    have KR8 := hid (KRf.out.kept hgW (by simp; omega))
    have K78 := hid (K7f.out.kept hgW (by simp; omega))
    have HO8 := hid (own_off HOf.out hgW (by omega))
    have HB8 := hid (HBf.out.trans (below_own hgW HBf.out.size (by omega)))
    clear hr8 hg8 hgW
    refine hK.out _ _ ⟨(K78.out.2 0 _ rfl).1, (K78.out.2 1 _ rfl).1, (K78.out.2 2 _ rfl).1, (K78.out.2 3 _ rfl).1⟩ (fun hS => ?_)
    refine wpAnyH_take (i := 4) (oi := ?oi121) (v := ?v121) ?hi121 (by kernel_rfl) ?hf121 ?hr121 ?hQ121 (Or.inl ⟨?hw121, ?hy121⟩) (by assumption) ?rest121
    case hi121 => simp only [List.getElem?_toArray, List.getElem?_cons_succ, List.getElem?_cons_zero]; rfl
    case hf121 => kernel_rfl
    case hr121 => kernel_rfl
    case hw121 => rfl
    case hy121 => (intro w hSw; (try dsimp only at hSw); go_simp; all_goals (first | done | with_reducible rfl))
    case hQ121 => exact fun _ _ _ h => h
    simp only [Act.put, List.setIfInBounds_toArray, List.set_cons_zero, List.set_cons_succ]
    refine wpAnyH_take (i := 5) (oi := ?oi122) (v := ?v122) ?hi122 (by kernel_rfl) ?hf122 ?hr122 ?hQ122 (Or.inl ⟨?hw122, ?hy122⟩) (by assumption) ?rest122
    case hi122 => simp only [List.getElem?_toArray, List.getElem?_cons_succ, List.getElem?_cons_zero]; rfl
    case hf122 => kernel_rfl
    case hr122 => kernel_rfl
    case hw122 => rfl
    case hy122 => (intro w hSw; (try dsimp only at hSw); go_simp; all_goals (first | done | with_reducible rfl))
    case hQ122 => exact fun _ _ _ h => h
    simp only [Act.put, List.setIfInBounds_toArray, List.set_cons_zero, List.set_cons_succ]
    obtain ⟨z0c, z0f⟩ := KR8.out.2 0 _ rfl
    obtain ⟨z1c, z1f⟩ := KR8.out.2 1 _ rfl
    obtain ⟨z2c, z2f⟩ := KR8.out.2 2 _ rfl
    obtain ⟨z3c, z3f⟩ := KR8.out.2 3 _ rfl
    have KA := hid ((((K78.out.apart ⟨w.heap.size, 0, none⟩ (.int .i64 xa) (by simp; omega)).apart ⟨w.heap.size, 1, none⟩ (.string xw) (by simp; omega)).apart ⟨w.heap.size, 2, none⟩ (.string xm) (by simp; omega)).apart ⟨w.heap.size, 3, none⟩ (.int .i64 xl) (by simp; omega))
    refine wpAnyH_ready (rs := [6]) (by kernel_rfl) (by simp) ?_
    refine AllReadyH.cons (o := ?oi123) ?hi123 (fun K hK => ?step123) AllReadyH.nil
    case hi123 => simp only [List.getElem?_toArray, List.getElem?_cons_succ, List.getElem?_cons_zero]; rfl
    rw [if_pos (by rfl)]
    go_simp
    refine hK.out _ _ ⟨(KA.out.2 0 _ rfl).1, (KA.out.2 1 _ rfl).1, (KA.out.2 2 _ rfl).1, (KA.out.2 3 _ rfl).1⟩ (fun hS => ?_)
    refine wpAnyH_take (i := 7) (oi := ?oi124) (v := ?v124) ?hi124 (by kernel_rfl) ?hf124 ?hr124 ?hQ124 (Or.inl ⟨?hw124, ?hy124⟩) (by assumption) ?rest124
    case hi124 => simp only [List.getElem?_toArray, List.getElem?_cons_succ, List.getElem?_cons_zero]; rfl
    case hf124 => kernel_rfl
    case hr124 => kernel_rfl
    case hw124 => rfl
    case hy124 => (intro w hSw; (try dsimp only at hSw); go_simp; all_goals (first | done | with_reducible rfl))
    case hQ124 => exact fun _ _ _ h => h
    simp only [Act.put, List.setIfInBounds_toArray, List.set_cons_zero, List.set_cons_succ]
    refine wpAnyH_done (by kernel_rfl) ?_ _
    have KS := ((((KR8.out.set 0 (.int .i64 xa)).set 1 (.string xw)).set 2 (.string xm)).set 3 (.int .i64 xl))
    have g0 := (KS.2 0 _ rfl).1
    have g1 := (KS.2 1 _ rfl).1
    have g2 := (KS.2 2 _ rfl).1
    have g3 := (KS.2 3 _ rfl).1
    have HO9 := (own_off (own_off (own_off (own_off HO8.out (grow_cell _ w.heap.size 0 (.int .i64 xa)) (by omega)) (grow_cell _ w.heap.size 1 (.string xw)) (by omega)) (grow_cell _ w.heap.size 2 (.string xm)) (by omega)) (grow_cell _ w.heap.size 3 (.int .i64 xl)) (by omega))
    have HB9 := ((((HB8.out.setCell (p := ⟨w.heap.size, 0, none⟩) (Nat.le_refl _) (.int .i64 xa)).setCell (p := ⟨w.heap.size, 1, none⟩) (Nat.le_refl _) (.string xw)).setCell (p := ⟨w.heap.size, 2, none⟩) (Nat.le_refl _) (.string xm)).setCell (p := ⟨w.heap.size, 3, none⟩) (Nat.le_refl _) (.int .i64 xl))
    clear z0c z0f z1c z1f z2c z2f z3c z3f KA KR8 K78
    generalize ((((w8.setCell ⟨w.heap.size, 0, none⟩ (.int .i64 xa)).setCell ⟨w.heap.size, 1, none⟩ (.string xw)).setCell ⟨w.heap.size, 2, none⟩ (.string xm)).setCell ⟨w.heap.size, 3, none⟩ (.int .i64 xl)) = w9 at *
    go_wp2_with fail
    refine bodyPost_ret (v := .tuple #[.slice A n c, .agg #[.int .i64 xa, .string xw, .string xm, .int .i64 xl], .bool ((k8 : Int) == 0)]) (by simp [results, Try.results14, go_sem, g0, g1, g2, g3]) rfl ?_
    exact ⟨A, n, c, l, xa, xl, xw, xm, _, rfl, hfn.out, hl6, HF.out, own_base HO9 (by omega), hntx, HB9⟩

theorem notR_self (x : Rul) : notR x x = false := by simp [notR]
theorem filt_again (l : List Rul) (x : Rul) : (l.filter (notR x)).filter (notR x) = l.filter (notR x) := by
  rw [List.filter_filter]; simp
theorem addR_again (l : List Rul) (x : Rul) (fr : Bool) : addR (addR l x fr) x fr = addR l x fr := by
  cases fr
  · show (l.filter (notR x) ++ [x]).filter (notR x) ++ [x] = l.filter (notR x) ++ [x]
    rw [List.filter_append, filt_again, List.filter_cons, notR_self]; simp
  · show x :: (x :: l.filter (notR x)).filter (notR x) = x :: l.filter (notR x)
    rw [List.filter_cons, notR_self, filt_again]; simp
theorem addROk_again {l : List Rul} {x : Rul} {fr : Bool} (h : addROk l x fr = true) : addROk (addRX l x fr) x fr = true ∧ addRX (addRX l x fr) x fr = addRX l x fr ∧ addRX l x fr = addR l x fr := by
  have h3 : addRX l x fr = addR l x fr := by unfold addRX; rw [if_pos h]
  have h9 := h
  unfold addROk at h9
  simp only [Bool.and_eq_true] at h9
  have h1 : addROk (addR l x fr) x fr = true := by unfold addROk; rw [addR_again, h9.2]; rfl
  rw [h3]
  exact ⟨h1, by unfold addRX; rw [if_pos h1, addR_again], rfl⟩
theorem addR_le {l : List Rul} {x : Rul} {fr : Bool} : (addRX l x fr).length ≤ 6 := by
  unfold addRX
  split
  · rename_i h
    unfold addROk at h
    simp only [Bool.and_eq_true] at h
    exact rulsOk_le h.2
  · simp

set_option maxHeartbeats 2000000 in
set_option maxRecDepth 100000 in
theorem equalRulesQ_c (v1 v2 : Value) (n B : Nat) (l : List Rul) (w : World) (h1 : Sl w B 4 n v1 (l.flatMap rucells)) (h2 : Sl w B 4 n v2 (l.flatMap rucells)) :
    Calls Try.prog 15 #[v1, v2] w fun e w' => e = .returned (.bool true) ∧ ∃ m, w' = w.drewN m := by
  obtain ⟨A1, k1, rfl, _, hm1⟩ := h1.form
  obtain ⟨A2, k2, rfl, _, hm2⟩ := h2.form
  unfold maxLen at hm1 hm2
  have HS := hid (And.intro h1 h2)
  have b0 : ((n : Int) != (n : Int)) = false := by simp
  clear h1 h2
  go_enter Try.func15, Try.ntmps15
  go_wp2_with fail
  go_loopw [5] (fun iv wr => ∃ (i q : Nat), iv = .int .i64 i ∧ i ≤ n ∧ wr = w.drewN q) (fun iv _ => n - (intOf iv).toNat)
  case atStart => exact ⟨0, 0, rfl, by omega, rfl⟩
  case round =>
    obtain ⟨k, q, rfl, hi, rfl⟩ := hrel
    by_cases hlt : k < n
    · obtain ⟨b, o, ac, wd, md, ln, rfl, hb1, hx, g0, g1, g2, g3⟩ := rucells_at HS.out.1 hlt
      obtain ⟨b', o', ac', wd', md', ln', rfl, hb2, hx', g0', g1', g2', g3'⟩ := rucells_at HS.out.2 hlt
      rw [hx] at hx'
      have hx'' := Option.some.inj hx'
      simp only [Rul.mk.injEq, bytes_eq_iff] at hx''
      obtain ⟨rfl, rfl, rfl, rfl⟩ := hx''
      clear hx hx'
      go_wp2_with fail
      go_quiet (fail)
      go_wp2_with fail
      go_roundw
      case rel => exact ⟨k + 1, q + nq, by go_num, by omega, rfl⟩
      case measure => simp [intOf]; omega
    · go_wp2_with fail
      go_ret
      exact ⟨rfl, q, rfl⟩
end Go.Proofs.Ythggedmgjehfiaa
