/-
  slices.Delete of a list of the call's own. By gen_dl2.py.
-/
import Derived.Test.YtioegkcekbkblaaGreatCM
import Derived.Test.YtioegkcekbkblaaGreatApp
namespace Go.Proofs.YtioegkcekbkblaaGreat
open Go.RowKit Nm
set_option linter.unusedSimpArgs false
set_option linter.unusedVariables false

theorem own_cut {w : World} {lo size n cap g : Nat} {e : TypeId} {xs : List Value} (h : w.ownsRow lo e size (.slice (some ⟨g, 0, none⟩) n cap) n xs) {k : Nat} (hk : k ≤ n) : w.ownsRow lo e size (.slice (some ⟨g, 0, none⟩) k cap) k (xs.take (k * size)) := by
  have h1 := h.1
  have h3 : k * size ≤ n * size := Nat.mul_le_mul_right _ hk
  rcases h.2 with ⟨h', _⟩ | ⟨g', cap', cur, h', hb, hg, hnc, hcm, hcs, ht⟩
  · simp at h'
  · simp only [Value.slice.injEq, Option.some.injEq, Addr.mk.injEq, and_true, true_and] at h'
    obtain ⟨rfl, rfl⟩ := h'
    refine ⟨by rw [List.length_take, h1]; exact Nat.min_eq_left h3, .inr ⟨g, cap, cur, rfl, hb, hg, by omega, hcm, hcs, ?_⟩⟩
    rw [← ht, List.take_take, Nat.min_eq_left h3]
theorem run_delete {P : Program} {W : World} {lo size m cap g k : Nat} {e t : TypeId} {i : TypeInfo} {xs : List Value} (ht : P.underlying t = some (.slice e)) (hi : P.info? e = some i) (hsize : i.size = size)
    (h : W.ownsRow lo e size (.slice (some ⟨g, 0, none⟩) (m + 1) cap) (m + 1) xs) (hk : k ≤ m) (hc : m + 1 ≤ cap) (h1 : ∀ u ∈ xs, u.oneCell' = true) {A : Addr} (hA : (if cap = k + 1 then (some ⟨g, 0, none⟩ : Option Addr) else some ⟨g, (k + 1) * size, none⟩) = some A) :
    ∃ w', (Builtin.append_ #[t, t] t #[.slice (some ⟨g, 0, none⟩) k cap, .slice (some A) (m - k) (cap - (k + 1))]).run P W = .ok (.slice (some ⟨g, 0, none⟩) m cap) w' ∧
      w'.ownsRow lo e size (.slice (some ⟨g, 0, none⟩) m cap) m (xs.take (k * size) ++ xs.drop ((k + 1) * size)) ∧ W.grownBy w' (some g) := by
  have hl := h.1
  have e1 : k + (m - k) = m := by omega
  have e2 : (m + 1) * size - (k + 1) * size = (m - k) * size := by rw [← Nat.sub_mul]; congr 1; omega
  obtain ⟨w', a, b, c⟩ := run_append_fits (P := P) W lo t t e i size ht hi hsize g k cap (xs.take (k * size)) (own_cut h (by omega)) A (m - k) (cap - (k + 1)) (xs.drop ((k + 1) * size)) (by rw [List.length_drop, hl, e2]) (fun j u hu => by
    rw [List.getElem?_drop] at hu
    have hj := (List.getElem?_eq_some_iff.1 hu).1
    have hpos : (k + 1) * size + j < (m + 1) * size := by rw [hl] at hj; exact hj
    have hne : ¬ cap = k + 1 := fun e0 => by
      have : k = m := by omega
      subst this
      omega
    rw [if_neg hne] at hA
    obtain rfl := Option.some.inj hA
    rw [Addr.add_lit, h.cellAt _ hpos]
    exact hu) (fun u hu => h1 u (List.mem_of_mem_drop hu)) (by omega)
  rw [e1] at a b
  exact ⟨w', a, b, c⟩
theorem run_clear_own {P : Program} {W : World} {lo size n cap g o q c : Nat} {e t ty : TypeId} {z : Value} {xs : List Value} (ht : P.underlying t = some (.slice e)) (hz : (zeroValue e).run P W = .ok z W) (hzs : z.cells.size = size) (hz1 : ∀ u ∈ z.cells.toList, u.oneCell' = true)
    (h : W.ownsRow lo e size (.slice (some ⟨g, 0, none⟩) n cap) n xs) (hno : n * size ≤ o) (hoc : o + q * size ≤ cap * size) (hq : 0 < q) :
    ∃ W', (Builtin.clear_ #[t] ty #[.slice (some ⟨g, o, none⟩) q c]).run P W = .ok (.tuple #[]) W' ∧ W'.ownsRow lo e size (.slice (some ⟨g, 0, none⟩) n cap) n xs ∧ W.grownBy W' (some g) := by
  have h1 := h.1
  rcases h.2 with ⟨h', _⟩ | ⟨g', cap', cur, h', hb, hg, hnc, hcm, hcs, htk⟩
  · simp at h'
  · simp only [Value.slice.injEq, Option.some.injEq, Addr.mk.injEq, and_true, true_and] at h'
    obtain ⟨rfl, rfl⟩ := h'
    have hzl : (Builtin.zeroCells z.cells q).toList.length = q * size := by rw [Array.length_toList, size_zeroCells, hzs]
    have hfit : o + 0 + (Builtin.zeroCells z.cells q).toList.length ≤ cur.size := by rw [hzl, hcs]; omega
    have hst := run_storeCells_at P g o e (Builtin.zeroCells z.cells q).toList 0 cur W hg hfit (fun u hu => by
      unfold Builtin.zeroCells at hu
      rw [Array.toList_map] at hu
      obtain ⟨j, hj, rfl⟩ := List.mem_map.1 hu
      by_cases hs : z.cells.size = 0
      · rw [Array.toList_range, List.mem_range, hs] at hj; omega
      · have hlt : j % z.cells.size < z.cells.size := Nat.mod_lt _ (by omega)
        rw [getElem!_pos z.cells _ hlt]
        exact hz1 _ (Array.getElem_mem_toList hlt))
    obtain ⟨q', rfl⟩ : ∃ q', q = q' + 1 := ⟨q - 1, by omega⟩
    refine ⟨_, by simp [Builtin.clear_, run_underlying ht, hz, hst]; rfl, ?_, ?_⟩
    · refine ⟨h1, .inr ⟨g, cap, _, rfl, hb, setRow_heap W g cur _ e _ hg, hnc, hcm, ?_, ?_⟩⟩
      · simp only [List.size_toArray, List.length_append, List.length_take, List.length_drop, Array.length_toList] at hfit ⊢
        omega
      · simp only [Nat.add_zero, List.append_assoc]
        rw [List.take_append_of_le_length (by rw [List.length_take, Array.length_toList]; rw [hzl] at hfit; omega), List.take_take, Nat.min_eq_left hno, htk]
    · exact ⟨rfl, rfl, rfl, by simp [World.setRow], fun k _ hk => setRow_other W g k _ (fun e => hk (by simp [e]))⟩

theorem grown_dr (w : World) (row : Option Nat) : w.grownBy w.drew row := ⟨rfl, rfl, rfl, Nat.le_refl _, fun _ _ _ => rfl⟩
theorem grown2 {a b c : World} {row : Option Nat} (h1 : a.grownBy b row) (h2 : b.grownBy c row) : a.grownBy c row := ⟨h2.os.trans h1.os, h2.tape.trans h1.tape, h2.output.trans h1.output, Nat.le_trans h1.size h2.size, fun k hk hr => (h2.block k (Nat.lt_of_lt_of_le hk h1.size) hr).trans (h1.block k hk hr)⟩

theorem zeroLgr (w : World) : (zeroValue 72).run Tryz.prog w = .ok (.agg #[.string ByteArray.empty, .int .i64 0, .slice none 0 0, .slice none 0 0, .bool false, .bool false]) w := by kernel_rfl
theorem zeroHnd (w : World) : (zeroValue 47).run Tryz.prog w = .ok (.agg #[.string ByteArray.empty, .int .i64 0, .slice none 0 0]) w := by kernel_rfl
set_option maxHeartbeats 4000000 in
set_option maxRecDepth 100000 in
theorem deleteHnd_c {W : World} {lo g m cap k : Nat} {xs : List Value} (hown : W.ownsRow lo 47 3 (.slice (some ⟨g, 0, none⟩) (m + 1) cap) (m + 1) xs) (hk : k ≤ m) (h1 : ∀ u ∈ xs, u.oneCell' = true) (hm : m ≤ 64) :
    Calls Tryz.prog 72 #[.slice (some ⟨g, 0, none⟩) (m + 1) cap, .int .i64 (k : Int), .int .i64 ((k : Int) + 1)] W (fun e w' => e = .returned (.slice (some ⟨g, 0, none⟩) m cap) ∧
      w'.ownsRow lo 47 3 (.slice (some ⟨g, 0, none⟩) m cap) m (xs.take (k * 3) ++ xs.drop ((k + 1) * 3)) ∧ W.grownBy w' (some g)) := by
  obtain ⟨i0, hi, _, hz1, _⟩ := info_parts Tryz.infoHandler
  obtain ⟨A0, c0, e0, hc, hcm⟩ := (Sl.of_own hown).form
  have e0' : cap = c0 := by have h9 := e0; simp at h9; exact h9.2
  subst e0'
  unfold maxLen at hcm
  obtain ⟨A, hA⟩ : ∃ A : Addr, (if cap = k + 1 then (some ⟨g, 0, none⟩ : Option Addr) else some ⟨g, (k + 1) * 3, none⟩) = some A := by split <;> exact ⟨_, rfl⟩
  obtain ⟨w1, hrun, ho1, hg1⟩ := run_delete (P := Tryz.prog) Tryz.underlying24 hi hz1 hown.drew hk (by omega) h1 hA
  obtain ⟨w2, hcl, ho2, hg2⟩ := run_clear_own (P := Tryz.prog) (ty := 0) (c := cap - m) Tryz.underlying24 (zeroHnd w1) (size := 3) rfl (by decide) ho1 (o := m * 3) (q := 1) (Nat.le_refl _) (by omega) (by omega)
  have hcl' : ∀ ty, (Builtin.clear_ #[24] ty #[.slice (some ⟨g, m * 3, none⟩) 1 (cap - m)]).run Tryz.prog w1 = .ok (.tuple #[]) w2 := fun ty => hcl
  have HRun := hid hrun
  have HO := hid (And.intro ho2 (grown2 (show W.grownBy W.drew (some g) from grown_dr W _) (grown2 hg1 hg2)))
  have s0 : (0 : Int) ≤ (k : Int) := by omega
  have s1 : (k : Int) ≤ (k : Int) + 1 := by omega
  have s2 : ((k : Int)).toNat = k := by simp
  have s3 : ((k : Int) + 1).toNat = k + 1 := by omega
  have s4 : (k : Int) + 1 ≤ ((m + 1 : Nat) : Int) := by omega
  have s5 : (0 : Int) ≤ (k : Int) + 1 := by omega
  have s6 : (k : Int) ≤ (cap : Int) := by omega
  have s7 : ((k : Int) == (k : Int) + 1) = false := by simp; omega
  have s8 : k + 1 ≤ m + 1 := by omega
  clear hcl hrun ho1 hg1 ho2 hg2 hown h1 e0
  go_enter Tryz.func72, Tryz.ntmps72
  go_wp2_with fail
  refine wp_region_held_drew (S := (fun _ : World => True)) (by kernel_rfl) trivial (fun hS => ?_)
  refine wpAnyH_take (i := 0) (oi := ?oi109) (v := ?v109) ?hi109 (by kernel_rfl) ?hf109 ?hr109 ?hQ109 (Or.inl ⟨?hw109, ?hy109⟩) (by assumption) ?rest109
  case hi109 => simp only [List.getElem?_toArray, List.getElem?_cons_succ, List.getElem?_cons_zero]; rfl
  case hf109 => kernel_rfl
  case hr109 => kernel_rfl
  case hw109 => rfl
  case hy109 => (intro w hSw; (try dsimp only at hSw); go_simp; all_goals (first | done | with_reducible rfl))
  case hQ109 => exact fun _ _ _ h => h
  simp only [Act.put, List.setIfInBounds_toArray, List.set_cons_zero, List.set_cons_succ]
  refine wpAnyH_take (i := 1) (oi := ?oi110) (v := ?v110) ?hi110 (by kernel_rfl) ?hf110 ?hr110 ?hQ110 (Or.inl ⟨?hw110, ?hy110⟩) (by assumption) ?rest110
  case hi110 => simp only [List.getElem?_toArray, List.getElem?_cons_succ, List.getElem?_cons_zero]; rfl
  case hf110 => kernel_rfl
  case hr110 => kernel_rfl
  case hw110 => rfl
  case hy110 => (intro w hSw; (try dsimp only at hSw); go_simp; all_goals (first | done | with_reducible rfl))
  case hQ110 => exact fun _ _ _ h => h
  simp only [Act.put, List.setIfInBounds_toArray, List.set_cons_zero, List.set_cons_succ]
  refine wpAnyH_take (i := 2) (oi := ?oi111) (v := ?v111) ?hi111 (by kernel_rfl) ?hf111 ?hr111 ?hQ111 (Or.inl ⟨?hw111, ?hy111⟩) (by assumption) ?rest111
  case hi111 => simp only [List.getElem?_toArray, List.getElem?_cons_succ, List.getElem?_cons_zero]; rfl
  case hf111 => kernel_rfl
  case hr111 => kernel_rfl
  case hw111 => rfl
  case hy111 => (intro w hSw; (try dsimp only at hSw); go_simp; all_goals (first | done | with_reducible rfl))
  case hQ111 => exact fun _ _ _ h => h
  simp only [Act.put, List.setIfInBounds_toArray, List.set_cons_zero, List.set_cons_succ]
  refine wpAnyH_take (i := 3) (oi := ?oi112) (v := ?v112) ?hi112 (by kernel_rfl) ?hf112 ?hr112 ?hQ112 (Or.inl ⟨?hw112, ?hy112⟩) (by assumption) ?rest112
  case hi112 => simp only [List.getElem?_toArray, List.getElem?_cons_succ, List.getElem?_cons_zero]; rfl
  case hf112 => kernel_rfl
  case hr112 => kernel_rfl
  case hw112 => rfl
  case hy112 => (intro w hSw; (try dsimp only at hSw); go_simp; all_goals (first | done | with_reducible rfl))
  case hQ112 => exact fun _ _ _ h => h
  simp only [Act.put, List.setIfInBounds_toArray, List.set_cons_zero, List.set_cons_succ]
  refine wpAnyH_take (i := 4) (oi := ?oi113) (v := ?v113) ?hi113 (by kernel_rfl) ?hf113 ?hr113 ?hQ113 (Or.inl ⟨?hw113, ?hy113⟩) (by assumption) ?rest113
  case hi113 => simp only [List.getElem?_toArray, List.getElem?_cons_succ, List.getElem?_cons_zero]; rfl
  case hf113 => kernel_rfl
  case hr113 => kernel_rfl
  case hw113 => rfl
  case hy113 => (intro w hSw; (try dsimp only at hSw); go_simp; all_goals (first | done | with_reducible rfl))
  case hQ113 => exact fun _ _ _ h => h
  simp only [Act.put, List.setIfInBounds_toArray, List.set_cons_zero, List.set_cons_succ]
  refine wpAnyH_take (i := 5) (oi := ?oi114) (v := ?v114) ?hi114 (by kernel_rfl) ?hf114 ?hr114 ?hQ114 (Or.inl ⟨?hw114, ?hy114⟩) (by assumption) ?rest114
  case hi114 => simp only [List.getElem?_toArray, List.getElem?_cons_succ, List.getElem?_cons_zero]; rfl
  case hf114 => kernel_rfl
  case hr114 => kernel_rfl
  case hw114 => rfl
  case hy114 => (intro w hSw; (try dsimp only at hSw); go_simp; all_goals (first | done | with_reducible rfl))
  case hQ114 => exact fun _ _ _ h => h
  simp only [Act.put, List.setIfInBounds_toArray, List.set_cons_zero, List.set_cons_succ]
  refine wpAnyH_ready (rs := [6]) (by kernel_rfl) (by simp) ?_
  refine AllReadyH.cons (o := ?oi115) ?hi115 (fun K hK => ?step115) AllReadyH.nil
  case hi115 => simp only [List.getElem?_toArray, List.getElem?_cons_succ, List.getElem?_cons_zero]; rfl
  rw [if_pos (by rfl)]
  refine wp_app rfl (by rfl) (by rfl) HRun.out ?_
  refine hK.out _ _ trivial (fun _ => ?_)
  simp only [Act.put, List.setIfInBounds_toArray, List.set_cons_zero, List.set_cons_succ]
  refine wpAnyH_take (i := 7) (oi := ?oi116) (v := ?v116) ?hi116 (by kernel_rfl) ?hf116 ?hr116 ?hQ116 (Or.inl ⟨?hw116, ?hy116⟩) (by assumption) ?rest116
  case hi116 => simp only [List.getElem?_toArray, List.getElem?_cons_succ, List.getElem?_cons_zero]; rfl
  case hf116 => kernel_rfl
  case hr116 => kernel_rfl
  case hw116 => rfl
  case hy116 => (intro w hSw; (try dsimp only at hSw); go_simp; all_goals (first | done | with_reducible rfl))
  case hQ116 => exact fun _ _ _ h => h
  simp only [Act.put, List.setIfInBounds_toArray, List.set_cons_zero, List.set_cons_succ]
  refine wpAnyH_done (by kernel_rfl) ?_ _
  go_wp2_with fail
  go_ret
  exact ⟨rfl, HO.out.1, HO.out.2⟩
end Go.Proofs.YtioegkcekbkblaaGreat
