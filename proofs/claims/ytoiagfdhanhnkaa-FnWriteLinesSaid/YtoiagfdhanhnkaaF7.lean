/-
  FILES: copyLists of the program.
-/
import Derived.Test.YtoiagfdhanhnkaaF6
import Derived.Laws.CopyRow
namespace Go.Proofs.Ytoiagfdhanhnkaa
open Go.RowKit Nm
set_option linter.unusedSimpArgs false
set_option linter.unusedVariables false

/-- the builtin copy of one-celled elements into the whole of a row of our own -/
theorem copy_all {P : Program} {W : World} {lo m g B : Nat} {e t : TypeId} {i : TypeInfo} {xs cs : List Value} {src : Value} (ht : P.underlying t = some (.slice e)) (hi : P.info? e = some i) (hsize : i.size = 1)
    (h : W.ownsRow lo e 1 (.slice (some ⟨g, 0, none⟩) m m) m xs) (hs : Sl W B 1 m src cs) (h1 : ∀ u ∈ cs, u.oneCell' = true) :
    ∃ W', (∀ ty, (Builtin.copy_ #[t, t] ty #[.slice (some ⟨g, 0, none⟩) m m, src]).run P W = .ok (goInt m) W') ∧ W'.ownsRow lo e 1 (.slice (some ⟨g, 0, none⟩) m m) m cs ∧ W.grownBy W' (some g) := by
  obtain ⟨hl, A, c, rfl, hmc, hcm, hA⟩ := hs
  rcases Nat.eq_zero_or_pos m with hm | hm
  · subst hm
    have hcs : cs = [] := List.eq_nil_of_length_eq_zero (by rw [hl, Nat.zero_mul])
    have hxs : xs = [] := List.eq_nil_of_length_eq_zero (by rw [h.1, Nat.zero_mul])
    subst hcs; subst hxs
    exact ⟨W, fun ty => run_copy_none W t t ty e _ _ 0 0 0 c ht (by rw [hi, Option.map_some, hsize]) rfl, h, World.grownBy.refl _ _⟩
  · obtain ⟨b, o, rfl, hb, hc⟩ := hA hm
    have h1' := h.1
    rcases h.2 with ⟨h', _⟩ | ⟨g', cap', cur, h', hbg, hg, hnc, hcmx, hcz, htk⟩
    · simp at h'
    · simp only [Value.slice.injEq, Option.some.injEq, Addr.mk.injEq, and_true, true_and] at h'
      obtain ⟨rfl, rfl⟩ := h'
      rw [Nat.mul_one] at hl hcz h1' htk
      have hld := run_loadCells_list (P := P) W ⟨b, o, none⟩ cs (fun j u hu => by rw [Addr.add_lit]; exact hc j u hu)
      have hst := run_storeCells_at P g 0 e cs 0 cur W hg (by rw [hl, hcz]; omega) h1
      refine ⟨W.setRow g (cur.toList.take 0 ++ cs ++ cur.toList.drop (0 + cs.length)).toArray, fun ty => ?_, ?_, ?_⟩
      · have hmin : Nat.min m m = m := Nat.min_self m
        simp [Builtin.copy_, run_underlying ht, Builtin.lenOf, Builtin.firstCells, sizeOf, typeInfo, hi, hsize, hmin, ← hl, hld, hst]
      · refine ⟨by rw [hl, Nat.mul_one], .inr ⟨g, m, _, rfl, hbg, setRow_heap W g cur _ e _ hg, Nat.le_refl _, hcmx, ?_, ?_⟩⟩
        · simp [hl, hcz]
        · simp only [List.take_zero, List.nil_append, Nat.mul_one]
          rw [List.take_append_of_le_length (by omega), List.take_of_length_le (by omega)]
      · exact ⟨rfl, rfl, rfl, by simp [World.setRow], fun k _ hk => setRow_other W g k _ (fun e => hk (by simp [e]))⟩

set_option maxHeartbeats 4000000 in
set_option maxRecDepth 100000 in
theorem implCopyLists_c {v : Value} {B : Nat} {L : StrssD} {w : World} (h : StrssIn w B v L) (hB : B ≤ w.heap.size) (hn0 : L.length ≤ 1000) :
    Calls Try.prog 49 #[v] w (StrssPost w L) := by
  obtain ⟨A, c, rfl, hnc, hcm⟩ := h.1.form
  unfold maxLen at hcm
  generalize hnn : L.length = n at *
  obtain ⟨i0, hi, hz0, hz1, hz2⟩ := info_parts Try.infoStrss
  obtain ⟨i1, hi1, hy0, hy1, hy2⟩ := info_parts Try.infoStr
  have HU := hid (And.intro h hnn)
  clear h hnn
  go_enter Try.func49, Try.ntmps49
  go_wp2_with (at_make; refine wpList_make_full _ rfl _ _ 22 rfl w.heap.size 35 i0 _ 1 Try.underlying22 hi hz0 hz1 .i64 .i64 _ _ n rfl rfl rfl rfl (by rw [hz2]; omega) (by unfold maxLen; omega) (Nat.le_refl _) ?_)
  intro w1 hown hg1
  have H1 := hid (And.intro hown (And.intro (below_of_grown hg1 (Nat.le_refl _) (by simp)) (show w.heap.size < w1.heap.size from (hown.lt _ rfl).2)))
  clear hown hg1
  go_wp2_with fail
  go_loopw [11] (fun iv wr => ∃ (k : Nat) (xs : List Value) (es : List Cell2), iv = .int .i64 k ∧ k ≤ n ∧ Hid (es.length = k ∧ (∀ j, j < k → xs[j]? = (heads es)[j]?) ∧ NE StrsR es (L.take k)) ∧ Hid (Rows wr w.heap.size (⟨35, 1, n, .slice (some ⟨w.heap.size, 0, none⟩) n n, xs⟩ :: inner es)) ∧ w.heap.size < wr.heap.size ∧ Hid (Below w.heap.size w wr)) (fun iv _ => n - (intOf iv).toNat)
  case atStart => exact ⟨0, _, [], rfl, by omega, ⟨rfl, fun j hj => by omega, by rw [List.take_zero]; exact NE.nil⟩, Rows.one H1.out.1, H1.out.2.2, H1.out.2.1⟩
  case round =>
    obtain ⟨k, xs, es, rfl, hk, HX, HR, hsz, HB⟩ := hrel
    by_cases hlt : k < n
    · obtain ⟨b, o, u, l, rfl, hbB, hx, c0, hin⟩ := (HU.out.1.below HB.out hB).elem hlt
      obtain ⟨A', c', rfl, hnc', hcm'⟩ := hin.1.form
      unfold maxLen at hcm'
      have HX2 := hid hx
      have HI := hid hin
      generalize hml : l.length = m at *
      have hm1 : m ≤ 1048576 := by have := hin.2.1; unfold maxTxt at this; omega
      have HM := hid hml
      clear hx hin hml
      go_wp2_with (at_make; refine wpList_make_full _ rfl _ _ 35 rfl wr.heap.size 9 i1 _ 1 Try.underlying35 hi1 hy0 hy1 .i64 .i64 _ _ m rfl rfl rfl rfl (by rw [hy2]; omega) (by unfold maxLen; omega) (Nat.le_refl _) ?_)
      intro w2 hown2 hg2
      have hb2 : Below wr.heap.size wr w2 := below_of_grown hg2 (Nat.le_refl _) (by simp)
      have hR2 := HR.out.more hb2 (Rows.one (r := ⟨9, 1, m, .slice (some ⟨wr.heap.size, 0, none⟩) m m, _⟩) hown2) HB.out.size
      have htop2 : w2.ownsRow w.heap.size 35 1 (.slice (some ⟨w.heap.size, 0, none⟩) n n) n xs := hR2.head
      obtain ⟨u0, d0⟩ := own_cell htop2 (j := k) (by omega)
      have g0 := htop2.frozenAt k
      have hst := htop2.stored k (.slice (some ⟨wr.heap.size, 0, none⟩) m m)
      have hR3 := Rows.write (pre := []) (r := ⟨35, 1, n, .slice (some ⟨w.heap.size, 0, none⟩) n n, xs⟩) (by simpa only [List.nil_append, List.cons_append] using hR2) hst.2 hst.1
      have hown3 := hR3.1 ⟨9, 1, m, .slice (some ⟨wr.heap.size, 0, none⟩) m m, _⟩ (List.mem_append_right _ (List.mem_cons_of_mem _ (List.mem_append_right _ (List.mem_singleton.2 rfl))))
      have hbw2 := HB.out.trans (hb2.mono HB.out.size)
      have hbw3 : Below w.heap.size w (w2.setCell ⟨w.heap.size, k, none⟩ (.slice (some ⟨wr.heap.size, 0, none⟩) m m)) := hbw2.setCell (p := ⟨w.heap.size, k, none⟩) (Nat.le_refl _) _
      have hin3 := (HI.out.below hb2 (Nat.le_trans hB HB.out.size))
      have hin4 : StrsIn (w2.setCell ⟨w.heap.size, k, none⟩ (.slice (some ⟨wr.heap.size, 0, none⟩) m m)) B (.slice A' m c') l := hin3.below ((Below.refl w.heap.size w2).setCell (p := ⟨w.heap.size, k, none⟩) (Nat.le_refl _) _) hB
      obtain ⟨w5, hcp, ho5, hg5⟩ := copy_all (P := Try.prog) (t := 35) Try.underlying35 hi1 hy1 hown3 (show Sl _ B 1 m _ _ by have := hin4.1; rwa [HM.out] at this) (strs_one l)
      have hR5 := Rows.write (pre := ⟨35, 1, n, .slice (some ⟨w.heap.size, 0, none⟩) n n, xs.set k (.slice (some ⟨wr.heap.size, 0, none⟩) m m)⟩ :: inner es) (r := ⟨9, 1, m, .slice (some ⟨wr.heap.size, 0, none⟩) m m, _⟩) (post := []) hR3 hg5 ho5
      have HR5 := hid hR5
      have HB5 := hid (hbw3.grown hg5 (by simpa using hbw2.size) (fun z hz => by have : wr.heap.size = z := Option.some.inj hz; omega))
      have HC := hid (hcp)
      have HS5 := hid (show w.heap.size < w5.heap.size from Nat.lt_of_lt_of_le hsz (Nat.le_trans hb2.size (by simpa using hg5.size)))
      have hxl := htop2.1
      clear hown2 hg2 hb2 hR2 htop2 hst hR3 hown3 hbw2 hbw3 hin3 hin4 hcp ho5 hg5 hR5
      go_wp2_with (refine wpList_copyB _ rfl _ _ 35 rfl _ _ (by rfl) (by rfl) (HC.out _) ?_)
      go_roundw
      case rel =>
        refine ⟨k + 1, _, es ++ [(.slice (some ⟨wr.heap.size, 0, none⟩) m m, [⟨9, 1, m, .slice (some ⟨wr.heap.size, 0, none⟩) m m, l.map txt⟩])], by go_num, by omega, ⟨by simp [HX.out.1], ?_, ?_⟩, (by rw [inner_append]; simpa [inner, Hid] using HR5.out), HS5.out, HB5.out⟩
        · intro j hj
          rw [show heads (es ++ [((.slice (some ⟨wr.heap.size, 0, none⟩) m m : Value), [(⟨9, 1, m, .slice (some ⟨wr.heap.size, 0, none⟩) m m, l.map txt⟩ : Row)])]) = heads es ++ [.slice (some ⟨wr.heap.size, 0, none⟩) m m] from by simp [heads]]
          by_cases hjk : j = k
          · subst hjk
            rw [List.getElem?_set_self (by omega), List.getElem?_append_right (by rw [heads_len, HX.out.1]; exact Nat.le_refl _), heads_len, HX.out.1, Nat.sub_self]; rfl
          · rw [List.getElem?_set_ne (by omega), List.getElem?_append_left (by rw [heads_len, HX.out.1]; omega)]
            exact HX.out.2.1 j (by omega)
        · rw [List.take_add_one, HX2.out]
          exact HX.out.2.2.snoc (by unfold StrsR; rw [HM.out])
      case measure => simp [intOf]; omega
    · obtain rfl : k = n := by omega
      go_wp2_with fail
      go_ret
      have hr9 := HR.out
      have h8 := hr9.head.1
      have e : xs = heads es := by
        apply List.ext_getElem?
        intro j
        by_cases hj : j < k
        · exact HX.out.2.1 j hj
        · have h8' : xs.length = k * 1 := h8
          rw [List.getElem?_eq_none (by omega), List.getElem?_eq_none (by rw [heads_len, HX.out.1]; omega)]
      rw [e] at hr9
      have h9 := HX.out.2.2
      rw [List.take_of_length_le (by rw [HU.out.2]; exact Nat.le_refl _)] at h9
      refine ⟨_, nestRows 35 _ es, rfl, h9.toR, ?_, HB.out⟩
      unfold nestRows
      rw [HX.out.1]
      exact hr9
end Go.Proofs.Ytoiagfdhanhnkaa
