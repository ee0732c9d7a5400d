/-
  TREES copied: the model's copyHandler, copyTree.
-/
import Derived.Test.YtbidlmejonpadaaC3
import Derived.Test.YtbidlmejonpadaaApp
namespace Go.Proofs.Ytbidlmejonpadaa
open Go.RowKit Nm
set_option linter.unusedSimpArgs false
set_option linter.unusedVariables false

/-- the append of a whole slice to a fresh empty one, as a run, in a region that has drawn its order -/
theorem run_appSlD {P : Program} (w : World) (t : TypeId) (e : TypeId) (i : TypeInfo) (z : Value) (size bytes : Nat) (ht : P.underlying t = some (.slice e)) (hi : P.info? e = some i) (hz : i.zero = some z)
    (hsize : i.size = size) (hby : i.bytes = bytes) (hzs : z.cells.size = size) (hsz : 0 < size)
    (B m : Nat) (src : Value) (ys : List Value) (hsl : Sl w B size m src ys) (hB : B ≤ w.heap.size) (h1 : ∀ u ∈ ys, u.oneCell' = true) (h63 : m ≤ maxLen) (hbytes : m * bytes ≤ 140737488355328) :
    ∃ v' w', (Builtin.append_ #[t, t] t #[.slice (some ⟨w.heap.size, 0, none⟩) 0 0, src]).run P (w.alloc (.cells #[] e)).drew = .ok v' w' ∧ w'.ownsRow w.heap.size e size v' m ys ∧ Below w.heap.size w w' := by
  have hlit : (w.alloc (.cells #[] e)).drew.ownsRow w.heap.size e size (.slice (some ⟨w.heap.size, 0, none⟩) 0 0) 0 [] := (World.ownsRow_lit w #[] 0 (Nat.le_refl _) (by unfold maxLen; omega) (by simp) : (w.alloc (.cells #[] e)).ownsRow _ e size _ _ _).drew
  have hsl' : Sl (w.alloc (.cells #[] e)).drew B size m src ys := hsl.below (((Below.refl w.heap.size w).alloc (Nat.le_refl _) _).drew) hB
  have hb0 : Below w.heap.size w (w.alloc (.cells #[] e)).drew := ((Below.refl w.heap.size w).alloc (Nat.le_refl _) _).drew
  obtain ⟨hl, A, c, rfl, hmc, hcm, hA⟩ := hsl'
  cases A with
  | some ad =>
    obtain ⟨v', w', h2, h3, h4, _, h6⟩ := run_append_own_at (P := P) (w := (w.alloc (.cells #[] e)).drew) w.heap.size t t e i z size bytes ht hi hz hsize hby hzs hsz _ 0 [] hlit ad m c ys hl (by
      intro j u hu
      have hj := (List.getElem?_eq_some_iff.1 hu).1
      have hm0 : 0 < m := by
        rcases Nat.eq_zero_or_pos m with h0 | h0
        · subst h0; rw [Nat.zero_mul] at hl; omega
        · exact h0
      obtain ⟨b, o', e1, _, hc⟩ := hA hm0
      have e2 : ad = ⟨b, o', none⟩ := Option.some.inj e1
      subst e2
      rw [Addr.add_lit]; exact hc j u hu) h1 (by omega) (by rw [Nat.zero_add]; exact hbytes) (by simp)
    exact ⟨v', w', h2, by simpa using h3, hb0.grown h4 (by simp) (own_lt hlit)⟩
  | none =>
    have hm0 : m = 0 := by
      rcases Nat.eq_zero_or_pos m with h0 | h0
      · exact h0
      · obtain ⟨b, o', e1, _⟩ := hA h0; cases e1
    subst hm0
    have hy : ys = [] := List.eq_nil_of_length_eq_zero (by rw [hl, Nat.zero_mul])
    subst hy
    exact ⟨_, _, run_app_none (P := P) w.heap.size t t e i size c ht hi _ 0 [] hlit, hlit, hb0⟩

set_option maxHeartbeats 4000000 in
set_option maxRecDepth 100000 in
theorem specCopyHandler_c (s : ByteArray) (lv : Int) (A : Option Addr) (n c B : Nat) (fs : List Flt) (w : World) (hv : Sl w B 3 n (.slice A n c) (fsCells fs)) (hB : B ≤ w.heap.size) (hn : n ≤ 1048576) :
    Calls Try.prog 55 #[.agg #[.string s, .int .i64 lv, .slice A n c]] w (fun e w' => ∃ v', e = .returned (.agg #[.string s, .int .i64 lv, v']) ∧ w'.ownsRow w.heap.size 83 3 v' n (fsCells fs) ∧ Below w.heap.size w w') := by
  obtain ⟨i0, hi, hz0, hz1, hz2⟩ := info_parts Try.infoFlt
  have hW : Below w.heap.size w ((w.alloc (.cells #[.string s, .int .i64 lv, .slice A n c] 49)).alloc (.cells #[.string ByteArray.empty, .int .i64 0, .slice none 0 0] 49)) := ((Below.refl _ _).alloc (Nat.le_refl _) _).alloc (by simp) _
  obtain ⟨v', w4, hrun, ho, hb⟩ := run_appSlD (P := Try.prog) ((w.alloc (.cells #[.string s, .int .i64 lv, .slice A n c] 49)).alloc (.cells #[.string ByteArray.empty, .int .i64 0, .slice none 0 0] 49)) 47 83 i0 _ 3 32 Try.underlying47 hi hz0 hz1 hz2 rfl (by decide) B n _ _ (hv.below hW hB) (Nat.le_trans hB hW.size) (flts_one fs) (by unfold maxLen; omega) (by omega)
  simp only [World.size_alloc] at hrun
  have HR := hid hrun
  obtain ⟨A3, c3, rfl, _, _⟩ := (Sl.of_own ho).form
  have K0 := hid (((Blk.new w #[.string s, .int .i64 lv, .slice A n c] 49).alloc (.cells #[.string ByteArray.empty, .int .i64 0, .slice none 0 0] 49)).to hb)
  have K1 := hid ((Blk.new (w.alloc (.cells #[.string s, .int .i64 lv, .slice A n c] 49)) #[.string ByteArray.empty, .int .i64 0, .slice none 0 0] 49).to hb)
  simp only [World.size_alloc] at K1
  have HO := hid (own_base ho (base' := w.heap.size + 2) (by simp))
  have HB := hid (hW.trans (hb.mono (by simp; omega)))
  have hsz : w.heap.size + 2 ≤ w4.heap.size := by have := hb.size; simp at this; omega
  have S4 := hid (And.intro (K0.out.2 0 _ rfl).1 (And.intro (K0.out.2 1 _ rfl).1 (K0.out.2 2 _ rfl).1))
  obtain ⟨q0c, q0f⟩ := K1.out.2 0 _ rfl
  obtain ⟨q1c, q1f⟩ := K1.out.2 1 _ rfl
  obtain ⟨q2c, q2f⟩ := K1.out.2 2 _ rfl
  clear hv hrun ho hb hW
  go_enter Try.func55, Try.ntmps55
  go_wp2_with fail
  go_region_held3 (fun w' => w'.cell? ⟨w.heap.size, 0, none⟩ = some (.string s) ∧ w'.cell? ⟨w.heap.size, 1, none⟩ = some (.int .i64 lv) ∧ w'.cell? ⟨w.heap.size, 2, none⟩ = some (.slice A n c)) (first | exact S4.out | go_keep) (first | (refine wp_app rfl (by rfl) (by rfl) HR.out ?_))
  go_wp2_with fail
  have RB := ((K1.out.set 0 (.string s)).set 1 (.int .i64 lv)).set 2 (.slice A3 n c3)
  have f0 := (RB.2 0 _ rfl).1
  have f1 := (RB.2 1 _ rfl).1
  have f2 := (RB.2 2 _ rfl).1
  refine bodyPost_ret (v := .agg #[.string s, .int .i64 lv, .slice A3 n c3]) (by simp [results, Try.results55, go_sem, f0, f1, f2]) rfl ?_
  refine ⟨_, rfl, ?_, ?_⟩
  · refine own_base ?_ (show w.heap.size ≤ w.heap.size + 2 by omega)
    iterate 3 refine own_set_low ?_ (by omega)
    exact HO.out
  · iterate 3 refine Below.setCell ?_ (by simp) _
    exact HB.out
end Go.Proofs.Ytbidlmejonpadaa
