/-
  WALK: the law FnFindLine. By gen_fil.py.
-/
import Derived.Test.YtoiagfdhanhnkaaLDAllLines
import Derived.Test.YtoiagfdhanhnkaaF4
namespace Go.Proofs.Ytoiagfdhanhnkaa
open Go.RowKit Nm
set_option linter.unusedSimpArgs false
set_option linter.unusedVariables false
set_option maxHeartbeats 1000000 in
set_option maxRecDepth 100000 in
theorem lhasText_c {v : Value} {n B : Nat} {l : TxtL} (s : ByteArray) {w : World} (hv : Sl w B 1 n v (l.map txt)) :
    Calls Try.prog 38 #[v, .string s] w fun e w' => e = .returned (.bool (decide (s.data.toList ∈ l))) ∧ w' = w := by
  have hln : l.length = n := by have := hv.1; simpa using this
  obtain ⟨A, c, rfl, hnc, hcm⟩ := hv.form
  unfold maxLen at hcm
  have HV := hid (And.intro hv hln)
  clear hv hln
  go_enter Try.func38, Try.ntmps38
  go_wp2_with fail
  go_loop [5] (fun iv => ∃ k : Nat, iv = .int .i64 k ∧ k ≤ n ∧ Hid (s.data.toList ∉ l.take k)) (fun iv => n - (intOf iv).toNat)
  case atStart => exact ⟨0, rfl, by omega, by simp [Hid]⟩
  case round =>
    obtain ⟨k, rfl, hk, HN⟩ := hrel
    by_cases hlt : k < n
    · obtain ⟨b, o, t, rfl, hb, hxn, g0⟩ := HV.out.1.text hlt
      have HX := hid hxn
      clear hxn
      by_cases he : t.data.toList = s.data.toList
      · have e1 := eq_true_of he
        have HE := hid (show decide (s.data.toList ∈ l) = true from decide_eq_true (by rw [← he]; exact List.mem_of_getElem? HX.out))
        clear he
        go_wp2_with fail
        go_ret
        exact ⟨ret_bool HE.out.symm, rfl⟩
      · have e1 := eq_false_of he
        have HE := hid (show s.data.toList ∉ l.take (k + 1) by
          rw [List.take_add_one, HX.out]
          simp only [Option.toList_some, List.mem_append, List.mem_singleton, not_or]
          exact ⟨HN.out, fun h => he h.symm⟩)
        clear he
        go_wp2_with fail
        refine ⟨⟨k + 1, by go_num, by omega, HE⟩, by simp [intOf]; omega⟩
    · have HE := hid (show decide (s.data.toList ∈ l) = false from decide_eq_false (by have := HN.out; rwa [List.take_of_length_le (by have := HV.out.2; omega)] at this))
      go_wp2_with fail
      go_ret
      exact ⟨ret_bool HE.out.symm, rfl⟩
theorem last_some {x : List UInt8} {l : TxtL} : ∀ {m k : Nat}, lastAt x l m = some k → k < m ∧ l[k]? = some x ∧ ∀ j, k < j → j < m → l[j]? ≠ some x
  | 0, k, h => by cases h
  | m + 1, k, h => by
    unfold lastAt at h
    split at h
    · rename_i hm
      cases h
      exact ⟨by omega, hm, fun j h1 h2 => by omega⟩
    · rename_i hm
      obtain ⟨h1, h2, h3⟩ := last_some h
      refine ⟨by omega, h2, fun j h4 h5 => ?_⟩
      by_cases e : j = m
      · subst e; exact hm
      · exact h3 j h4 (by omega)
theorem last_none {x : List UInt8} {l : TxtL} : ∀ {m : Nat}, lastAt x l m = none → ∀ j, j < m → l[j]? ≠ some x
  | 0, h => fun j hj => by omega
  | m + 1, h => by
    unfold lastAt at h
    split at h
    · cases h
    · rename_i hm
      intro j hj
      by_cases e : j = m
      · subst e; exact hm
      · exact last_none h j (by omega)
theorem last_not {x : List UInt8} {l : TxtL} (h : lastAt x l l.length = none) : x ∉ l := by
  intro hx
  obtain ⟨j, hj⟩ := List.getElem?_of_mem hx
  exact last_none h j (List.getElem?_eq_some_iff.1 hj).1 hj
theorem find_some {x : List UInt8} : ∀ {L : StrssD} {m i k : Nat}, findAt x m L = some (i, k) → m ≤ i ∧ ∃ l, L[i - m]? = some l ∧ lastAt x l l.length = some k ∧ ∀ j l', j < i - m → L[j]? = some l' → x ∉ l'
  | [], m, i, k, h => by cases h
  | l :: t, m, i, k, h => by
    unfold findAt at h
    cases hl : lastAt x l l.length with
    | some q =>
      rw [hl] at h
      cases h
      exact ⟨Nat.le_refl _, l, by simp, hl, fun j l' hj => by omega⟩
    | none =>
      rw [hl] at h
      obtain ⟨h1, l2, h2, h3, h4⟩ := find_some h
      refine ⟨by omega, l2, ?_, h3, fun j l' hj hl' => ?_⟩
      · rw [show i - m = (i - (m + 1)) + 1 by omega, List.getElem?_cons_succ]; exact h2
      · rcases j with _ | j
        · cases hl'; exact last_not hl
        · exact h4 j l' (by omega) (by simpa using hl')
theorem find_none {x : List UInt8} : ∀ {L : StrssD} {m : Nat}, findAt x m L = none → ∀ l ∈ L, x ∉ l
  | [], m, h => fun l hl => by cases hl
  | a :: t, m, h => by
    unfold findAt at h
    cases hl : lastAt x a a.length with
    | some q => rw [hl] at h; cases h
    | none =>
      rw [hl] at h
      intro l hm
      rcases List.mem_cons.1 hm with rfl | hm
      · exact last_not hl
      · exact find_none h l hm
theorem all_not {x : List UInt8} {L : StrssD} (h : ∀ l ∈ L, x ∉ l) : x ∉ allL L := by
  unfold allL
  intro hx
  obtain ⟨l, hl, hm⟩ := List.mem_flatten.1 hx
  exact h l (List.mem_reverse.1 hl) hm
theorem last_drop {x : List UInt8} {l : TxtL} {k : Nat} (h : lastAt x l l.length = some k) : x ∉ l.drop (k + 1) := by
  intro hx
  obtain ⟨j, hj⟩ := List.getElem?_of_mem hx
  rw [List.getElem?_drop] at hj
  exact (last_some h).2.2 (k + 1 + j) (by omega) (List.getElem?_eq_some_iff.1 hj).1 hj
set_option maxHeartbeats 16000000 in
set_option maxRecDepth 100000 in
theorem walk_FnFindLine (a0 : Option Addr) (len0 cap0 : Nat) (z0 : List Int) (w : World) (w0 : IsRow .u8 w a0 len0 cap0 z0) :
    Calls Try.prog 8 #[.slice a0 len0 cap0] w (BoolPost w true) := by
  have hb0 := w0.leF
  by_cases h1 : (1048576 : Int) < (len0 : Int)
  · go_enter Try.func8, Try.ntmps8
    go_wp2_with fail
    go_ret
    exact ⟨rfl, Below.refl _ _⟩
  have DR := hid (drawFindLine_c a0 len0 cap0 z0 w w0)
  clear w0
  go_enter Try.func8, Try.ntmps8
  go_wp2_with fail
  refine DR.out.mono ?_
  rintro e w1 ⟨v, rs, d, x, rfl, hs, hsm, hx45, hr, hb⟩
  obtain ⟨A, n, c, rfl⟩ := hs.form hr
  obtain ⟨mo, ke, L⟩ := d
  have hs' : FilR rs (.agg #[.int .i64 mo, .int .i64 ke, .slice A n c]) ⟨mo, ke, L⟩ := hs
  have HS := hid hs'
  have HSM := hid hsm
  have HF := hid (sm_fit hsm)
  have HB := hid (hb.alloc hb.size (.cells #[.int .i64 mo, .int .i64 ke, .slice A n c] 26))
  have HR := hid (hr.bx hb.size #[.int .i64 mo, .int .i64 ke, .slice A n c] 26 3 rfl)
  have hwb : w.heap.size ≤ w1.heap.size := hb.size
  have hxm : x.size ≤ maxLen := by unfold maxLen; omega
  clear hs hs' hsm hr hb DR
  have CI := hid (fun (W : World) (v : Value) (h : FilIn W W.heap.size v ⟨mo, ke, L⟩) => implFindLine_c x h (Nat.le_refl _) hxm)
  have CS := hid (fun (W : World) (v : Value) (h : FilIn W W.heap.size v ⟨mo, ke, L⟩) => specFindLine_c x h (Nat.le_refl _) hxm)
  have HX := hid (show findX ⟨mo, ke, L⟩ x.data.toList = if filOk ⟨mo, ke, L⟩ then findAt x.data.toList 0 L else none from rfl)
  generalize findX ⟨mo, ke, L⟩ x.data.toList = X at *
  rcases X with _ | ⟨i, k⟩
  · have CI2 := hid (show Calls Try.prog 36 #[.agg #[.int .i64 mo, .int .i64 ke, .slice A n c], .string x] _ (fun e w2 => e = .returned (.tuple #[.int .i64 0, .int .i64 0, .bool false]) ∧ Below _ _ w2) from CI.out _ _ (FilR.at_ HS.out HR.out.right HF.out))
    have f0 := (Rows.bc HR.out.left 0 rfl).1
    have f1 := (Rows.bc HR.out.left 1 rfl).1
    have f2 := (Rows.bc HR.out.left 2 rfl).1
    go_wp2_with fail
    refine CI2.out.mono ?_
    rintro e wn ⟨rfl, hb⟩
    replace HR := hid (HR.out.below hb)
    replace HB := hid (HB.out.trans (hb.mono HB.out.size))
    clear hb f0 f1 f2
    clear CI2
    have CS2 := hid (show Calls Try.prog 37 #[.agg #[.int .i64 mo, .int .i64 ke, .slice A n c], .string x] _ (fun e w2 => e = .returned (.tuple #[.int .i64 0, .int .i64 0, .bool false]) ∧ Below _ _ w2) from CS.out _ _ (FilR.at_ HS.out HR.out.right HF.out))
    have f0 := (Rows.bc HR.out.left 0 rfl).1
    have f1 := (Rows.bc HR.out.left 1 rfl).1
    have f2 := (Rows.bc HR.out.left 2 rfl).1
    go_wp2_with fail
    refine CS2.out.mono ?_
    rintro e wn ⟨rfl, hb⟩
    replace HR := hid (HR.out.below hb)
    replace HB := hid (HB.out.trans (hb.mono HB.out.size))
    clear hb f0 f1 f2
    clear CS2
    have f0 := (Rows.bc HR.out.left 0 rfl).1
    have f1 := (Rows.bc HR.out.left 1 rfl).1
    have f2 := (Rows.bc HR.out.left 2 rfl).1
    have CV := hid (implValidFiles_c (FilR.at_ HS.out HR.out.right HF.out) (Nat.le_refl _))
    cases hz : filOk ⟨mo, ke, L⟩ with
    | false =>
      rw [hz] at CV
      clear hz
      go_wp2_with fail
      refine CV.out.mono ?_
      rintro e wn ⟨rfl, hb⟩
      replace HB := hid (HB.out.trans (hb.mono HB.out.size))
      clear hb
      go_wp2_with fail
      go_ret
      exact ⟨rfl, HB.out⟩
    | true =>
      rw [hz] at CV HX
      have HZ := hid hz
      have hnot := hid (all_not (find_none (show findAt x.data.toList 0 L = none from HX.out.symm)))
      clear hz
      go_wp2_with fail
      refine CV.out.mono ?_
      rintro e wn ⟨rfl, hb⟩
      replace HR := hid (HR.out.below hb)
      replace HB := hid (HB.out.trans (hb.mono HB.out.size))
      clear hb f0 f1 f2
      clear CV
      have f0 := (Rows.bc HR.out.left 0 rfl).1
      have f1 := (Rows.bc HR.out.left 1 rfl).1
      have f2 := (Rows.bc HR.out.left 2 rfl).1
      have hAf : allX ⟨mo, ke, L⟩ = allL L := by unfold allX; rw [HZ.out]; rfl
      have CA := implAllLines_c (FilR.at_ HS.out HR.out.right HF.out) (Nat.le_refl _)
      rw [hAf] at CA
      have HFA := hid (show StrsFit (allL L) by have h9 := allX_fit (d := ⟨mo, ke, L⟩); rwa [hAf] at h9)
      replace CA := hid CA
      clear hAf
      go_wp2_with fail
      refine CA.out.mono ?_
      rintro e wn ⟨ya, rsa, rfl, hsa, hra, hb⟩
      obtain ⟨Aa, na, ca, rfl⟩ := hsa.form hra
      have CT := lhasText_c x (StrsR.at_ hsa hra HFA.out).1
      rw [decide_eq_false hnot.out] at CT
      replace CT := hid CT
      replace HB := hid (HB.out.trans (hb.mono HB.out.size))
      clear hb hsa hra f0 f1 f2
      go_wp2_with fail
      refine CT.out.mono ?_
      rintro e wn ⟨rfl, rfl⟩
      go_wp2_with fail
      go_ret
      exact ⟨rfl, HB.out⟩
  · have hz : filOk ⟨mo, ke, L⟩ = true := by
      cases hz : filOk ⟨mo, ke, L⟩ with
      | true => rfl
      | false => have h9 := HX.out; rw [hz] at h9; cases h9
    have hfi : findAt x.data.toList 0 L = some (i, k) := by have h9 := HX.out; rw [hz] at h9; exact h9.symm
    obtain ⟨_, l, hli, hla, hno⟩ := find_some hfi
    rw [Nat.sub_zero] at hli hno
    have hls := last_some hla
    have hld := last_drop hla
    have hl12 : l.length ≤ 12 := (fil_small hz).2 l (List.mem_of_getElem? hli)
    have hi4 : i < L.length := (List.getElem?_eq_some_iff.1 hli).1
    have hL4 : L.length ≤ 4 := (fil_small hz).1
    have HZ := hid hz
    have HQ := hid (And.intro hli (And.intro hls.2.1 (And.intro hno hld)))
    have hkl : k < l.length := hls.1
    clear HX hz hfi hli hla hno hls hld
    have bi : ((i : Int) != (i : Int)) = false := by simp
    have bk : ((k : Int) != (k : Int)) = false := by simp
    have CI2 := hid (show Calls Try.prog 36 #[.agg #[.int .i64 mo, .int .i64 ke, .slice A n c], .string x] _ (fun e w2 => e = .returned (.tuple #[.int .i64 (i : Int), .int .i64 (k : Int), .bool true]) ∧ Below _ _ w2) from CI.out _ _ (FilR.at_ HS.out HR.out.right HF.out))
    have f0 := (Rows.bc HR.out.left 0 rfl).1
    have f1 := (Rows.bc HR.out.left 1 rfl).1
    have f2 := (Rows.bc HR.out.left 2 rfl).1
    go_wp2_with fail
    refine CI2.out.mono ?_
    rintro e wn ⟨rfl, hb⟩
    replace HR := hid (HR.out.below hb)
    replace HB := hid (HB.out.trans (hb.mono HB.out.size))
    clear hb f0 f1 f2
    clear CI2
    have CS2 := hid (show Calls Try.prog 37 #[.agg #[.int .i64 mo, .int .i64 ke, .slice A n c], .string x] _ (fun e w2 => e = .returned (.tuple #[.int .i64 (i : Int), .int .i64 (k : Int), .bool true]) ∧ Below _ _ w2) from CS.out _ _ (FilR.at_ HS.out HR.out.right HF.out))
    have f0 := (Rows.bc HR.out.left 0 rfl).1
    have f1 := (Rows.bc HR.out.left 1 rfl).1
    have f2 := (Rows.bc HR.out.left 2 rfl).1
    go_wp2_with fail
    refine CS2.out.mono ?_
    rintro e wn ⟨rfl, hb⟩
    replace HR := hid (HR.out.below hb)
    replace HB := hid (HB.out.trans (hb.mono HB.out.size))
    clear hb f0 f1 f2
    clear CS2
    have f0 := (Rows.bc HR.out.left 0 rfl).1
    have f1 := (Rows.bc HR.out.left 1 rfl).1
    have f2 := (Rows.bc HR.out.left 2 rfl).1
    have CV := implValidFiles_c (FilR.at_ HS.out HR.out.right HF.out) (Nat.le_refl _)
    rw [HZ.out] at CV
    replace CV := hid CV
    go_wp2_with fail
    refine CV.out.mono ?_
    rintro e wn ⟨rfl, hb⟩
    replace HR := hid (HR.out.below hb)
    replace HB := hid (HB.out.trans (hb.mono HB.out.size))
    clear hb f0 f1 f2
    clear CV CI CS
    have f0 := (Rows.bc HR.out.left 0 rfl).1
    have f1 := (Rows.bc HR.out.left 1 rfl).1
    have f2 := (Rows.bc HR.out.left 2 rfl).1
    obtain ⟨u0, hu0, hin2⟩ := FilR.at_ HS.out HR.out.right HF.out
    have hu2 : u0 = .slice A n c := by simp at hu0; exact hu0.symm
    subst hu2
    have hln : L.length = n := NestIn.count hin2.1
    obtain ⟨A9, c9, e9, hnc, hcm⟩ := hin2.1.form
    have hnc2 : n ≤ c := by injection e9 with a1 a2 a3; omega
    have hcm2 : c ≤ maxLen := by injection e9 with a1 a2 a3; omega
    unfold maxLen at hcm2
    have HIN := hid hin2
    rw [hln] at hi4 hL4
    clear hu0 hin2 e9 hnc hcm hln
    go_wp2_with fail
    go_loopw [11] (fun iv wr => ∃ (j : Nat), iv = .int .i64 j ∧ j ≤ i ∧ wr = wn) (fun iv _ => i - (intOf iv).toNat)
    case atStart => exact ⟨0, rfl, Nat.zero_le _, rfl⟩
    case round =>
      obtain ⟨j, rfl, hj, rfl⟩ := hrel
      rename World => wn
      by_cases hlt : j < i
      · obtain ⟨b, o, u, l2, rfl, hbB, hx2, d0, hin⟩ := StrssIn.elem (k := j) HIN.out (by omega)
        obtain ⟨A2, k2, rfl, hk2, hm2⟩ := hin.1.form
        unfold maxLen at hm2
        have CT := lhasText_c x hin.1
        rw [decide_eq_false (HQ.out.2.2.1 j l2 hlt hx2)] at CT
        replace CT := hid CT
        have hlt' : (j : Int) < (i : Int) := by omega
        have hjn : j < n := by omega
        clear hx2 hin
        go_wp2_with fail
        refine CT.out.mono ?_
        rintro e wq ⟨rfl, hwq⟩
        subst hwq
        go_wp2_with fail
        go_roundw
        case rel => exact ⟨j + 1, by go_num, by omega, (by first | trivial | rfl)⟩
        case measure => simp [intOf]; omega
      · obtain rfl : j = i := by omega
        obtain ⟨b, o, u, l2, rfl, hbB, hx2, d0, hin⟩ := StrssIn.elem (k := j) HIN.out (by omega)
        obtain rfl : l = l2 := by rw [HQ.out.1] at hx2; exact Option.some.inj hx2
        obtain ⟨A2, k2, rfl, hk2, hm2⟩ := hin.1.form
        unfold maxLen at hm2
        obtain ⟨b2, o2, px, rfl, hbB2, hpx, g0⟩ := hin.1.text hkl
        have hpx2 : px = x := by rw [HQ.out.2.1] at hpx; exact ((bytes_eq_iff _ _).1 (Option.some.inj hpx)).symm
        subst hpx2
        generalize hnl : l.length = nl at *
        have hjn : j < n := by omega
        have s1 : (k : Int) + 1 ≤ (nl : Int) := by omega
        have s2 : (0 : Int) ≤ (k : Int) + 1 := by omega
        have s3 : ((k : Int) + 1).toNat = k + 1 := by omega
        have s4 : (k : Int) + 1 ≤ (k2 : Int) := by omega
        have s5 : k + 1 ≤ nl := by omega
        have s6 : k + 1 ≤ k2 := by omega
        by_cases hc0 : k2 = k + 1
        · have hnlk : nl = k + 1 := by omega
          have CT := lhasText_c (n := 0) (B := wn.heap.size) (l := []) (v := .slice (some ⟨b2, o2, none⟩) 0 0) px (w := wn) ⟨by simp, some ⟨b2, o2, none⟩, 0, rfl, Nat.le_refl _, by unfold maxLen; omega, fun h => absurd h (by omega)⟩
          rw [decide_eq_false (by simp)] at CT
          replace CT := hid CT
          subst hc0
          subst hnlk
          replace hnl := hid hnl
          clear hx2 hin hpx hlt
          go_wp2_with fail
          refine CT.out.mono ?_
          rintro e wq ⟨rfl, hwq⟩
          subst hwq
          go_wp2_with fail
          go_ret
          exact ⟨rfl, HB.out⟩
        · have hfr := (StrsIn.fromF (k := k + 1) (by rw [← hnl] at hin; exact hin) (by omega)).1
          have CT := lhasText_c px (show Sl wn wn.heap.size 1 (nl - (k + 1)) (.slice (some ⟨b2, o2 + (k + 1), none⟩) (nl - (k + 1)) (k2 - (k + 1))) ((l.drop (k + 1)).map txt) by rw [List.length_drop, hnl] at hfr; exact hfr)
          rw [decide_eq_false HQ.out.2.2.2] at CT
          replace CT := hid CT
          replace hnl := hid hnl
          clear hx2 hin hpx hlt hfr
          go_wp2_with fail
          refine CT.out.mono ?_
          rintro e wq ⟨rfl, hwq⟩
          subst hwq
          go_wp2_with fail
          go_ret
          exact ⟨rfl, HB.out⟩
end Go.Proofs.Ytoiagfdhanhnkaa
