/-
  FILES: AllLines of both.
-/
import Derived.Test.YtoiagfdhanhnkaaF2
namespace Go.Proofs.Ytoiagfdhanhnkaa
open Go.RowKit Nm
set_option linter.unusedSimpArgs false
set_option linter.unusedVariables false

theorem strs_one (l : TxtL) : ∀ u ∈ l.map txt, u.oneCell' = true := by
  intro u hu; obtain ⟨x, _, rfl⟩ := List.mem_map.1 hu; rfl
/-- append of texts -/
theorem appStrs (w : World) {ops : Array Oper} {rest : List Oper} {o : Oper} {a : Act} {Q : Exit → Act → World → Prop} (hg : o.guard = none) (s x : Operand)
    (ho : o.op = .call { callee := .builtin .append, args := #[s, x], argTypes := #[35, 35] }) (base : Nat) (v : Value) (l l2 : TxtL) (hs : a.eval s = v)
    (hown : w.ownsRow base 9 1 v l.length (l.map txt)) (B : Nat) (src : Value) (hx : a.eval x = src) (hsl : Sl w B 1 l2.length src (l2.map txt)) (hl : l.length + l2.length ≤ 4194304) (hbase : base ≤ w.heap.size)
    (h : ∀ v' w', w'.ownsRow base 9 1 v' (l ++ l2).length ((l ++ l2).map txt) → Below base w w' → wpList Try.prog ops Q rest (a.put o.dst v') w') :
    wpList Try.prog ops Q (o :: rest) a w := by
  obtain ⟨i0, hi, hz0, hz1, hz2⟩ := info_parts Try.infoStr
  refine wpList_appSl w hg s x 35 ho base 9 i0 _ 1 16 Try.underlying35 hi hz0 hz1 hz2 rfl (by decide) v l.length _ hs hown B l2.length src _ hx hsl (strs_one l2) (by unfold maxLen; omega) (by omega) hbase fun v' w' h1 h2 => h v' w' ?_ h2
  simpa using h1

def allL (L : StrssD) : TxtL := L.reverse.flatten
def allX (d : Fil) : TxtL := if filOk d then allL d.li else []
theorem allL_drop {L : StrssD} {j : Nat} {l : TxtL} (h : L[j]? = some l) : allL (L.drop j) = allL (L.drop (j + 1)) ++ l := by
  unfold allL
  rw [drop_at h]; simp
theorem allL_len (L : StrssD) (m : Nat) (h : ∀ l ∈ L, l.length ≤ m) : (allL L).length ≤ m * L.length := by
  unfold allL
  induction L with
  | nil => simp
  | cons a t ih =>
    have h1 := ih fun l hl => h l (by simp [hl])
    have h2 := h a (by simp)
    rw [List.reverse_cons, List.flatten_append, List.length_append, List.length_cons, Nat.mul_succ]
    simp only [List.flatten_cons, List.flatten_nil, List.append_nil]
    omega
theorem fil_small {d : Fil} (h : filOk d = true) : d.li.length ≤ 4 ∧ ∀ l ∈ d.li, l.length ≤ 12 := by
  have h1 := fil_parts h
  exact ⟨by omega, fun l hl => (lines_len (fil_lines h l hl)).1⟩
theorem allX_fit {d : Fil} : StrsFit (allX d) := by
  unfold allX
  cases hz : filOk d with
  | false => exact StrsFit.nil
  | true =>
    have h1 := fil_small hz
    refine ⟨?_, ?_⟩
    · have := allL_len d.li 12 h1.2
      show (allL d.li).length ≤ maxTxt
      unfold maxTxt; have : 12 * d.li.length ≤ 48 := by omega
      omega
    · intro t ht
      have ht : t ∈ allL d.li := ht
      unfold allL at ht
      obtain ⟨l, hl, hm⟩ := List.mem_flatten.1 ht
      have := (lines_len (fil_lines hz l (List.mem_reverse.1 hl))).2 t hm
      unfold maxTxt; omega
def AllPost (w : World) (X : TxtL) (e : Ending) (w2 : World) : Prop := ∃ (u0 : Value) (rs0 : List Row), e = .returned u0 ∧ StrsR rs0 u0 X ∧ Rows w2 w.heap.size rs0 ∧ Below w.heap.size w w2

set_option maxHeartbeats 4000000 in
set_option maxRecDepth 100000 in
theorem specAllLines0_c {v : Value} {B : Nat} {d : Fil} {w : World} (h : FilIn w B v d) (hB : B ≤ w.heap.size) (hz : filOk d = true) :
    Calls Try.prog 63 #[v] w (AllPost w (allL d.li)) := by
  obtain ⟨u, rfl, hu⟩ := h
  obtain ⟨mo, ke, L⟩ := d
  have hsm := fil_small hz
  have hl4 := hsm.1
  obtain ⟨A, c, rfl, hnc, hcm⟩ := hu.1.form
  unfold maxLen at hcm
  replace hu : StrssIn w B (.slice A L.length c) L := hu
  replace hl4 : L.length ≤ 4 := hl4
  generalize hnn : L.length = n at *
  have HU := hid (And.intro hu (And.intro hnn hsm.2))
  have HB0 := hid (show Below w.heap.size w (w.alloc (.cells #[.int .i64 mo, .int .i64 ke, .slice A n c] 26)) from (Below.refl _ _).alloc (Nat.le_refl _) _)
  have K0 := Blk.new w #[.int .i64 mo, .int .i64 ke, .slice A n c] 26
  have hbw := K0.1
  have HC := hid (K0.2 2 _ rfl).1
  clear hu hnn K0 hsm hz
  show Calls Try.prog 63 #[.agg #[.int .i64 mo, .int .i64 ke, .slice A n c]] w (AllPost w (allL L))
  have HL := World.ownsRow_lit (e := 9) (size := 1) (base := w.heap.size + 1) (w.alloc (.cells #[.int .i64 mo, .int .i64 ke, .slice A n c] 26)) #[] 0 (by simp) (by unfold maxLen; omega) (by simp)
  have HC1 := hid (show ((w.alloc (.cells #[.int .i64 mo, .int .i64 ke, .slice A n c] 26)).alloc (.cells #[] 9)).cell? ⟨w.heap.size, 2, none⟩ = some (.slice A n c) from (((Below.refl _ _).alloc (Nat.le_refl _) _).cell (p := ⟨w.heap.size, 2, none⟩) hbw).trans HC.out)
  have HB1 := hid (show Below w.heap.size w ((w.alloc (.cells #[.int .i64 mo, .int .i64 ke, .slice A n c] 26)).alloc (.cells #[] 9)) from HB0.out.alloc (by simp) _)
  have hb2 : w.heap.size + 1 ≤ ((w.alloc (.cells #[.int .i64 mo, .int .i64 ke, .slice A n c] 26)).alloc (.cells #[] 9)).heap.size := by simp
  simp only [World.size_alloc] at HL
  have k2 := HC.out
  replace HL := hid HL
  go_enter Try.func63, Try.ntmps63
  go_wp2_with fail
  clear k2 HC hbw HB0
  have HC := hid HC1.out
  clear HC1
  generalize (w.alloc (.cells #[.int .i64 mo, .int .i64 ke, .slice A n c] 26)).alloc (.cells #[] 9) = w1 at *
  have hbb : w.heap.size < w.heap.size + 1 := by omega
  generalize hbase : w.heap.size + 1 = base at *
  clear hbase
  go_loopw [3, 4] (fun av iv wr => ∃ (k : Nat) (q : Int) (v : Value), iv = .int .i64 q ∧ Hid (q = (k : Int) - 1) ∧ av = v ∧ k ≤ n ∧ Hid (wr.ownsRow base 9 1 v (allL (L.drop k)).length ((allL (L.drop k)).map txt)) ∧ Hid ((allL (L.drop k)).length ≤ 12 * (n - k)) ∧ base ≤ wr.heap.size ∧ Hid (Below base w1 wr)) (fun av iv _ => (intOf iv + 1).toNat)
  case atStart => exact ⟨n, _, _, rfl, rfl, rfl, Nat.le_refl _, by show World.ownsRow _ _ _ _ _ _ _; rw [List.drop_eq_nil_of_le (by rw [HU.out.2.1]; exact Nat.le_refl _)]; exact HL.out, by show _ ≤ _; rw [List.drop_eq_nil_of_le (by rw [HU.out.2.1]; exact Nat.le_refl _)]; simp [allL], hb2, Below.refl _ _⟩
  case round =>
    obtain ⟨k, q, v, rfl, HQ, rfl, hk, HO, HLn, hsz, HB⟩ := hrel
    have c2 := (HB.out.cell (p := ⟨w.heap.size, 2, none⟩) hbb).trans HC.out
    have HBw := hid (HB1.out.trans (HB.out.mono (Nat.le_of_lt hbb)))
    rcases k with _ | j
    · have hq : q = -1 := HQ.out
      subst hq
      have d0 : decide ((0 : Int) ≤ -1) = false := by decide
      go_wp2_with fail
      go_ret
      exact ⟨_, _, rfl, rfl, Rows.one (own_base HO.out (Nat.le_of_lt hbb)), HBw.out⟩
    · have hq : q = (j : Int) := by have := HQ.out; omega
      subst hq
      have hlt : j < n := by omega
      obtain ⟨b, o, u, l, rfl, hbB, hx, c3, hin⟩ := (HU.out.1.below HBw.out hB).elem hlt
      obtain ⟨A', c', rfl, hnc', hcm'⟩ := hin.1.form
      have hl12 := HU.out.2.2 l (List.mem_of_getElem? hx)
      unfold maxLen at hcm'
      have HI := hid hin
      have HX := hid hx
      have HLn' := hid (show ((allL (L.drop (j + 1))).length + l.length ≤ 4194304) by have := HLn.out; omega)
      clear hx hin
      go_wp2_with (at_builtin; refine appStrs _ rfl _ _ rfl base _ _ l (by rfl) HO.out B _ (by rfl) HI.out.1 HLn'.out hsz ?_)
      intro v' w' ho hb
      have e8 := allL_drop HX.out
      have HO' := hid (show w'.ownsRow base 9 1 v' (allL (L.drop j)).length ((allL (L.drop j)).map txt) by rw [e8]; simpa using ho)
      have HB' := hid (HB.out.trans hb)
      have HLn2 := hid (show (allL (L.drop j)).length ≤ 12 * (n - j) by rw [e8, List.length_append]; have := HLn.out; omega)
      have hsz' : base ≤ w'.heap.size := Nat.le_trans hsz hb.size
      clear ho hb e8
      go_wp2_with fail
      go_roundw
      case rel => exact ⟨j, (j : Int) - 1, _, by go_num, rfl, rfl, by omega, HO'.out, HLn2.out, hsz', HB'.out⟩
      case measure => first | (simp [intOf]; done) | (simp [intOf]; omega)

set_option maxHeartbeats 4000000 in
set_option maxRecDepth 100000 in
theorem specAllLines_c {v : Value} {B : Nat} {d : Fil} {w : World} (h : FilIn w B v d) (hB : B ≤ w.heap.size) :
    Calls Try.prog 33 #[v] w (AllPost w (allX d)) := by
  obtain ⟨A, n, c, hv⟩ := h.form
  have C1 := hid (fun (w1 : World) (hb : Below w.heap.size w w1) => specValidFiles0_c (h.below hb hB) (Nat.le_trans hB hb.size))
  have C2 := hid (fun (hz : filOk d = true) (w1 : World) (hb : Below w.heap.size w w1) => specAllLines0_c (h.below hb hB) (Nat.le_trans hB hb.size) hz)
  have HX := hid (show allX d = if filOk d then allL d.li else [] from rfl)
  generalize allX d = X at HX ⊢
  generalize filOk d = z at *
  generalize allL d.li = Y at *
  clear h
  obtain ⟨mo, ke, L⟩ := d
  subst hv
  show Calls Try.prog 33 #[.agg #[.int .i64 mo, .int .i64 ke, .slice A n c]] w (AllPost w X)
  cases z with
  | false =>
    obtain rfl : X = [] := HX.out
    clear C2 HX
    go_enter Try.func33, Try.ntmps33
    go_wp2_with fail
    refine (C1.out _ (by go_grown)).mono ?_
    rintro e w1 ⟨rfl, hb⟩
    have HB := hid (Below.mono hb (by simp) : Below w.heap.size _ w1)
    clear hb
    go_wp2_with fail
    go_ret
    exact ⟨_, _, rfl, rfl, Rows.one (World.ownsRow_nil _ _ _ _), Below.trans (by go_grown) HB.out⟩
  | true =>
    obtain rfl : X = Y := HX.out
    replace C2 := hid (C2.out rfl)
    clear HX
    go_enter Try.func33, Try.ntmps33
    go_wp2_with fail
    refine (C1.out _ (by go_grown)).mono ?_
    rintro e w1 ⟨rfl, hb⟩
    have K1 := (Blk.new _ _ _).to hb
    obtain ⟨k0, _⟩ := K1.2 0 _ rfl
    obtain ⟨k1, _⟩ := K1.2 1 _ rfl
    obtain ⟨k2, _⟩ := K1.2 2 _ rfl
    have HB := hid (Below.trans (by go_grown) (Below.mono hb (by simp)) : Below w.heap.size w w1)
    clear hb K1
    go_wp2_with fail
    refine (C2.out _ HB.out).mono ?_
    rintro e w2 ⟨u, rs, rfl, hs, hr, hb⟩
    have HR := hid (And.intro hs (hr.base HB.out.size))
    have HB2 := hid (HB.out.trans (hb.mono HB.out.size))
    clear hs hr hb
    go_wp2_with fail
    go_ret
    exact ⟨_, _, rfl, HR.out.1, HR.out.2, HB2.out⟩

set_option maxHeartbeats 4000000 in
set_option maxRecDepth 100000 in
theorem implAllLines_c {v : Value} {B : Nat} {d : Fil} {w : World} (h : FilIn w B v d) (hB : B ≤ w.heap.size) :
    Calls Try.prog 31 #[v] w (AllPost w (allX d)) := by
  have C1 := hid (fun (w1 : World) (hb : Below w.heap.size w w1) => implValidFiles_c (h.below hb hB) (Nat.le_trans hB hb.size))
  have HX := hid (show allX d = if filOk d then allL d.li else [] from rfl)
  generalize allX d = X at HX ⊢
  cases hz : filOk d with
  | false =>
    obtain ⟨A, n, c, hv⟩ := h.form
    rw [hz] at C1 HX
    obtain rfl : X = [] := HX.out
    obtain ⟨mo, ke, L⟩ := d
    subst hv
    clear h HX hz
    show Calls Try.prog 31 #[.agg #[.int .i64 mo, .int .i64 ke, .slice A n c]] w (AllPost w [])
    go_enter Try.func31, Try.ntmps31
    go_wp2_with fail
    refine (C1.out _ (by go_grown)).mono ?_
    rintro e w1 ⟨rfl, hb⟩
    have HB := hid (Below.mono hb (by simp) : Below w.heap.size _ w1)
    clear hb
    go_wp2_with fail
    go_ret
    exact ⟨_, _, rfl, rfl, Rows.one (World.ownsRow_nil _ _ _ _), Below.trans (by go_grown) HB.out⟩
  | true =>
  rw [hz] at C1 HX
  obtain rfl : X = allL d.li := HX.out
  clear HX
  obtain ⟨u, rfl, hu⟩ := h
  obtain ⟨mo, ke, L⟩ := d
  have hsm := fil_small hz
  have hl4 := hsm.1
  obtain ⟨A, c, rfl, hnc, hcm⟩ := hu.1.form
  unfold maxLen at hcm
  replace hu : StrssIn w B (.slice A L.length c) L := hu
  replace hl4 : L.length ≤ 4 := hl4
  generalize hnn : L.length = n at *
  have HU := hid (And.intro hu (And.intro hnn hsm.2))
  have HB0 := hid (show Below w.heap.size w (w.alloc (.cells #[.int .i64 mo, .int .i64 ke, .slice A n c] 26)) from (Below.refl _ _).alloc (Nat.le_refl _) _)
  have K0 := Blk.new w #[.int .i64 mo, .int .i64 ke, .slice A n c] 26
  have hbw := K0.1
  have HC := hid (K0.2 2 _ rfl).1
  clear hu hnn K0 hsm hz
  show Calls Try.prog 31 #[.agg #[.int .i64 mo, .int .i64 ke, .slice A n c]] w (AllPost w (allL L))
  go_enter Try.func31, Try.ntmps31
  go_wp2_with fail
  refine (C1.out _ (by go_grown)).mono ?_
  rintro e w1 ⟨rfl, hb⟩
  have K1 := (Blk.new _ _ _).to hb
  obtain ⟨k0, _⟩ := K1.2 0 _ rfl
  obtain ⟨k1, _⟩ := K1.2 1 _ rfl
  obtain ⟨k2, _⟩ := K1.2 2 _ rfl
  have HB1 := hid (Below.trans (by go_grown) (Below.mono hb (by simp)) : Below w.heap.size w w1)
  have hbb : w.heap.size < w1.heap.size := K1.1
  clear hb K1 HC HB0 hbw
  have HC := hid k2
  have HL := hid (World.ownsRow_nil w1 w1.heap.size 9 1)
  have hb2 := Nat.le_refl w1.heap.size
  generalize hbase : w1.heap.size = base at hbb HL hb2
  replace hb2 : base ≤ w1.heap.size := by omega
  clear hbase
  go_wp2_with fail
  clear k0 k1 k2
  go_loopw [3, 4] (fun av iv wr => ∃ (k : Nat) (q : Int) (v : Value), iv = .int .i64 q ∧ Hid (q = (k : Int) - 1) ∧ av = v ∧ k ≤ n ∧ Hid (wr.ownsRow base 9 1 v (allL (L.drop k)).length ((allL (L.drop k)).map txt)) ∧ Hid ((allL (L.drop k)).length ≤ 12 * (n - k)) ∧ base ≤ wr.heap.size ∧ Hid (Below base w1 wr)) (fun av iv _ => (intOf iv + 1).toNat)
  case atStart => exact ⟨n, _, _, rfl, rfl, rfl, Nat.le_refl _, by show World.ownsRow _ _ _ _ _ _ _; rw [List.drop_eq_nil_of_le (by rw [HU.out.2.1]; exact Nat.le_refl _)]; exact HL.out, by show _ ≤ _; rw [List.drop_eq_nil_of_le (by rw [HU.out.2.1]; exact Nat.le_refl _)]; simp [allL], hb2, Below.refl _ _⟩
  case round =>
    obtain ⟨k, q, v, rfl, HQ, rfl, hk, HO, HLn, hsz, HB⟩ := hrel
    have c2 := (HB.out.cell (p := ⟨w.heap.size, 2, none⟩) hbb).trans HC.out
    have HBw := hid (HB1.out.trans (HB.out.mono (Nat.le_of_lt hbb)))
    rcases k with _ | j
    · have hq : q = -1 := HQ.out
      subst hq
      have d0 : decide ((0 : Int) ≤ -1) = false := by decide
      go_wp2_with fail
      go_ret
      exact ⟨_, _, rfl, rfl, Rows.one (own_base HO.out (Nat.le_of_lt hbb)), HBw.out⟩
    · have hq : q = (j : Int) := by have := HQ.out; omega
      subst hq
      have hlt : j < n := by omega
      obtain ⟨b, o, u, l, rfl, hbB, hx, c3, hin⟩ := (HU.out.1.below HBw.out hB).elem hlt
      obtain ⟨A', c', rfl, hnc', hcm'⟩ := hin.1.form
      have hl12 := HU.out.2.2 l (List.mem_of_getElem? hx)
      unfold maxLen at hcm'
      have HI := hid hin
      have HX := hid hx
      have HLn' := hid (show ((allL (L.drop (j + 1))).length + l.length ≤ 4194304) by have := HLn.out; omega)
      clear hx hin
      go_wp2_with (at_builtin; refine appStrs _ rfl _ _ rfl base _ _ l (by rfl) HO.out B _ (by rfl) HI.out.1 HLn'.out hsz ?_)
      intro v' w' ho hb
      have e8 := allL_drop HX.out
      have HO' := hid (show w'.ownsRow base 9 1 v' (allL (L.drop j)).length ((allL (L.drop j)).map txt) by rw [e8]; simpa using ho)
      have HB' := hid (HB.out.trans hb)
      have HLn2 := hid (show (allL (L.drop j)).length ≤ 12 * (n - j) by rw [e8, List.length_append]; have := HLn.out; omega)
      have hsz' : base ≤ w'.heap.size := Nat.le_trans hsz hb.size
      clear ho hb e8
      go_wp2_with fail
      go_roundw
      case rel => exact ⟨j, (j : Int) - 1, _, by go_num, rfl, rfl, by omega, HO'.out, HLn2.out, hsz', HB'.out⟩
      case measure => first | (simp [intOf]; done) | (simp [intOf]; omega)
end Go.Proofs.Ytoiagfdhanhnkaa
