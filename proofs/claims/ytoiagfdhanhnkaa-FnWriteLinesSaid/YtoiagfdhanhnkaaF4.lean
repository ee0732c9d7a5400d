/-
  FILES: FindLine of both. By gen_f4.py.
-/
import Derived.Test.YtoiagfdhanhnkaaF2
namespace Go.Proofs.Ytoiagfdhanhnkaa
open Go.RowKit Nm
set_option linter.unusedSimpArgs false
set_option linter.unusedVariables false

def lastAt (x : List UInt8) (l : TxtL) : Nat → Option Nat
  | 0 => none
  | m + 1 => if l[m]? = some x then some m else lastAt x l m
def findAt (x : List UInt8) : Nat → StrssD → Option (Nat × Nat)
  | _, [] => none
  | i, l :: t => match lastAt x l l.length with
    | some k => some (i, k)
    | none => findAt x (i + 1) t
def findX (d : Fil) (x : List UInt8) : Option (Nat × Nat) := if filOk d then findAt x 0 d.li else none
def fst_ (r : Option (Nat × Nat)) : Int := match r with | some q => (q.1 : Int) | none => 0
def snd_ (r : Option (Nat × Nat)) : Int := match r with | some q => (q.2 : Int) | none => 0
theorem find_hit {x : List UInt8} {L : StrssD} {i k : Nat} {l : TxtL} (hl : L[i]? = some l) (h : lastAt x l l.length = some k) : findAt x i (L.drop i) = some (i, k) := by
  rw [drop_at hl, findAt, h]
theorem find_next {x : List UInt8} {L : StrssD} {i : Nat} {l : TxtL} (hl : L[i]? = some l) (h : lastAt x l l.length = none) : findAt x i (L.drop i) = findAt x (i + 1) (L.drop (i + 1)) := by
  rw [drop_at hl, findAt, h]

set_option maxHeartbeats 4000000 in
set_option maxRecDepth 100000 in
theorem specFindLine_c {v : Value} {B : Nat} {d : Fil} (s : ByteArray) {w : World} (h : FilIn w B v d) (hB : B ≤ w.heap.size) (hs : s.size ≤ maxLen) :
    Calls Try.prog 37 #[v, .string s] w (fun e w2 => e = .returned (.tuple #[.int .i64 (fst_ (findX d s.data.toList)), .int .i64 (snd_ (findX d s.data.toList)), .bool (findX d s.data.toList).isSome]) ∧ Below w.heap.size w w2) := by
  have C1 := hid (fun (w1 : World) (hb : Below w.heap.size w w1) => specValidFiles0_c (h.below hb hB) (Nat.le_trans hB hb.size))
  have HX := hid (show findX d s.data.toList = if filOk d then findAt s.data.toList 0 d.li else none from rfl)
  generalize findX d s.data.toList = X at HX ⊢
  obtain ⟨u, rfl, hu⟩ := h
  obtain ⟨mo, ke, L⟩ := d
  have hl20 := hu.2
  unfold maxTxt at hl20
  obtain ⟨A, c, rfl, hnc, hcm⟩ := hu.1.form
  unfold maxLen at hcm
  replace hu : StrssIn w B (.slice A L.length c) L := hu
  replace hl20 : L.length ≤ 1048576 := hl20
  replace HX := hid (show X = if filOk ⟨mo, ke, L⟩ then findAt s.data.toList 0 L else none from HX.out)
  generalize hnn : L.length = n at *
  have HU := hid (And.intro hu hnn)
  clear hu hnn
  show Calls Try.prog 37 #[.agg #[.int .i64 mo, .int .i64 ke, .slice A n c], .string s] w (fun e w2 => e = .returned (.tuple #[.int .i64 (fst_ (X)), .int .i64 (snd_ (X)), .bool (X).isSome]) ∧ Below w.heap.size w w2)
  cases hz : filOk ⟨mo, ke, L⟩ with
  | false =>
    rw [hz] at C1 HX
    clear hz
    go_enter Try.func37, Try.ntmps37
    go_wp2_with fail
    refine (C1.out _ (by go_grown)).mono ?_
    rintro e w1 ⟨rfl, hb⟩
    have HB := hid (Below.trans (by go_grown) (Below.mono hb (by simp)) : Below w.heap.size w w1)
    clear hb
    go_wp2_with fail
    refine bodyPost_ret (v := .tuple #[.int .i64 0, .int .i64 0, .bool false]) (by simp [results, Try.results37, go_sem]) rfl ?_
    have hx : X = none := HX.out
    subst hx
    exact ⟨rfl, HB.out⟩
  | true =>
  rw [hz] at C1 HX
  clear hz
  go_enter Try.func37, Try.ntmps37
  go_wp2_with fail
  refine (C1.out _ (by go_grown)).mono ?_
  rintro e w1 ⟨rfl, hb⟩
  have K1 := (Blk.new _ _ _).to hb
  have k0 := (K1.2 0 _ rfl).1
  have k1 := (K1.2 1 _ rfl).1
  have k2 := (K1.2 2 _ rfl).1
  have HB := hid (Below.trans (by go_grown) (Below.mono hb (by simp)) : Below w.heap.size w w1)
  have HX2 := hid (show X = findAt s.data.toList 0 (L.drop 0) from HX.out)
  have HI := hid (HU.out.1.below HB.out hB)
  clear hb K1 C1 HX
  go_wp2_with fail
  go_loop [7] (fun iv => ∃ i : Nat, iv = .int .i64 i ∧ i ≤ n ∧ Hid (X = findAt s.data.toList i (L.drop i))) (fun iv => n - (intOf iv).toNat)
  case atStart => exact ⟨0, rfl, Nat.zero_le _, HX2.out⟩
  case round =>
    obtain ⟨i, rfl, hi, HF⟩ := hrel
    by_cases hlt : i < n
    · obtain ⟨b, o, u, l, rfl, hbB, hx, c3, hin⟩ := HI.out.elem hlt
      obtain ⟨A', c', rfl, hnc', hcm'⟩ := hin.1.form
      have hl2 := hin.2.1
      unfold maxLen at hcm'
      unfold maxTxt at hl2
      have HIN := hid hin.1
      have HXl := hid hx
      have HHIT := hid (fun k (h : lastAt s.data.toList l l.length = some k) => HF.out.trans (find_hit hx h))
      have HNXT := hid (fun (h : lastAt s.data.toList l l.length = none) => HF.out.trans (find_next hx h))
      generalize hnl : l.length = nl at *
      clear hx hin
      have HNL := hid hnl
      clear hnl
      go_wp2_with fail
      go_loop [8] (fun kv => ∃ (m : Nat) (q : Int), kv = .int .i64 q ∧ Hid (q = (m : Int) - 1) ∧ m ≤ nl ∧ Hid (lastAt s.data.toList l nl = lastAt s.data.toList l m)) (fun kv => (intOf kv + 1).toNat)
      case atStart => exact ⟨nl, _, rfl, rfl, Nat.le_refl _, rfl⟩
      case round =>
        obtain ⟨m, q, rfl, HQ, hm, HL⟩ := hrel
        rcases m with _ | k
        · have hq : q = -1 := HQ.out
          subst hq
          have d0 : decide ((0 : Int) ≤ -1) = false := by decide
          have HO := hid (HNXT.out HL.out)
          clear HNXT HHIT
          go_wp2_with fail
          refine ⟨⟨i + 1, by go_num, by omega, HO⟩, by simp [intOf]; omega⟩
        · have hq : q = (k : Int) := by have := HQ.out; omega
          subst hq
          have hkl : k < nl := by omega
          obtain ⟨b', o', t, rfl, hb', hxn, g0⟩ := HIN.out.text hkl
          have HXN := hid hxn
          clear hxn
          by_cases he : t.data.toList = s.data.toList
          · have e1 := eq_true_of he
            have HO := hid (HHIT.out k (by rw [HL.out, lastAt, if_pos (by rw [HXN.out, he])]))
            clear he HNXT HHIT
            go_wp2_with fail
            refine bodyPost_ret (v := .tuple #[.int .i64 (i : Int), .int .i64 (k : Int), .bool true]) (by simp [results, Try.results37, go_sem]) rfl ?_
            have hx := HO.out
            subst hx
            exact ⟨rfl, HB.out⟩
          · have e1 := eq_false_of he
            have HO := hid (HL.out.trans (show lastAt s.data.toList l (k + 1) = lastAt s.data.toList l k by rw [lastAt, if_neg (by rw [HXN.out]; exact fun h => he (Option.some.inj h))]))
            clear he
            go_wp2_with fail
            refine ⟨⟨k, (k : Int) - 1, by go_num, rfl, by omega, HO⟩, by first | (simp [intOf]; done) | (simp [intOf]; omega)⟩
    · obtain rfl : i = n := by omega
      have HO := hid (show X = none by rw [HF.out, List.drop_eq_nil_of_le (by rw [HU.out.2]; exact Nat.le_refl _)]; rfl)
      go_wp2_with fail
      refine bodyPost_ret (v := .tuple #[.int .i64 0, .int .i64 0, .bool false]) (by simp [results, Try.results37, go_sem]) rfl ?_
      have hx := HO.out
      subst hx
      exact ⟨rfl, HB.out⟩

set_option maxHeartbeats 4000000 in
set_option maxRecDepth 100000 in
theorem implFindLine_c {v : Value} {B : Nat} {d : Fil} (s : ByteArray) {w : World} (h : FilIn w B v d) (hB : B ≤ w.heap.size) (hs : s.size ≤ maxLen) :
    Calls Try.prog 36 #[v, .string s] w (fun e w2 => e = .returned (.tuple #[.int .i64 (fst_ (findX d s.data.toList)), .int .i64 (snd_ (findX d s.data.toList)), .bool (findX d s.data.toList).isSome]) ∧ Below w.heap.size w w2) := by
  have C1 := hid (fun (w1 : World) (hb : Below w.heap.size w w1) => implValidFiles_c (h.below hb hB) (Nat.le_trans hB hb.size))
  have HX := hid (show findX d s.data.toList = if filOk d then findAt s.data.toList 0 d.li else none from rfl)
  generalize findX d s.data.toList = X at HX ⊢
  obtain ⟨u, rfl, hu⟩ := h
  obtain ⟨mo, ke, L⟩ := d
  have hl20 := hu.2
  unfold maxTxt at hl20
  obtain ⟨A, c, rfl, hnc, hcm⟩ := hu.1.form
  unfold maxLen at hcm
  replace hu : StrssIn w B (.slice A L.length c) L := hu
  replace hl20 : L.length ≤ 1048576 := hl20
  replace HX := hid (show X = if filOk ⟨mo, ke, L⟩ then findAt s.data.toList 0 L else none from HX.out)
  generalize hnn : L.length = n at *
  have HU := hid (And.intro hu hnn)
  clear hu hnn
  show Calls Try.prog 36 #[.agg #[.int .i64 mo, .int .i64 ke, .slice A n c], .string s] w (fun e w2 => e = .returned (.tuple #[.int .i64 (fst_ (X)), .int .i64 (snd_ (X)), .bool (X).isSome]) ∧ Below w.heap.size w w2)
  cases hz : filOk ⟨mo, ke, L⟩ with
  | false =>
    rw [hz] at C1 HX
    clear hz
    go_enter Try.func36, Try.ntmps36
    go_wp2_with fail
    refine (C1.out _ (by go_grown)).mono ?_
    rintro e w1 ⟨rfl, hb⟩
    have HB := hid (Below.trans (by go_grown) (Below.mono hb (by simp)) : Below w.heap.size w w1)
    clear hb
    go_wp2_with fail
    refine bodyPost_ret (v := .tuple #[.int .i64 0, .int .i64 0, .bool false]) (by simp [results, Try.results36, go_sem]) rfl ?_
    have hx : X = none := HX.out
    subst hx
    exact ⟨rfl, HB.out⟩
  | true =>
  rw [hz] at C1 HX
  clear hz
  go_enter Try.func36, Try.ntmps36
  go_wp2_with fail
  refine (C1.out _ (by go_grown)).mono ?_
  rintro e w1 ⟨rfl, hb⟩
  have K1 := (Blk.new _ _ _).to hb
  have k0 := (K1.2 0 _ rfl).1
  have k1 := (K1.2 1 _ rfl).1
  have k2 := (K1.2 2 _ rfl).1
  have HB := hid (Below.trans (by go_grown) (Below.mono hb (by simp)) : Below w.heap.size w w1)
  have HX2 := hid (show X = findAt s.data.toList 0 (L.drop 0) from HX.out)
  have HI := hid (HU.out.1.below HB.out hB)
  clear hb K1 C1 HX
  go_wp2_with fail
  go_loop [16] (fun iv => ∃ i : Nat, iv = .int .i64 i ∧ i ≤ n ∧ Hid (X = findAt s.data.toList i (L.drop i))) (fun iv => n - (intOf iv).toNat)
  case atStart => exact ⟨0, rfl, Nat.zero_le _, HX2.out⟩
  case round =>
    obtain ⟨i, rfl, hi, HF⟩ := hrel
    by_cases hlt : i < n
    · obtain ⟨b, o, u, l, rfl, hbB, hx, c3, hin⟩ := HI.out.elem hlt
      obtain ⟨A', c', rfl, hnc', hcm'⟩ := hin.1.form
      have hl2 := hin.2.1
      unfold maxLen at hcm'
      unfold maxTxt at hl2
      have HIN := hid hin.1
      have HXl := hid hx
      have HHIT := hid (fun k (h : lastAt s.data.toList l l.length = some k) => HF.out.trans (find_hit hx h))
      have HNXT := hid (fun (h : lastAt s.data.toList l l.length = none) => HF.out.trans (find_next hx h))
      generalize hnl : l.length = nl at *
      clear hx hin
      have HNL := hid hnl
      clear hnl
      go_wp2_with fail
      go_loop [9] (fun kv => ∃ (m : Nat) (q : Int), kv = .int .i64 q ∧ Hid (q = (m : Int) - 1) ∧ m ≤ nl ∧ Hid (lastAt s.data.toList l nl = lastAt s.data.toList l m)) (fun kv => (intOf kv + 1).toNat)
      case atStart => exact ⟨nl, _, rfl, rfl, Nat.le_refl _, rfl⟩
      case round =>
        obtain ⟨m, q, rfl, HQ, hm, HL⟩ := hrel
        rcases m with _ | k
        · have hq : q = -1 := HQ.out
          subst hq
          have d0 : decide ((0 : Int) ≤ -1) = false := by decide
          have HO := hid (HNXT.out HL.out)
          clear HNXT HHIT
          go_wp2_with fail
          refine ⟨⟨i + 1, by go_num, by omega, HO⟩, by simp [intOf]; omega⟩
        · have hq : q = (k : Int) := by have := HQ.out; omega
          subst hq
          have hkl : k < nl := by omega
          obtain ⟨b', o', t, rfl, hb', hxn, g0⟩ := HIN.out.text hkl
          have HXN := hid hxn
          clear hxn
          by_cases he : t.data.toList = s.data.toList
          · have e1 := eq_true_of he
            have HO := hid (HHIT.out k (by rw [HL.out, lastAt, if_pos (by rw [HXN.out, he])]))
            clear he HNXT HHIT
            go_wp2_with fail
            refine bodyPost_ret (v := .tuple #[.int .i64 (i : Int), .int .i64 (k : Int), .bool true]) (by simp [results, Try.results36, go_sem]) rfl ?_
            have hx := HO.out
            subst hx
            exact ⟨rfl, HB.out⟩
          · have e1 := eq_false_of he
            have HO := hid (HL.out.trans (show lastAt s.data.toList l (k + 1) = lastAt s.data.toList l k by rw [lastAt, if_neg (by rw [HXN.out]; exact fun h => he (Option.some.inj h))]))
            clear he
            go_wp2_with fail
            refine ⟨⟨k, (k : Int) - 1, by go_num, rfl, by omega, HO⟩, by first | (simp [intOf]; done) | (simp [intOf]; omega)⟩
    · obtain rfl : i = n := by omega
      have HO := hid (show X = none by rw [HF.out, List.drop_eq_nil_of_le (by rw [HU.out.2]; exact Nat.le_refl _)]; rfl)
      go_wp2_with fail
      refine bodyPost_ret (v := .tuple #[.int .i64 0, .int .i64 0, .bool false]) (by simp [results, Try.results36, go_sem]) rfl ?_
      have hx := HO.out
      subst hx
      exact ⟨rfl, HB.out⟩

end Go.Proofs.Ytoiagfdhanhnkaa
