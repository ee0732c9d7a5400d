/-
  WALKS: the model's nearest, above, path, effective, and what hangs on them.
-/
import Derived.Test.YtlhelhfaogcibaaN5
import Derived.Test.YtlhelhfaogcibaaT9
import Derived.Test.YtlhelhfaogcibaaA2
namespace Go.Proofs.Ytlhelhfaogcibaa
open Go.RowKit Nm
set_option linter.unusedSimpArgs false
set_option linter.unusedVariables false

theorem lnames_at {l : List LgrV} {k : Nat} {x : LgrV} (hx : l[k]? = some x) : (lnames l).getD k [] = x.l.nm := by simp [lnames, List.getD, hx]

set_option maxHeartbeats 4000000 in
set_option maxRecDepth 100000 in
theorem specNearest_c (A1 A2 : Option Addr) (n1 k1 n2 k2 B : Nat) (q : Int) (ls : List LgrV) (x : ByteArray) (w : World) (hl : Ls w B n1 (.slice A1 n1 k1) ls) (hB : B ≤ w.heap.size) (h1 : 1 ≤ n1) (hn : n1 ≤ 1048576) (hx : x.size ≤ maxLen) :
    Calls Try.prog 41 #[.agg #[.slice A1 n1 k1, .slice A2 n2 k2, .int .i64 q], .string x] w (fun e w' => e = .returned (.int .i64 (nearN (lnames ls) x.data.toList : Nat)) ∧ Below w.heap.size w w') := by
  have hln := hl.count
  have HB0 := hid (show Below w.heap.size w (w.alloc (.cells #[.slice A1 n1 k1, .slice A2 n2 k2, .int .i64 q] 31)) from (Below.refl _ _).alloc (Nat.le_refl _) _)
  have HV := hid (And.intro hl hln)
  clear hl hln
  go_enter Try.func41, Try.ntmps41
  go_wp2_with fail
  go_loopw [5, 6, 7] (fun ov iv xv wr => ∃ (k : Nat) (u : Value), iv = .int .i64 k ∧ ov = .int .i64 (bestN (lnames ls) x.data.toList k : Nat) ∧ xv = u ∧ k ≤ n1 ∧ wr = w.alloc (.cells #[.slice A1 n1 k1, .slice A2 n2 k2, .int .i64 q] 31)) (fun _ iv _ _ => n1 - (intOf iv).toNat)
  case atStart => exact ⟨0, _, rfl, rfl, rfl, by omega, rfl⟩
  case round =>
    obtain ⟨k, u, rfl, rfl, rfl, hk, rfl⟩ := hrel
    have hbl := best_lt (lnames ls) x.data.toList k
    by_cases hlt : k < n1
    · obtain ⟨b, o, y, p, rfl, hbB, hy, hp, hps, _, _, c0, _⟩ := (HV.out.1.below HB0.out hB).at_ hlt
      obtain ⟨b', o', y', p', e', hbB', hy', hp', hps', _, _, c0', _⟩ := (HV.out.1.below HB0.out hB).at_ (k := bestN (lnames ls) x.data.toList k) (by omega)
      obtain ⟨rfl, rfl⟩ : b = b' ∧ o = o' := by simpa using e'
      have hs1 : p.size ≤ 9223372036854775807 := by unfold maxTxt at hps; omega
      have hs2 : p'.size ≤ 9223372036854775807 := by unfold maxTxt at hps'; omega
      have E := hid (fun W => specBelow_c x p W hx (by unfold maxTxt at hps; unfold maxLen; omega))
      have HE := hid (show bestN (lnames ls) x.data.toList (k + 1) = if belowL x.data.toList p.data.toList && decide (p'.size < p.size) then k else bestN (lnames ls) x.data.toList k by
        simp only [bestN, lnames_at hy, lnames_at hy', ← hp, ← hp', ← Lib.size_eq])
      clear hy hp hy' hp' hps hps' e' hbB'
      generalize hbb : bestN (lnames ls) x.data.toList k = bb at *
      have hbb2 : bb < n1 := by omega
      clear hbb hbl
      cases hz : belowL x.data.toList p.data.toList with
      | false =>
        rw [hz] at E HE
        clear hz
        go_wp2_with (go_at_call 54; refine (E.out _).mono ?_; rintro e w2 ⟨rfl, rfl⟩)
        go_roundw
        case rel => exact ⟨k + 1, _, by go_num, by rw [HE.out]; simp, rfl, by omega, trivial⟩
        case measure => simp [intOf]; omega
      | true =>
        rw [hz] at E HE
        clear hz
        by_cases hg : p'.size < p.size
        · have HE2 := hid (show bestN (lnames ls) x.data.toList (k + 1) = k by rw [HE.out, decide_eq_true hg]; rfl)
          go_wp2_with (go_at_call 54; refine (E.out _).mono ?_; rintro e w2 ⟨rfl, rfl⟩)
          go_roundw
          case rel => exact ⟨k + 1, _, by go_num, by rw [HE2.out], rfl, by omega, trivial⟩
          case measure => simp [intOf]; omega
        · have HE2 := hid (show bestN (lnames ls) x.data.toList (k + 1) = bb by rw [HE.out, decide_eq_false hg]; rfl)
          go_wp2_with (go_at_call 54; refine (E.out _).mono ?_; rintro e w2 ⟨rfl, rfl⟩)
          go_roundw
          case rel => exact ⟨k + 1, _, by go_num, by rw [HE2.out], rfl, by omega, trivial⟩
          case measure => simp [intOf]; omega
    · obtain rfl : k = n1 := by omega
      have HL := hid (show (lnames ls).length = k by unfold lnames; rw [List.length_map]; exact HV.out.2)
      go_wp2_with fail
      go_ret
      exact ⟨ret_int (by unfold nearN; rw [HL.out]), HB0.out⟩

set_option maxHeartbeats 1000000 in
set_option maxRecDepth 100000 in
theorem specAbove_c (x : ByteArray) (w : World) (hx : nameOk x.data.toList = true) (h0 : x.data.toList ≠ []) :
    Calls Try.prog 74 #[.string x] w (fun e w' => e = .returned (txt (aboveL x.data.toList)) ∧ Below w.heap.size w w') := by
  have hsz := name_size _ hx
  rw [← Lib.size_eq] at hsz
  obtain ⟨hw, h4⟩ := (nameOk_iff _).1 hx
  have ht := total_words _ hw
  obtain ⟨m, hm⟩ : ∃ m, (partsL x.data.toList).length = m + 1 := by
    have : (partsL x.data.toList) ≠ [] := fun e => h0 ((partsL_nil_iff _).1 e)
    exact ⟨(partsL x.data.toList).length - 1, by have := List.length_pos_iff.2 this; omega⟩
  have HA := hid (show aboveL x.data.toList = joinL ((partsL x.data.toList).take m) by
    unfold aboveL; rw [List.dropLast_eq_take, hm]; rfl)
  have P := hid (parts_c x w (by omega))
  have hm4 : m ≤ 3 := by omega
  have HT := hid (show total ((partsL x.data.toList).take m) ≤ 16 by have := total_take (partsL x.data.toList) m; omega)
  have HM := hid hm
  clear hx h0 hw h4 ht hm
  go_enter Try.func74, Try.ntmps74
  go_wp2_with fail
  refine (P.out).mono ?_
  rintro e w1 ⟨v, rfl, ho, hb⟩
  rw [HM.out] at ho
  obtain ⟨A, c, rfl, hc1, hc2⟩ := (Sl.of_own ho).form
  have S := (Sl.of_own ho).cut (k := m) (by omega)
  rw [map_take] at S
  have J := hid (joinWith_c (.slice A m c) m _ _ ⟨#[46]⟩ w1 S (by omega) (by have := HT.out; simp only [List.length_take]; show _ + 1 * _ ≤ _; omega) (by show 1 ≤ 8388608; omega))
  have HB := hid hb
  have i0 : (0 : Int) ≤ ((m + 1 : Nat) : Int) - 1 := by omega
  have i1 : (((m + 1 : Nat) : Int) - 1).toNat = m := by omega
  have i2 : IntKind.i64.wrap (((m + 1 : Nat) : Int) - 1) = ((m + 1 : Nat) : Int) - 1 := IntWalk.i64_in _ (by omega)
  have i3 : m ≤ c := by omega
  clear ho hb S
  go_wp2_with fail
  refine (J.out).mono ?_
  rintro e w2 ⟨rfl, rfl⟩
  go_wp2_with fail
  go_ret
  refine ⟨?_, HB.out⟩
  rw [HA.out, ← joinS_dot]; rfl

def IntsPost (w : World) (l : List Nat) (e : Ending) (w' : World) : Prop :=
  ∃ v, e = .returned v ∧ w'.ownsRow w.heap.size 3 1 v l.length (l.map icell) ∧ Below w.heap.size w w'

set_option maxHeartbeats 4000000 in
set_option maxRecDepth 100000 in
theorem specPath_c (A1 A2 : Option Addr) (n1 k1 n2 k2 B : Nat) (q : Int) (ls : List LgrV) (x : ByteArray) (w : World) (hl : Ls w B n1 (.slice A1 n1 k1) ls) (hB : B ≤ w.heap.size) (hn : n1 ≤ 1048576) (hx : x.size ≤ maxLen)
    (h0 : (lnames ls)[0]? = some []) (hok : ∀ z ∈ lnames ls, nameOk z = true) :
    Calls Try.prog 47 #[.agg #[.slice A1 n1 k1, .slice A2 n2 k2, .int .i64 q], .string x] w (IntsPost w (pathN (lnames ls) x.data.toList)) := by
  have hln := hl.count
  have hll : (lnames ls).length = n1 := by unfold lnames; rw [List.length_map]; exact hln
  have h1 : 1 ≤ n1 := by have := (List.getElem?_eq_some_iff.1 h0).1; omega
  have C := hid (fun (y : ByteArray) (hy : y.size ≤ maxLen) (W : World) (hW : Below w.heap.size w W) => specNearest_c A1 A2 n1 k1 n2 k2 B q ls y W (hl.below hW hB) (Nat.le_trans hB hW.size) h1 hn hy)
  have HV := hid (And.intro hl (And.intro h0 hok))
  have HLT := hid (fun y => hll ▸ near_lt h0 y)
  clear hl hln hok h0 hll
  go_enter Try.func47, Try.ntmps47
  go_wp2_with fail
  refine (C.out x hx _ ?_).mono ?_
  case refine_1 => go_grown
  rintro e w1 ⟨rfl, hb1⟩
  have K2 := (Blk.new _ _ _).to hb1
  simp only [World.size_alloc] at K2
  have d0 := (K2.2 0 _ rfl).1
  have d1 := (K2.2 1 _ rfl).1
  have d2 := (K2.2 2 _ rfl).1
  have HK := hid K2
  have HB1 := hid (Below.trans (by go_grown) (hb1.mono (by simp; try omega)) : Below w.heap.size w w1)
  have hsz1 : w.heap.size < w1.heap.size := by have := hb1.size; simp at this; omega
  have H0 := hid (show (nearN (lnames ls) x.data.toList) < n1 from HLT.out _)
  clear hb1 K2
  go_wp2_with fail
  go_loopw [5, 6] (fun kv ov wr => ∃ (k f : Nat) (pre : List Nat) (v : Value), kv = .int .i64 (k : Int) ∧ ov = v ∧ k < n1 ∧ wr.ownsRow w1.heap.size 3 1 v (pre ++ [k]).length ((pre ++ [k]).map icell) ∧ Hid (pre ++ pathF (lnames ls) f k = pathN (lnames ls) x.data.toList) ∧ depthN (lnames ls) k ≤ f ∧ Hid (Below w1.heap.size w1 wr)) (fun kv _ _ => depthN (lnames ls) (intOf kv).toNat)
  case atStart => exact ⟨_, 4, [], _, rfl, rfl, H0.out, World.ownsRow_lit w1 #[_] 1 (Nat.le_refl _) (by unfold maxLen; omega) rfl, by show _ = _; rfl, depth_le HV.out.2.2 _, (Below.refl _ _).alloc (Nat.le_refl _) _⟩
  case round =>
    obtain ⟨k, f, pre, v, rfl, rfl, hk, hown, HP, hf, HB⟩ := hrel
    have HBB := hid (HB1.out.trans (HB.out.mono HB1.out.size))
    obtain ⟨b, o, y, p, rfl, hbB, hy, hp, hps, _, _, c0, _⟩ := (HV.out.1.below HBB.out hB).at_ hk
    have hnm : (lnames ls).getD k [] = p.data.toList := by rw [lnames_at hy, hp]
    have hpl : pre.length ≤ 4 := by
      have h1 := congrArg List.length HP.out
      have h2 := pathF_len (lnames ls) 4 (nearN (lnames ls) x.data.toList)
      have h3 : 1 ≤ (pathF (lnames ls) f k).length := by cases f <;> simp only [pathF] <;> (try split) <;> simp
      rw [List.length_append] at h1; unfold pathN at h1; omega
    have HO := hid hown
    have K3 := HK.out.below HB.out HK.out.1
    have d0 := (K3.2 0 _ rfl).1
    have d1 := (K3.2 1 _ rfl).1
    have d2 := (K3.2 2 _ rfl).1
    have hszr : w1.heap.size ≤ wr.heap.size := HB.out.size
    by_cases h0 : p.data.toList = []
    · have e0 := empty_true h0
      have HE := hid (pathF_root (f := f) (hnm.trans h0))
      clear hown hy hp hnm K3 h0
      go_wp2_with fail
      go_ret
      refine ⟨_, rfl, ?_, HBB.out⟩
      have h := HP.out
      rw [HE.out] at h
      rw [← h]
      exact own_base HO.out HB1.out.size
    · have e0 := empty_false h0
      obtain ⟨g, rfl, hpf⟩ := pathF_up (ns := lnames ls) (f := f) (k := k) (by rw [hnm]; exact h0) hf
      have hnk : nameOk p.data.toList = true := by rw [hp]; exact HV.out.2.2 _ (List.mem_map.2 ⟨y, List.mem_of_getElem? hy, rfl⟩)
      have hdu := depth_up HV.out.2.1 HV.out.2.2 (k := k) (by unfold lnames; rw [List.length_map, HV.out.1.count]; exact hk) (by rw [hnm]; exact h0)
      have HD := hid hdu
      have HF := hid hpf
      have HN := hid hnm
      have AB := hid (fun W => specAbove_c p W hnk h0)
      obtain ⟨ap, hap, hap2⟩ := txt_mk (aboveL p.data.toList)
      rw [hap] at AB
      have hapz : ap.size ≤ maxLen := by
        rw [Lib.size_eq, hap2]
        have := name_size _ (above_name hnk).1
        unfold maxLen; omega
      have CN := hid (fun (W : World) (hW : Below w.heap.size w W) => C.out ap hapz W hW)
      have hup : nearN (lnames ls) ap.data.toList = upN (lnames ls) k := by unfold upN; rw [hap2, hnm]
      rw [hup] at CN
      have hul : upN (lnames ls) k < n1 := by unfold upN; exact HLT.out _
      have hk6 : k * 6 + 5 < n1 * 6 := by omega
      clear hown hy hp hnm K3 h0 hpf hnk hap hap2 hup hdu
      have s0 : (0 : Int) ≤ (k : Int) := by omega
      have s1 : (k : Int) < (n1 : Int) := by omega
      have s2 : ((k : Int)).toNat = k := by simp
      have hwr : w.heap.size < wr.heap.size := by omega
      have hbr : b < wr.heap.size := by omega
      go_wp2_with fail
      refine wp_region_held_drew (S := (fun w' : World => w'.cell? ⟨w.heap.size, 0, none⟩ = some (.slice (some ⟨b, o, none⟩) n1 k1) ∧ w'.cell? ⟨w.heap.size, 1, none⟩ = some (.slice A2 n2 k2) ∧ w'.cell? ⟨w.heap.size, 2, none⟩ = some (.int .i64 q) ∧ w'.cell? ⟨b, o + k * 6, none⟩ = some (.string p))) (by kernel_rfl) ⟨d0, d1, d2, c0⟩ (fun hS => ?_)
      refine wpAnyH_take (i := 0) (oi := ?oi1) (v := ?v1) ?hi1 (by kernel_rfl) ?hf1 ?hr1 ?hQ1 (Or.inl ⟨?hw1, ?hy1⟩) (by assumption) ?rest1
      case hi1 => simp only [List.getElem?_toArray, List.getElem?_cons_succ, List.getElem?_cons_zero]; rfl
      case hf1 => kernel_rfl
      case hr1 => kernel_rfl
      case hw1 => rfl
      case hy1 => (intro w hSw; (try dsimp only at hSw); go_simp <;> (first | done | with_reducible rfl))
      case hQ1 => exact fun _ _ _ h => h
      simp only [Act.put, List.setIfInBounds_toArray, List.set_cons_zero, List.set_cons_succ]
      refine wpAnyH_take (i := 1) (oi := ?oi2) (v := ?v2) ?hi2 (by kernel_rfl) ?hf2 ?hr2 ?hQ2 (Or.inl ⟨?hw2, ?hy2⟩) (by assumption) ?rest2
      case hi2 => simp only [List.getElem?_toArray, List.getElem?_cons_succ, List.getElem?_cons_zero]; rfl
      case hf2 => kernel_rfl
      case hr2 => kernel_rfl
      case hw2 => rfl
      case hy2 => (intro w hSw; (try dsimp only at hSw); go_simp <;> (first | done | with_reducible rfl))
      case hQ2 => exact fun _ _ _ h => h
      simp only [Act.put, List.setIfInBounds_toArray, List.set_cons_zero, List.set_cons_succ]
      refine wpAnyH_take (i := 2) (oi := ?oi3) (v := ?v3) ?hi3 (by kernel_rfl) ?hf3 ?hr3 ?hQ3 (Or.inl ⟨?hw3, ?hy3⟩) (by assumption) ?rest3
      case hi3 => simp only [List.getElem?_toArray, List.getElem?_cons_succ, List.getElem?_cons_zero]; rfl
      case hf3 => kernel_rfl
      case hr3 => kernel_rfl
      case hw3 => rfl
      case hy3 => (intro w hSw; (try dsimp only at hSw); go_simp <;> (first | done | with_reducible rfl))
      case hQ3 => exact fun _ _ _ h => h
      simp only [Act.put, List.setIfInBounds_toArray, List.set_cons_zero, List.set_cons_succ]
      refine wpAnyH_take (i := 3) (oi := ?oi4) (v := ?v4) ?hi4 (by kernel_rfl) ?hf4 ?hr4 ?hQ4 (Or.inl ⟨?hw4, ?hy4⟩) (by assumption) ?rest4
      case hi4 => simp only [List.getElem?_toArray, List.getElem?_cons_succ, List.getElem?_cons_zero]; rfl
      case hf4 => kernel_rfl
      case hr4 => kernel_rfl
      case hw4 => rfl
      case hy4 => (intro w hSw; (try dsimp only at hSw); go_simp <;> (first | done | with_reducible rfl))
      case hQ4 => exact fun _ _ _ h => h
      simp only [Act.put, List.setIfInBounds_toArray, List.set_cons_zero, List.set_cons_succ]
      refine wpAnyH_take (i := 4) (oi := ?oi5) (v := ?v5) ?hi5 (by kernel_rfl) ?hf5 ?hr5 ?hQ5 (Or.inl ⟨?hw5, ?hy5⟩) (by assumption) ?rest5
      case hi5 => simp only [List.getElem?_toArray, List.getElem?_cons_succ, List.getElem?_cons_zero]; rfl
      case hf5 => kernel_rfl
      case hr5 => kernel_rfl
      case hw5 => rfl
      case hy5 => (intro w hSw; (try dsimp only at hSw); go_simp <;> (first | done | with_reducible rfl))
      case hQ5 => exact fun _ _ _ h => h
      simp only [Act.put, List.setIfInBounds_toArray, List.set_cons_zero, List.set_cons_succ]
      refine wpAnyH_take (i := 5) (oi := ?oi6) (v := ?v6) ?hi6 (by kernel_rfl) ?hf6 ?hr6 ?hQ6 (Or.inl ⟨?hw6, ?hy6⟩) (by assumption) ?rest6
      case hi6 => simp only [List.getElem?_toArray, List.getElem?_cons_succ, List.getElem?_cons_zero]; rfl
      case hf6 => kernel_rfl
      case hr6 => kernel_rfl
      case hw6 => rfl
      case hy6 => (intro w hSw; (try dsimp only at hSw); go_simp <;> (first | done | with_reducible rfl))
      case hQ6 => exact fun _ _ _ h => h
      simp only [Act.put, List.setIfInBounds_toArray, List.set_cons_zero, List.set_cons_succ]
      refine wpAnyH_take (i := 6) (oi := ?oi7) (v := ?v7) ?hi7 (by kernel_rfl) ?hf7 ?hr7 ?hQ7 (Or.inl ⟨?hw7, ?hy7⟩) (by assumption) ?rest7
      case hi7 => simp only [List.getElem?_toArray, List.getElem?_cons_succ, List.getElem?_cons_zero]; rfl
      case hf7 => kernel_rfl
      case hr7 => kernel_rfl
      case hw7 => rfl
      case hy7 => (intro w hSw; (try dsimp only at hSw); go_simp <;> (first | done | with_reducible rfl))
      case hQ7 => exact fun _ _ _ h => h
      simp only [Act.put, List.setIfInBounds_toArray, List.set_cons_zero, List.set_cons_succ]
      refine wpAnyH_ready (rs := [7]) (by kernel_rfl) (by simp) ?_
      refine AllReadyH.cons (o := ?oi8) ?hi8 (fun K hK => ?step8) AllReadyH.nil
      case hi8 => simp only [List.getElem?_toArray, List.getElem?_cons_succ, List.getElem?_cons_zero]; rfl
      rw [if_pos (by rfl)]
      go_simp
      go_at_call 74
      refine (AB.out _).mono ?_
      rintro e w5 ⟨rfl, hb5⟩
      refine hK.out _ _ ⟨(hb5.cell (p := ⟨w.heap.size, _, none⟩) hwr).trans d0, (hb5.cell (p := ⟨w.heap.size, _, none⟩) hwr).trans d1, (hb5.cell (p := ⟨w.heap.size, _, none⟩) hwr).trans d2, (hb5.cell (p := ⟨b, _, none⟩) hbr).trans c0⟩ (fun hS9 => ?_)
      have HB5 := hid (HBB.out.drew.trans (hb5.mono HBB.out.drew.size))
      refine wpAnyH_ready (rs := [8]) (by kernel_rfl) (by simp) ?_
      refine AllReadyH.cons (o := ?oi9) ?hi9 (fun K hK => ?step9) AllReadyH.nil
      case hi9 => simp only [List.getElem?_toArray, List.getElem?_cons_succ, List.getElem?_cons_zero]; rfl
      rw [if_pos (by rfl)]
      go_simp
      go_at_call 41
      refine (CN.out _ HB5.out).mono ?_
      rintro e w6 ⟨rfl, hb6⟩
      have hz5 : w.heap.size < w5.heap.size := Nat.lt_of_lt_of_le hwr hb5.size
      have hz5b : b < w5.heap.size := Nat.lt_of_lt_of_le hbr hb5.size
      refine hK.out _ _ ⟨(hb6.cell (p := ⟨w.heap.size, _, none⟩) hz5).trans hS9.1, (hb6.cell (p := ⟨w.heap.size, _, none⟩) hz5).trans hS9.2.1, (hb6.cell (p := ⟨w.heap.size, _, none⟩) hz5).trans hS9.2.2.1, (hb6.cell (p := ⟨b, _, none⟩) hz5b).trans hS9.2.2.2⟩ (fun hS8 => ?_)
      have hbx := ((Below.refl wr.heap.size wr).drew.trans hb5).trans (hb6.mono ((Below.refl wr.heap.size wr).drew.trans hb5).size)
      have HB6 := hid (HB.out.trans (hbx.mono HB.out.size))
      have HO6 := hid (own_below HO.out hbx)
      clear hb5 hb6 hS9 hS hbx
      refine wpAnyH_take (i := 9) (oi := ?oi10) (v := ?v10) ?hi10 (by kernel_rfl) ?hf10 ?hr10 ?hQ10 (Or.inl ⟨?hw10, ?hy10⟩) (by assumption) ?rest10
      case hi10 => simp only [List.getElem?_toArray, List.getElem?_cons_succ, List.getElem?_cons_zero]; rfl
      case hf10 => kernel_rfl
      case hr10 => kernel_rfl
      case hw10 => rfl
      case hy10 => (intro w hSw; (try dsimp only at hSw); go_simp <;> (first | done | with_reducible rfl))
      case hQ10 => exact fun _ _ _ h => h
      simp only [Act.put, List.setIfInBounds_toArray, List.set_cons_zero, List.set_cons_succ]
      refine wpAnyH_done (by kernel_rfl) ?_ _
      clear hS8
      generalize hu : upN (lnames ls) k = u at *
      go_wp2_with (at_builtin; refine appInt _ rfl (.tmp 28) (.tmp 30) rfl w1.heap.size _ (pre ++ [k]) (by rfl) HO6.out u _ _ _ (by rfl) (by simp) (by simp; omega) HB6.out.size ?_)
      intro v' w7 ho7 hb7
      have HO7 := hid ho7
      have HB7 := hid (HB6.out.trans hb7)
      clear ho7 hb7
      go_wp2_with fail
      go_roundw
      case rel =>
        refine ⟨u, g, pre ++ [k], v', rfl, rfl, hul, by simpa using HO7.out, ?_, by have := HD.out; omega, HB7.out⟩
        show _ = _
        rw [← HP.out, HF.out]; simp
      case measure => simp [intOf]; have := HD.out; omega
end Go.Proofs.Ytlhelhfaogcibaa
