/-
  N6, N7, N8, N9, N10, N11 laid together.
-/
import Derived.Test.YtlifaeleoiodkaaGreatDoorLawTrees
import Derived.Test.YtlifaeleoiodkaaGreatDoorTrees
import Derived.Test.YtlifaeleoiodkaaGreatDoorHelps
import Derived.Test.YtlifaeleoiodkaaGreatDoorBase
/-
  WALKS: the model's nearest, above, path, effective, and what hangs on them.
-/
namespace Go.Proofs.YtlifaeleoiodkaaGreatDoor
open Go.RowKit Nm
set_option linter.unusedSimpArgs false
set_option linter.unusedVariables false

theorem lnames_at {l : List LgrV} {k : Nat} {x : LgrV} (hx : l[k]? = some x) : (lnames l).getD k [] = x.l.nm := by simp [lnames, List.getD, hx]

set_option maxHeartbeats 4000000 in
set_option maxRecDepth 100000 in
theorem specNearest_c (A1 A2 : Option Addr) (n1 k1 n2 k2 B : Nat) (q : Int) (ls : List LgrV) (x : ByteArray) (w : World) (hl : Ls w B n1 (.slice A1 n1 k1) ls) (hB : B ≤ w.heap.size) (h1 : 1 ≤ n1) (hn : n1 ≤ 1048576) (hx : x.size ≤ maxLen) :
    Calls Tryz.prog 130 #[.agg #[.slice A1 n1 k1, .slice A2 n2 k2, .int .i64 q], .string x] w (fun e w' => e = .returned (.int .i64 (nearN (lnames ls) x.data.toList : Nat)) ∧ Below w.heap.size w w') := by
  have hln := hl.count
  have HB0 := hid (show Below w.heap.size w (w.alloc (.cells #[.slice A1 n1 k1, .slice A2 n2 k2, .int .i64 q] 36)) from (Below.refl _ _).alloc (Nat.le_refl _) _)
  have HV := hid (And.intro hl hln)
  clear hl hln
  go_enter Tryz.func130, Tryz.ntmps130
  go_wp2_with fail
  go_loopw [5, 6, 7] (fun ov iv xv wr => ∃ (k : Nat) (u : Value), iv = .int .i64 k ∧ ov = .int .i64 (bestN (lnames ls) x.data.toList k : Nat) ∧ xv = u ∧ k ≤ n1 ∧ wr = w.alloc (.cells #[.slice A1 n1 k1, .slice A2 n2 k2, .int .i64 q] 36)) (fun _ iv _ _ => n1 - (intOf iv).toNat)
  case atStart => exact ⟨0, _, rfl, rfl, rfl, by omega, rfl⟩
  case round =>
    obtain ⟨k, u, rfl, rfl, rfl, hk, rfl⟩ := hrel
    have hbl := best_lt (lnames ls) x.data.toList k
    by_cases hlt : k < n1
    · obtain ⟨b, o, y, p, rfl, hbB, hy, hp, hps, _, _, c0, _⟩ := (HV.out.1.below HB0.out hB).at_ hlt
      obtain ⟨b', o', y', p', e', hbB', hy', hp', hps', _, _, c0', _⟩ := (HV.out.1.below HB0.out hB).at_ (k := bestN (lnames ls) x.data.toList k) (by omega)
      obtain ⟨rfl, rfl⟩ : b = b' ∧ o = o' := by simpa using e'
      have hs1 : p.size ≤ 9223372036854775807 := by unfold maxTxt at hps; omega
      have hs2 : p'.size ≤ 9223372036854775807 := by unfold maxTxt at hps'; omega
      have E := hid (fun W => specBelow_c x p W hx (by unfold maxTxt at hps; unfold maxLen; omega))
      have HE := hid (show bestN (lnames ls) x.data.toList (k + 1) = if belowL x.data.toList p.data.toList && decide (p'.size < p.size) then k else bestN (lnames ls) x.data.toList k by
        simp only [bestN, lnames_at hy, lnames_at hy', ← hp, ← hp', ← Lib.size_eq])
      clear hy hp hy' hp' hps hps' e' hbB'
      generalize hbb : bestN (lnames ls) x.data.toList k = bb at *
      have hbb2 : bb < n1 := by omega
      clear hbb hbl
      cases hz : belowL x.data.toList p.data.toList with
      | false =>
        rw [hz] at E HE
        clear hz
        go_wp2_with (go_at_call 111; refine (E.out _).mono ?_; rintro e w2 ⟨rfl, rfl⟩)
        go_roundw
        case rel => exact ⟨k + 1, _, by go_num, by rw [HE.out]; simp, rfl, by omega, trivial⟩
        case measure => simp [intOf]; omega
      | true =>
        rw [hz] at E HE
        clear hz
        by_cases hg : p'.size < p.size
        · have HE2 := hid (show bestN (lnames ls) x.data.toList (k + 1) = k by rw [HE.out, decide_eq_true hg]; rfl)
          go_wp2_with (go_at_call 111; refine (E.out _).mono ?_; rintro e w2 ⟨rfl, rfl⟩)
          go_roundw
          case rel => exact ⟨k + 1, _, by go_num, by rw [HE2.out], rfl, by omega, trivial⟩
          case measure => simp [intOf]; omega
        · have HE2 := hid (show bestN (lnames ls) x.data.toList (k + 1) = bb by rw [HE.out, decide_eq_false hg]; rfl)
          go_wp2_with (go_at_call 111; refine (E.out _).mono ?_; rintro e w2 ⟨rfl, rfl⟩)
          go_roundw
          case rel => exact ⟨k + 1, _, by go_num, by rw [HE2.out], rfl, by omega, trivial⟩
          case measure => simp [intOf]; omega
    · obtain rfl : k = n1 := by omega
      have HL := hid (show (lnames ls).length = k by unfold lnames; rw [List.length_map]; exact HV.out.2)
      go_wp2_with fail
      go_ret
      exact ⟨ret_int (by unfold nearN; rw [HL.out]), HB0.out⟩

set_option maxHeartbeats 1000000 in
set_option maxRecDepth 100000 in
theorem specAbove_c (x : ByteArray) (w : World) (hx : nameOk x.data.toList = true) (h0 : x.data.toList ≠ []) :
    Calls Tryz.prog 131 #[.string x] w (fun e w' => e = .returned (txt (aboveL x.data.toList)) ∧ Below w.heap.size w w') := by
  have hsz := name_size _ hx
  rw [← Lib.size_eq] at hsz
  obtain ⟨hw, h4⟩ := (nameOk_iff _).1 hx
  have ht := total_words _ hw
  obtain ⟨m, hm⟩ : ∃ m, (partsL x.data.toList).length = m + 1 := by
    have : (partsL x.data.toList) ≠ [] := fun e => h0 ((partsL_nil_iff _).1 e)
    exact ⟨(partsL x.data.toList).length - 1, by have := List.length_pos_iff.2 this; omega⟩
  have HA := hid (show aboveL x.data.toList = joinL ((partsL x.data.toList).take m) by
    unfold aboveL; rw [List.dropLast_eq_take, hm]; rfl)
  have P := hid (parts_c x w (by omega))
  have hm4 : m ≤ 3 := by omega
  have HT := hid (show total ((partsL x.data.toList).take m) ≤ 16 by have := total_take (partsL x.data.toList) m; omega)
  have HM := hid hm
  clear hx h0 hw h4 ht hm
  go_enter Tryz.func131, Tryz.ntmps131
  go_wp2_with fail
  refine (P.out).mono ?_
  rintro e w1 ⟨v, rfl, ho, hb⟩
  rw [HM.out] at ho
  obtain ⟨A, c, rfl, hc1, hc2⟩ := (Sl.of_own ho).form
  have S := (Sl.of_own ho).cut (k := m) (by omega)
  rw [map_take] at S
  have J := hid (joinWith_c (.slice A m c) m _ _ ⟨#[46]⟩ w1 S (by omega) (by have := HT.out; simp only [List.length_take]; show _ + 1 * _ ≤ _; omega) (by show 1 ≤ 8388608; omega))
  have HB := hid hb
  have i0 : (0 : Int) ≤ ((m + 1 : Nat) : Int) - 1 := by omega
  have i1 : (((m + 1 : Nat) : Int) - 1).toNat = m := by omega
  have i2 : IntKind.i64.wrap (((m + 1 : Nat) : Int) - 1) = ((m + 1 : Nat) : Int) - 1 := IntWalk.i64_in _ (by omega)
  have i3 : m ≤ c := by omega
  clear ho hb S
  go_wp2_with fail
  refine (J.out).mono ?_
  rintro e w2 ⟨rfl, rfl⟩
  go_wp2_with fail
  go_ret
  refine ⟨?_, HB.out⟩
  rw [HA.out, ← joinS_dot]; rfl

def IntsPost (w : World) (l : List Nat) (e : Ending) (w' : World) : Prop :=
  ∃ v, e = .returned v ∧ w'.ownsRow w.heap.size 3 1 v l.length (l.map icell) ∧ Below w.heap.size w w'

set_option maxHeartbeats 4000000 in
set_option maxRecDepth 100000 in
theorem specPath_c (A1 A2 : Option Addr) (n1 k1 n2 k2 B : Nat) (q : Int) (ls : List LgrV) (x : ByteArray) (w : World) (hl : Ls w B n1 (.slice A1 n1 k1) ls) (hB : B ≤ w.heap.size) (hn : n1 ≤ 1048576) (hx : x.size ≤ maxLen)
    (h0 : (lnames ls)[0]? = some []) (hok : ∀ z ∈ lnames ls, nameOk z = true) :
    Calls Tryz.prog 113 #[.agg #[.slice A1 n1 k1, .slice A2 n2 k2, .int .i64 q], .string x] w (IntsPost w (pathN (lnames ls) x.data.toList)) := by
  have hln := hl.count
  have hll : (lnames ls).length = n1 := by unfold lnames; rw [List.length_map]; exact hln
  have h1 : 1 ≤ n1 := by have := (List.getElem?_eq_some_iff.1 h0).1; omega
  have C := hid (fun (y : ByteArray) (hy : y.size ≤ maxLen) (W : World) (hW : Below w.heap.size w W) => specNearest_c A1 A2 n1 k1 n2 k2 B q ls y W (hl.below hW hB) (Nat.le_trans hB hW.size) h1 hn hy)
  have HV := hid (And.intro hl (And.intro h0 hok))
  have HLT := hid (fun y => hll ▸ near_lt h0 y)
  clear hl hln hok h0 hll
  go_enter Tryz.func113, Tryz.ntmps113
  go_wp2_with fail
  refine (C.out x hx _ ?_).mono ?_
  case refine_1 => go_grown
  rintro e w1 ⟨rfl, hb1⟩
  have K2 := (Blk.new _ _ _).to hb1
  simp only [World.size_alloc] at K2
  have d0 := (K2.2 0 _ rfl).1
  have d1 := (K2.2 1 _ rfl).1
  have d2 := (K2.2 2 _ rfl).1
  have HK := hid K2
  have HB1 := hid (Below.trans (by go_grown) (hb1.mono (by simp; try omega)) : Below w.heap.size w w1)
  have hsz1 : w.heap.size < w1.heap.size := by have := hb1.size; simp at this; omega
  have H0 := hid (show (nearN (lnames ls) x.data.toList) < n1 from HLT.out _)
  clear hb1 K2
  go_wp2_with fail
  go_loopw [5, 6] (fun kv ov wr => ∃ (k f : Nat) (pre : List Nat) (v : Value), kv = .int .i64 (k : Int) ∧ ov = v ∧ k < n1 ∧ wr.ownsRow w1.heap.size 3 1 v (pre ++ [k]).length ((pre ++ [k]).map icell) ∧ Hid (pre ++ pathF (lnames ls) f k = pathN (lnames ls) x.data.toList) ∧ depthN (lnames ls) k ≤ f ∧ Hid (Below w1.heap.size w1 wr)) (fun kv _ _ => depthN (lnames ls) (intOf kv).toNat)
  case atStart => exact ⟨_, 4, [], _, rfl, rfl, H0.out, World.ownsRow_lit w1 #[_] 1 (Nat.le_refl _) (by unfold maxLen; omega) rfl, by show _ = _; rfl, depth_le HV.out.2.2 _, (Below.refl _ _).alloc (Nat.le_refl _) _⟩
  case round =>
    obtain ⟨k, f, pre, v, rfl, rfl, hk, hown, HP, hf, HB⟩ := hrel
    have HBB := hid (HB1.out.trans (HB.out.mono HB1.out.size))
    obtain ⟨b, o, y, p, rfl, hbB, hy, hp, hps, _, _, c0, _⟩ := (HV.out.1.below HBB.out hB).at_ hk
    have hnm : (lnames ls).getD k [] = p.data.toList := by rw [lnames_at hy, hp]
    have hpl : pre.length ≤ 4 := by
      have h1 := congrArg List.length HP.out
      have h2 := pathF_len (lnames ls) 4 (nearN (lnames ls) x.data.toList)
      have h3 : 1 ≤ (pathF (lnames ls) f k).length := by cases f <;> simp only [pathF] <;> (try split) <;> simp
      rw [List.length_append] at h1; unfold pathN at h1; omega
    have HO := hid hown
    have K3 := HK.out.below HB.out HK.out.1
    have d0 := (K3.2 0 _ rfl).1
    have d1 := (K3.2 1 _ rfl).1
    have d2 := (K3.2 2 _ rfl).1
    have hszr : w1.heap.size ≤ wr.heap.size := HB.out.size
    by_cases h0 : p.data.toList = []
    · have e0 := empty_true h0
      have HE := hid (pathF_root (f := f) (hnm.trans h0))
      clear hown hy hp hnm K3 h0
      go_wp2_with fail
      go_ret
      refine ⟨_, rfl, ?_, HBB.out⟩
      have h := HP.out
      rw [HE.out] at h
      rw [← h]
      exact own_base HO.out HB1.out.size
    · have e0 := empty_false h0
      obtain ⟨g, rfl, hpf⟩ := pathF_up (ns := lnames ls) (f := f) (k := k) (by rw [hnm]; exact h0) hf
      have hnk : nameOk p.data.toList = true := by rw [hp]; exact HV.out.2.2 _ (List.mem_map.2 ⟨y, List.mem_of_getElem? hy, rfl⟩)
      have hdu := depth_up HV.out.2.1 HV.out.2.2 (k := k) (by unfold lnames; rw [List.length_map, HV.out.1.count]; exact hk) (by rw [hnm]; exact h0)
      have HD := hid hdu
      have HF := hid hpf
      have HN := hid hnm
      have AB := hid (fun W => specAbove_c p W hnk h0)
      obtain ⟨ap, hap, hap2⟩ := txt_mk (aboveL p.data.toList)
      rw [hap] at AB
      have hapz : ap.size ≤ maxLen := by
        rw [Lib.size_eq, hap2]
        have := name_size _ (above_name hnk).1
        unfold maxLen; omega
      have CN := hid (fun (W : World) (hW : Below w.heap.size w W) => C.out ap hapz W hW)
      have hup : nearN (lnames ls) ap.data.toList = upN (lnames ls) k := by unfold upN; rw [hap2, hnm]
      rw [hup] at CN
      have hul : upN (lnames ls) k < n1 := by unfold upN; exact HLT.out _
      have hk6 : k * 6 + 5 < n1 * 6 := by omega
      clear hown hy hp hnm K3 h0 hpf hnk hap hap2 hup hdu
      have s0 : (0 : Int) ≤ (k : Int) := by omega
      have s1 : (k : Int) < (n1 : Int) := by omega
      have s2 : ((k : Int)).toNat = k := by simp
      have hwr : w.heap.size < wr.heap.size := by omega
      have hbr : b < wr.heap.size := by omega
      go_wp2_with fail
      refine wp_region_held_drew (S := (fun w' : World => w'.cell? ⟨w.heap.size, 0, none⟩ = some (.slice (some ⟨b, o, none⟩) n1 k1) ∧ w'.cell? ⟨w.heap.size, 1, none⟩ = some (.slice A2 n2 k2) ∧ w'.cell? ⟨w.heap.size, 2, none⟩ = some (.int .i64 q) ∧ w'.cell? ⟨b, o + k * 6, none⟩ = some (.string p))) (by kernel_rfl) ⟨d0, d1, d2, c0⟩ (fun hS => ?_)
      refine wpAnyH_take (i := 0) (oi := ?oi101) (v := ?v101) ?hi101 (by kernel_rfl) ?hf101 ?hr101 ?hQ101 (Or.inl ⟨?hw101, ?hy101⟩) (by assumption) ?rest101
      case hi101 => simp only [List.getElem?_toArray, List.getElem?_cons_succ, List.getElem?_cons_zero]; rfl
      case hf101 => kernel_rfl
      case hr101 => kernel_rfl
      case hw101 => rfl
      case hy101 => (intro w hSw; (try dsimp only at hSw); go_simp; all_goals (first | done | with_reducible rfl))
      case hQ101 => exact fun _ _ _ h => h
      simp only [Act.put, List.setIfInBounds_toArray, List.set_cons_zero, List.set_cons_succ]
      refine wpAnyH_take (i := 1) (oi := ?oi102) (v := ?v102) ?hi102 (by kernel_rfl) ?hf102 ?hr102 ?hQ102 (Or.inl ⟨?hw102, ?hy102⟩) (by assumption) ?rest102
      case hi102 => simp only [List.getElem?_toArray, List.getElem?_cons_succ, List.getElem?_cons_zero]; rfl
      case hf102 => kernel_rfl
      case hr102 => kernel_rfl
      case hw102 => rfl
      case hy102 => (intro w hSw; (try dsimp only at hSw); go_simp; all_goals (first | done | with_reducible rfl))
      case hQ102 => exact fun _ _ _ h => h
      simp only [Act.put, List.setIfInBounds_toArray, List.set_cons_zero, List.set_cons_succ]
      refine wpAnyH_take (i := 2) (oi := ?oi103) (v := ?v103) ?hi103 (by kernel_rfl) ?hf103 ?hr103 ?hQ103 (Or.inl ⟨?hw103, ?hy103⟩) (by assumption) ?rest103
      case hi103 => simp only [List.getElem?_toArray, List.getElem?_cons_succ, List.getElem?_cons_zero]; rfl
      case hf103 => kernel_rfl
      case hr103 => kernel_rfl
      case hw103 => rfl
      case hy103 => (intro w hSw; (try dsimp only at hSw); go_simp; all_goals (first | done | with_reducible rfl))
      case hQ103 => exact fun _ _ _ h => h
      simp only [Act.put, List.setIfInBounds_toArray, List.set_cons_zero, List.set_cons_succ]
      refine wpAnyH_take (i := 3) (oi := ?oi104) (v := ?v104) ?hi104 (by kernel_rfl) ?hf104 ?hr104 ?hQ104 (Or.inl ⟨?hw104, ?hy104⟩) (by assumption) ?rest104
      case hi104 => simp only [List.getElem?_toArray, List.getElem?_cons_succ, List.getElem?_cons_zero]; rfl
      case hf104 => kernel_rfl
      case hr104 => kernel_rfl
      case hw104 => rfl
      case hy104 => (intro w hSw; (try dsimp only at hSw); go_simp; all_goals (first | done | with_reducible rfl))
      case hQ104 => exact fun _ _ _ h => h
      simp only [Act.put, List.setIfInBounds_toArray, List.set_cons_zero, List.set_cons_succ]
      refine wpAnyH_take (i := 4) (oi := ?oi105) (v := ?v105) ?hi105 (by kernel_rfl) ?hf105 ?hr105 ?hQ105 (Or.inl ⟨?hw105, ?hy105⟩) (by assumption) ?rest105
      case hi105 => simp only [List.getElem?_toArray, List.getElem?_cons_succ, List.getElem?_cons_zero]; rfl
      case hf105 => kernel_rfl
      case hr105 => kernel_rfl
      case hw105 => rfl
      case hy105 => (intro w hSw; (try dsimp only at hSw); go_simp; all_goals (first | done | with_reducible rfl))
      case hQ105 => exact fun _ _ _ h => h
      simp only [Act.put, List.setIfInBounds_toArray, List.set_cons_zero, List.set_cons_succ]
      refine wpAnyH_take (i := 5) (oi := ?oi106) (v := ?v106) ?hi106 (by kernel_rfl) ?hf106 ?hr106 ?hQ106 (Or.inl ⟨?hw106, ?hy106⟩) (by assumption) ?rest106
      case hi106 => simp only [List.getElem?_toArray, List.getElem?_cons_succ, List.getElem?_cons_zero]; rfl
      case hf106 => kernel_rfl
      case hr106 => kernel_rfl
      case hw106 => rfl
      case hy106 => (intro w hSw; (try dsimp only at hSw); go_simp; all_goals (first | done | with_reducible rfl))
      case hQ106 => exact fun _ _ _ h => h
      simp only [Act.put, List.setIfInBounds_toArray, List.set_cons_zero, List.set_cons_succ]
      refine wpAnyH_take (i := 6) (oi := ?oi107) (v := ?v107) ?hi107 (by kernel_rfl) ?hf107 ?hr107 ?hQ107 (Or.inl ⟨?hw107, ?hy107⟩) (by assumption) ?rest107
      case hi107 => simp only [List.getElem?_toArray, List.getElem?_cons_succ, List.getElem?_cons_zero]; rfl
      case hf107 => kernel_rfl
      case hr107 => kernel_rfl
      case hw107 => rfl
      case hy107 => (intro w hSw; (try dsimp only at hSw); go_simp; all_goals (first | done | with_reducible rfl))
      case hQ107 => exact fun _ _ _ h => h
      simp only [Act.put, List.setIfInBounds_toArray, List.set_cons_zero, List.set_cons_succ]
      refine wpAnyH_ready (rs := [7]) (by kernel_rfl) (by simp) ?_
      refine AllReadyH.cons (o := ?oi108) ?hi108 (fun K hK => ?step108) AllReadyH.nil
      case hi108 => simp only [List.getElem?_toArray, List.getElem?_cons_succ, List.getElem?_cons_zero]; rfl
      rw [if_pos (by rfl)]
      go_simp
      go_at_call 131
      refine (AB.out _).mono ?_
      rintro e w5 ⟨rfl, hb5⟩
      refine hK.out _ _ ⟨(hb5.cell (p := ⟨w.heap.size, _, none⟩) hwr).trans d0, (hb5.cell (p := ⟨w.heap.size, _, none⟩) hwr).trans d1, (hb5.cell (p := ⟨w.heap.size, _, none⟩) hwr).trans d2, (hb5.cell (p := ⟨b, _, none⟩) hbr).trans c0⟩ (fun hS9 => ?_)
      have HB5 := hid (HBB.out.drew.trans (hb5.mono HBB.out.drew.size))
      refine wpAnyH_ready (rs := [8]) (by kernel_rfl) (by simp) ?_
      refine AllReadyH.cons (o := ?oi109) ?hi109 (fun K hK => ?step109) AllReadyH.nil
      case hi109 => simp only [List.getElem?_toArray, List.getElem?_cons_succ, List.getElem?_cons_zero]; rfl
      rw [if_pos (by rfl)]
      go_simp
      go_at_call 130
      refine (CN.out _ HB5.out).mono ?_
      rintro e w6 ⟨rfl, hb6⟩
      have hz5 : w.heap.size < w5.heap.size := Nat.lt_of_lt_of_le hwr hb5.size
      have hz5b : b < w5.heap.size := Nat.lt_of_lt_of_le hbr hb5.size
      refine hK.out _ _ ⟨(hb6.cell (p := ⟨w.heap.size, _, none⟩) hz5).trans hS9.1, (hb6.cell (p := ⟨w.heap.size, _, none⟩) hz5).trans hS9.2.1, (hb6.cell (p := ⟨w.heap.size, _, none⟩) hz5).trans hS9.2.2.1, (hb6.cell (p := ⟨b, _, none⟩) hz5b).trans hS9.2.2.2⟩ (fun hS8 => ?_)
      have hbx := ((Below.refl wr.heap.size wr).drew.trans hb5).trans (hb6.mono ((Below.refl wr.heap.size wr).drew.trans hb5).size)
      have HB6 := hid (HB.out.trans (hbx.mono HB.out.size))
      have HO6 := hid (own_below HO.out hbx)
      clear hb5 hb6 hS9 hS hbx
      refine wpAnyH_take (i := 9) (oi := ?oi110) (v := ?v110) ?hi110 (by kernel_rfl) ?hf110 ?hr110 ?hQ110 (Or.inl ⟨?hw110, ?hy110⟩) (by assumption) ?rest110
      case hi110 => simp only [List.getElem?_toArray, List.getElem?_cons_succ, List.getElem?_cons_zero]; rfl
      case hf110 => kernel_rfl
      case hr110 => kernel_rfl
      case hw110 => rfl
      case hy110 => (intro w hSw; (try dsimp only at hSw); go_simp; all_goals (first | done | with_reducible rfl))
      case hQ110 => exact fun _ _ _ h => h
      simp only [Act.put, List.setIfInBounds_toArray, List.set_cons_zero, List.set_cons_succ]
      refine wpAnyH_done (by kernel_rfl) ?_ _
      clear hS8
      generalize hu : upN (lnames ls) k = u at *
      go_wp2_with (at_builtin; refine appInt _ rfl (.tmp 28) (.tmp 30) rfl w1.heap.size _ (pre ++ [k]) (by rfl) HO6.out u _ _ _ (by rfl) (by simp) (by simp; omega) HB6.out.size ?_)
      intro v' w7 ho7 hb7
      have HO7 := hid ho7
      have HB7 := hid (HB6.out.trans hb7)
      clear ho7 hb7
      go_wp2_with fail
      go_roundw
      case rel =>
        refine ⟨u, g, pre ++ [k], v', rfl, rfl, hul, by simpa using HO7.out, ?_, by have := HD.out; omega, HB7.out⟩
        show _ = _
        rw [← HP.out, HF.out]; simp
      case measure => simp [intOf]; have := HD.out; omega
end Go.Proofs.YtlifaeleoiodkaaGreatDoor

/-
  WALKS: the program's nodes: nearest, hang.
-/
namespace Go.Proofs.YtlifaeleoiodkaaGreatDoor
open Go.RowKit Nm
set_option linter.unusedSimpArgs false
set_option linter.unusedVariables false

/-- what the map of nodes holds of the first k names -/
def gF (ns : List Name) (nb : Nat → Nat) : Nat → Name → Option Value
  | 0, _ => none
  | k + 1, l => if l = ns.getD k [] then some (.pointer (some ⟨nb k, 0, none⟩)) else gF ns nb k l
theorem gF_congr {ns : List Name} {nb nb' : Nat → Nat} {k : Nat} (h : ∀ j, j < k → nb j = nb' j) (l : Name) : gF ns nb k l = gF ns nb' k l := by
  induction k with
  | zero => rfl
  | succ k ih => simp only [gF]; rw [ih (fun j hj => h j (by omega)), h k (by omega)]
theorem gF_some {ns : List Name} {nb : Nat → Nat} {k : Nat} {l : Name} {v : Value} (h : gF ns nb k l = some v) : ∃ j, j < k ∧ ns.getD j [] = l ∧ v = .pointer (some ⟨nb j, 0, none⟩) := by
  induction k with
  | zero => cases h
  | succ k ih =>
    simp only [gF] at h
    split at h
    · rename_i e
      exact ⟨k, by omega, e.symm, (Option.some.inj h).symm⟩
    · obtain ⟨j, h1, h2⟩ := ih h
      exact ⟨j, by omega, h2⟩
theorem gF_none {ns : List Name} {nb : Nat → Nat} {k : Nat} {l : Name} (h : gF ns nb k l = none) : ∀ j, j < k → ns.getD j [] ≠ l := by
  induction k with
  | zero => intro j hj; omega
  | succ k ih =>
    simp only [gF] at h
    split at h
    · cases h
    · rename_i e
      intro j hj
      by_cases ej : j = k
      · subst ej; exact fun e2 => e e2.symm
      · exact ih h j (by omega)
theorem at_getD {ns : List Name} {j : Nat} {x : Name} (h : ns[j]? = some x) : ns.getD j [] = x := by simp [List.getD, h]
theorem getD_at {ns : List Name} {j : Nat} (h : j < ns.length) : ns[j]? = some (ns.getD j []) := by simp [List.getD, h]
theorem nodup_at {ns : List Name} (hn : ns.Nodup) {i j : Nat} (hi : i < ns.length) (hj : j < ns.length) (e : ns.getD i [] = ns.getD j []) : i = j := by
  have g1 : ns.getD i [] = ns[i] := by simp [List.getD, hi]
  have g2 : ns.getD j [] = ns[j] := by simp [List.getD, hj]
  rw [g1, g2] at e
  exact (List.getElem_inj hn).1 e
theorem gF_hit {ns : List Name} {nb : Nat → Nat} (hn : ns.Nodup) {k j : Nat} (hk : k ≤ ns.length) (hj : j < k) : gF ns nb k (ns.getD j []) = some (.pointer (some ⟨nb j, 0, none⟩)) := by
  cases h : gF ns nb k (ns.getD j []) with
  | none => exact absurd rfl (gF_none h j hj)
  | some v =>
    obtain ⟨i, h1, h2, rfl⟩ := gF_some h
    rw [nodup_at hn (by omega) (by omega) h2]
theorem zeroNode (w : World) : (zeroValue 189).run Tryz.prog w = .ok (.pointer none) w := by kernel_rfl
/-- the number of words of a text in a slot -/
def deep : Value → Nat
  | .string y => (partsL y.data.toList).length
  | _ => 0

theorem implAbove_c' (s : ByteArray) (w : World) (hs : s.size ≤ maxLen) :
    Calls Tryz.prog 155 #[.string s] w fun e w' => e = .returned (txt (aboveL s.data.toList)) ∧ w = w' :=
  (implAbove_c s w hs).mono fun _ _ h => ⟨h.1, h.2.symm⟩

set_option maxHeartbeats 2000000 in
set_option maxRecDepth 100000 in
theorem implNearest_c (M m : Nat) (ns : List Name) (nb : Nat → Nat) (x : ByteArray) (w : World) (hM : MapP w M m (gF ns nb ns.length)) (h0 : ns[0]? = some []) (hnd : ns.Nodup) (hx : nameOk x.data.toList = true) :
    Calls Tryz.prog 149 #[.map (some M), .string x] w fun e w' => e = .returned (.pointer (some ⟨nb (nearN ns x.data.toList), 0, none⟩)) ∧ w = w' := by
  have HM := hid hM
  have HN := hid (And.intro h0 hnd)
  have HX := hid hx
  clear hM h0 hnd hx
  go_enter Tryz.func149, Tryz.ntmps149
  go_wp2_with fail
  go_loop [1] (fun v => ∃ y : ByteArray, v = .string y ∧ Hid (nameOk y.data.toList = true ∧ nearN ns y.data.toList = nearN ns x.data.toList)) (fun v => deep v)
  case atStart => exact ⟨x, rfl, HX.out, rfl⟩
  case round =>
    obtain ⟨y, rfl, HY⟩ := hrel
    have hys : y.size ≤ maxLen := by have := name_size _ HY.out.1; rw [← Lib.size_eq] at this; unfold maxLen; omega
    have hlook := HM.out.look Tryz.underlying205 (zeroNode w) y hys
    cases hg : gF ns nb ns.length y.data.toList with
    | none =>
      rw [hg] at hlook
      have hlook' : (Instr.lookup 205 (.map (some M)) (.string y) false).run Tryz.prog w = .ok (.pointer none) w := hlook
      have HG := hid (gF_none hg)
      have hne : y.data.toList ≠ [] := by
        intro e
        have hl := (List.getElem?_eq_some_iff.1 HN.out.1).1
        exact HG.out 0 hl ((at_getD HN.out.1).trans e.symm)
      have hmem : y.data.toList ∉ ns := by
        intro hm
        obtain ⟨j, hj, e⟩ := List.getElem_of_mem hm
        exact HG.out j hj (by simp [List.getD, hj, e])
      obtain ⟨ap, hap, hap2⟩ := txt_mk (aboveL y.data.toList)
      have AB := hid (fun W => implAbove_c' y W hys)
      rw [hap] at AB
      have H2 := hid (show nameOk ap.data.toList = true ∧ nearN ns ap.data.toList = nearN ns x.data.toList by
        rw [hap2]; exact ⟨(above_name HY.out.1).1, (near_miss HY.out.1 hmem).trans HY.out.2⟩)
      have H3 := hid (show (partsL ap.data.toList).length < (partsL y.data.toList).length by rw [hap2]; exact above_shorter HY.out.1 hne)
      clear hg hlook hap hap2 hne hmem
      go_wp2_with (go_at_call 155; refine (AB.out _).mono ?_; rintro e w1 ⟨rfl, rfl⟩)
      go_round
      case rel => exact ⟨ap, rfl, H2.out⟩
      case measure => exact H3.out
    | some v =>
      obtain ⟨j, hj, e, rfl⟩ := gF_some hg
      rw [hg] at hlook
      have hlook' : (Instr.lookup 205 (.map (some M)) (.string y) false).run Tryz.prog w = .ok (.pointer (some ⟨nb j, 0, none⟩)) w := hlook
      have HE := hid (show nearN ns x.data.toList = j by rw [← HY.out.2]; exact near_hit HN.out.1 HN.out.2 _ _ (by rw [getD_at hj, e]))
      clear hg hlook e
      go_wp2_with fail
      go_ret
      exact ⟨by rw [HE.out]; rfl, rfl⟩

/-- where the node of logger j hangs -/
def upV (ns : List Name) (nb : Nat → Nat) (j : Nat) (bare : Bool) : Value := if bare || decide (ns.getD j [] = []) then .pointer none else .pointer (some ⟨nb (upN ns j), 0, none⟩)
/-- the nodes of loggers that lie at block b -/
def Nodes (w : World) (b o : Nat) (ns : List Name) (nb : Nat → Nat) (left : Name → Bool) : Prop :=
  ∀ j, j < ns.length → Blk w (nb j) [.pointer (some ⟨b, o + j * 6, none⟩), upV ns nb j (left (ns.getD j []))]
theorem Nodes.below {w w' : World} {B b o : Nat} {ns : List Name} {nb : Nat → Nat} {left : Name → Bool} (h : Nodes w b o ns nb left) (hb : Below B w w') (hB : ∀ j, j < ns.length → nb j < B) : Nodes w' b o ns nb left :=
  fun j hj => (h j hj).below hb (hB j hj)
theorem Nodes.to {w w' : World} {b o : Nat} {ns : List Name} {nb : Nat → Nat} {left : Name → Bool} (h : Nodes w b o ns nb left) (hb : Below w.heap.size w w') : Nodes w' b o ns nb left :=
  fun j hj => (h j hj).to hb
def HangPost (w : World) (b o : Nat) (ns : List Name) (e : Ending) (w' : World) : Prop :=
  ∃ M nb m, e = .returned (.map (some M)) ∧ MapP w' M m (gF ns nb ns.length) ∧ Nodes w' b o ns nb (fun _ => false) ∧ Below w.heap.size w w'
theorem nodes_first {w : World} {b o : Nat} {ns : List Name} {nb : Nat → Nat} (h : ∀ j, j < ns.length → Blk w (nb j) [.pointer (some ⟨b, o + j * 6, none⟩), .pointer none]) {left : Name → Bool} (hl : ∀ j, j < ns.length → left (ns.getD j []) = true) : Nodes w b o ns nb left := by
  intro j hj
  have := h j hj
  unfold upV
  rw [hl j hj]
  exact this

set_option maxHeartbeats 8000000 in
set_option maxRecDepth 100000 in
theorem implHang_c (A1 A2 : Option Addr) (n1 k1 n2 k2 B b o : Nat) (q : Int) (ls : List LgrV) (w : World) (hl : Ls w B n1 (.slice (some ⟨b, o, none⟩) n1 k1) ls) (hB : B ≤ w.heap.size) (hn : n1 ≤ 1048576)
    (h0 : (lnames ls)[0]? = some []) (hnd : (lnames ls).Nodup) (hok : ∀ z ∈ lnames ls, nameOk z = true) :
    Calls Tryz.prog 150 #[.agg #[.slice (some ⟨b, o, none⟩) n1 k1, .slice A2 n2 k2, .int .i64 q]] w (HangPost w b o (lnames ls)) := by
  have hll : (lnames ls).length = n1 := by unfold lnames; rw [List.length_map]; exact hl.count
  have HB0 := hid (show Below w.heap.size w (w.alloc (.cells #[.slice (some ⟨b, o, none⟩) n1 k1, .slice A2 n2 k2, .int .i64 q] 36)) from (Below.refl _ _).alloc (Nat.le_refl _) _)
  have HV := hid (And.intro hl (And.intro hll (And.intro h0 (And.intro hnd hok))))
  have hkc := hl.1.cap
  have hk1 := hkc.2
  have hk0 := hkc.1
  unfold maxLen at hk1
  have hmm := @run_makeMap Tryz.prog
  clear hl hll h0 hnd hok hkc
  go_enter Tryz.func150, Tryz.ntmps150
  go_wp2_with fail
  clear hmm
  go_loopw [4, 5, 12] (fun iv lv cv wr => ∃ (k : Nat) (nb : Nat → Nat) (u4 u5 : Value), cv = .int .i64 k ∧ iv = u4 ∧ lv = u5 ∧ k ≤ n1 ∧ Hid (MapP wr (w.heap.size + 1) k (gF (lnames ls) nb k)) ∧ Hid (∀ j, j < k → Blk wr (nb j) [.pointer (some ⟨b, o + j * 6, none⟩), .pointer none] ∧ w.heap.size + 1 < nb j) ∧
    Hid (∀ i j, i < k → j < k → nb i = nb j → i = j) ∧ Hid (Below w.heap.size w wr ∧ w.heap.size + 1 < wr.heap.size ∧ Blk wr w.heap.size [.slice (some ⟨b, o, none⟩) n1 k1, .slice A2 n2 k2, .int .i64 q])) (fun _ _ cv _ => n1 - (intOf cv).toNat)
  case atStart =>
    refine ⟨0, fun _ => 0, _, _, rfl, rfl, rfl, by omega, ?_, fun j hj => by omega, fun i j hi => by omega, ?_, ?_, ?_⟩
    · have := MapP.made (w.alloc (.cells #[.slice (some ⟨b, o, none⟩) n1 k1, .slice A2 n2 k2, .int .i64 q] 36))
      show MapP _ _ _ _
      simpa [gF] using this
    · exact HB0.out.alloc (by simp) _
    · simp
    · exact (Blk.new _ _ _).alloc _
  case round =>
    obtain ⟨k, nb, u4, u5, rfl, rfl, rfl, hk, HM, HN, HI, HB⟩ := hrel
    by_cases hlt : k < n1
    · obtain ⟨b', o', y, p, e', hbB, hy, hp, hps, _, _, g0, _⟩ := HV.out.1.at_ hlt
      obtain ⟨rfl, rfl⟩ : b = b' ∧ o = o' := by simpa using e'
      have c0 : wr.cell? ⟨b, o + k * 6, none⟩ = some (.string p) := (HB.out.1.cell (p := ⟨b, o + k * 6, none⟩) (by show b < _; omega)).trans g0
      have d0 := (HB.out.2.2.2 0 _ rfl).1
      have d1 := (HB.out.2.2.2 1 _ rfl).1
      have d2 := (HB.out.2.2.2 2 _ rfl).1
      have HP := hid (show (lnames ls).getD k [] = p.data.toList by rw [lnames_at hy, hp])
      have hpl : p.size ≤ maxLen := by unfold maxTxt at hps; unfold maxLen; omega
      have HM2 := hid (HM.out.alloc' (.cells #[.pointer (some ⟨b, o + k * 6, none⟩), .pointer none] 193))
      clear hy hp hps g0 e'
      go_wp2_with (at_mapUpdate; refine wpList_mapP _ HM2.out 205 189 Tryz.underlying205 rfl _ _ _ rfl rfl (by unfold maxLen; omega) p hpl _ rfl rfl ?_)
      intro w1 hM3 hg1
      have hMne : w.heap.size + 1 < wr.heap.size := HB.out.2.1
      have HM4 := hid (hM3.congr (g' := gF (lnames ls) (fun j => if j = k then wr.heap.size else nb j) (k + 1)) (by
        intro l
        simp only [gF, HP.out, if_true]
        rw [gF_congr (nb' := fun j => if j = k then wr.heap.size else nb j) (fun j hj => by rw [if_neg (by omega)])]))
      have HB4 := hid (show Below w.heap.size w w1 ∧ w.heap.size + 1 < w1.heap.size ∧ Blk w1 w.heap.size [.slice (some ⟨b, o, none⟩) n1 k1, .slice A2 n2 k2, .int .i64 q] from
        ⟨(HB.out.1.alloc HB.out.1.size _).grown hg1 (by have := HB.out.1.size; simp; omega) (by intro z hz; cases hz; omega), by have := hg1.size; simp at this; omega, (HB.out.2.2.alloc _).kept hg1 (by simp)⟩)
      have HN4 := hid (show ∀ j, j < k + 1 → Blk w1 (if j = k then wr.heap.size else nb j) [.pointer (some ⟨b, o + j * 6, none⟩), .pointer none] ∧ w.heap.size + 1 < (if j = k then wr.heap.size else nb j) by
        intro j hj
        by_cases e : j = k
        · subst e
          rw [if_pos rfl]
          exact ⟨(Blk.new wr _ _).kept hg1 (by simp; omega), hMne⟩
        · rw [if_neg e]
          obtain ⟨hb1, hb2⟩ := HN.out j (by omega)
          exact ⟨(hb1.alloc _).kept hg1 (by simp; omega), hb2⟩)
      have HI4 := hid (show ∀ i j, i < k + 1 → j < k + 1 → (if i = k then wr.heap.size else nb i) = (if j = k then wr.heap.size else nb j) → i = j by
        intro i j hi hj he
        by_cases e1 : i = k
        · by_cases e2 : j = k
          · omega
          · rw [if_pos e1, if_neg e2] at he
            have := (HN.out j (by omega)).1.1; omega
        · by_cases e2 : j = k
          · rw [if_neg e1, if_pos e2] at he
            have := (HN.out i (by omega)).1.1; omega
          · rw [if_neg e1, if_neg e2] at he
            exact HI.out i j (by omega) (by omega) he)
      clear hM3 hg1 c0 d0 d1 d2 hMne
      go_wp2_with fail
      go_roundw
      case rel => exact ⟨k + 1, _, _, _, by go_num, rfl, rfl, by omega, HM4.out, HN4.out, HI4.out, HB4.out⟩
      case measure => simp [intOf]; omega
    · obtain rfl : k = n1 := by omega
      have d0 := (HB.out.2.2.2 0 _ rfl).1
      have d1 := (HB.out.2.2.2 1 _ rfl).1
      have d2 := (HB.out.2.2.2 2 _ rfl).1
      have HM1 := hid HM.out
      clear d0 d1 d2
      go_wp2_with (at_range; refine wpList_rangeP _ HM1.out 205 189 Tryz.underlying205 rfl _ rfl rfl ?_)
      intro w1 cnt hR hg1 hs1
      have HR1 := hid hR
      have HB1 := hid (HB.out.1.grown hg1 HB.out.1.size (by intro z hz; cases hz))
      have HNd := hid (show Nodes w1 b o (lnames ls) nb (fun l => (gF (lnames ls) nb k l).isSome) from nodes_first (fun j hj => ((HN.out j (by rw [← HV.out.2.1]; exact hj)).1.kept hg1 (by simp))) (fun j hj => by rw [gF_hit HV.out.2.2.2.1 (by rw [HV.out.2.1]; exact Nat.le_refl _) (by rw [← HV.out.2.1]; exact hj)]; rfl))
      have HLT := hid (show ∀ j, j < k → nb j < wr.heap.size ∧ w.heap.size + 1 < nb j from fun j hj => ⟨(HN.out j hj).1.1, (HN.out j hj).2⟩)
      have hsz := HB.out.2.1
      clear hR hg1 hs1
      go_wp2_with fail
      go_loopw [6, 7] (fun nv mv wx => ∃ (cnt : Nat) (left : Name → Bool) (u6 u7 : Value), nv = u6 ∧ mv = u7 ∧ Hid (RangeP wx (w.heap.size + 1) wr.heap.size k (gF (lnames ls) nb k) left cnt) ∧ Hid (Nodes wx b o (lnames ls) nb left) ∧ Hid (Below w.heap.size w wx)) (fun _ _ wx => wx.rangeLeft (w.heap.size + 1) wr.heap.size)
      case atStart => exact ⟨cnt, _, _, _, rfl, rfl, HR1.out, HNd.out, HB1.out⟩
      case round =>
        obtain ⟨cnt, left, u6, u7, rfl, rfl, HR, HNx, HBx⟩ := hrel
        have HRx := hid HR.out
        go_wp2_with (at_next; refine wpList_nextP _ HRx.out rfl _ rfl rfl ?_ ?_)
        · intro hdone
          have HD := hid hdone
          clear hdone
          go_wp2_with fail
          go_ret
          refine ⟨_, nb, k, rfl, by rw [HV.out.2.1]; exact HR.out.map, fun j hj => ?_, HBx.out⟩
          have := HNx.out j hj
          rwa [HD.out] at this
        · intro x v w2 cnt2 hxs hlx hgx hR2 hlt2 hg2 hs2 hen
          obtain ⟨j, hj, hjx, rfl⟩ := gF_some hgx
          have HR2 := hid hR2
          have HB2 := hid (HBx.out.grown hg2 HBx.out.size (by intro z hz; cases hz; omega))
          have HN2 := hid (show ∀ i, i < (lnames ls).length → Blk w2 (nb i) [.pointer (some ⟨b, o + i * 6, none⟩), upV (lnames ls) nb i (left ((lnames ls).getD i []))] from
            fun i hi => (HNx.out i hi).kept hg2 (by have := (HLT.out i (by rw [← HV.out.2.1]; exact hi)).1; simp; omega))
          have HJ := hid hjx
          have HX := hid (And.intro hlx hgx)
          have hj' : j < (lnames ls).length := by rw [HV.out.2.1]; exact hj
          have hnk : nameOk x.data.toList = true := by rw [← hjx]; exact HV.out.2.2.2.2 _ (List.mem_of_getElem? (getD_at hj'))
          have HK := hid hnk
          clear hxs hlx hgx hR2 hg2 hs2 hjx hnk
          by_cases hx0 : x.data.toList = []
          · have e0 := empty_true hx0
            have H0 := hid hx0
            clear hx0
            go_wp2_with fail
            go_roundw
            case rel =>
              refine ⟨cnt2, _, _, _, rfl, rfl, HR2.out, fun i hi => ?_, HB2.out⟩
              have h1 := HN2.out i hi
              by_cases e : (lnames ls).getD i [] = []
              · have e2 : ∀ bb, upV (lnames ls) nb i bb = .pointer none := fun bb => by unfold upV; rw [decide_eq_true e, Bool.or_true]; rfl
                rw [e2] at h1 ⊢; exact h1
              · dsimp only
                rw [H0.out, decide_eq_false e, Bool.not_false, Bool.and_true]; exact h1
            case measure => rw [HR2.out.left_eq, HR.out.left_eq]; exact hlt2
          · have e0 := empty_false hx0
            obtain ⟨ap, hap, hap2⟩ := txt_mk (aboveL x.data.toList)
            have AB := hid (fun W => implAbove_c' x W (by have := name_size _ HK.out; rw [← Lib.size_eq] at this; unfold maxLen; omega))
            rw [hap] at AB
            have NE := hid (implNearest_c (w.heap.size + 1) k (lnames ls) nb ap w2 (by rw [HV.out.2.1]; exact HR2.out.map) HV.out.2.2.1 HV.out.2.2.2.1 (by rw [hap2]; exact (above_name HK.out).1))
            have HU := hid (show nearN (lnames ls) ap.data.toList = upN (lnames ls) j by rw [hap2, ← HJ.out]; rfl)
            have H0 := hid hx0
            have d1 := (HN2.out j hj').2 1 _ rfl
            have d1c := d1.1
            have d1f := d1.2
            have hnlt := HLT.out j hj
            clear hx0 hap hap2 d1
            go_wp2_with (first | (go_at_call 155; refine (AB.out _).mono ?_; rintro e w3 ⟨rfl, rfl⟩) | (go_at_call 149; refine (NE.out).mono ?_; rintro e w3 ⟨rfl, rfl⟩))
            go_roundw
            case rel =>
              refine ⟨cnt2, _, _, _, rfl, rfl, HR2.out.kept (grown_set _ _ _ _) (by simp; omega) (by simp; omega), fun i hi => ?_, HB2.out.setCell (by show _ ≤ nb j; omega) _⟩
              by_cases e : i = j
              · subst e
                have h1 := (HN2.out i hi).set 1 (.pointer (some ⟨nb (nearN (lnames ls) ap.data.toList), 0, none⟩))
                have e2 : upV (lnames ls) nb i (left ((lnames ls).getD i []) && !decide ((lnames ls).getD i [] = x.data.toList)) = .pointer (some ⟨nb (nearN (lnames ls) ap.data.toList), 0, none⟩) := by
                  unfold upV
                  rw [HJ.out, decide_eq_true (rfl : x.data.toList = x.data.toList), Bool.not_true, Bool.and_false, Bool.false_or, decide_eq_false H0.out, HU.out]; rfl
                dsimp only
                rw [e2]; exact h1
              · have h1 := (HN2.out i hi).apart ⟨nb j, 1, none⟩ (.pointer (some ⟨nb (nearN (lnames ls) ap.data.toList), 0, none⟩)) (fun e2 => e (HI.out i j (by rw [← HV.out.2.1]; exact hi) hj e2.symm))
                have e3 : ¬ (lnames ls).getD i [] = x.data.toList := fun e4 => e (nodup_at HV.out.2.2.2.1 hi hj' (e4.trans HJ.out.symm))
                dsimp only
                rw [decide_eq_false e3, Bool.not_false, Bool.and_true]; exact h1
            case measure =>
              have h1 := (HR2.out.kept (grown_set w2 (nb j) 1 (.pointer (some ⟨nb (nearN (lnames ls) ap.data.toList), 0, none⟩))) (by simp; omega) (by simp; omega)).left_eq
              rw [h1, HR.out.left_eq]; exact hlt2
end Go.Proofs.YtlifaeleoiodkaaGreatDoor

/-
  WALKS: the program's looks at a tree: nearestNode and what hangs on it.
-/
namespace Go.Proofs.YtlifaeleoiodkaaGreatDoor
open Go.RowKit Nm
set_option linter.unusedSimpArgs false
set_option linter.unusedVariables false

theorem TreeIn.opened {w : World} {B : Nat} {v : Value} {L : List Lgr} {H : List Hnd} {q : Int} (h : TreeIn w B v L H q) (hok : treeOk L H q = true) :
    ∃ b o n1 k1 A2 n2 k2 ls, v = .agg #[.slice (some ⟨b, o, none⟩) n1 k1, .slice A2 n2 k2, .int .i64 q] ∧ Ls w B n1 (.slice (some ⟨b, o, none⟩) n1 k1) ls ∧ lsOf ls = L ∧ lnames ls = nsOf L ∧ n1 = L.length ∧ n1 ≤ 8 ∧ 1 ≤ n1 ∧ b < B := by
  obtain ⟨A1, n1, k1, A2, n2, k2, rfl⟩ := h.form
  obtain ⟨ls, hl, hL⟩ := h.loggers
  obtain ⟨_, _, _, h8, h1, _⟩ := tree_names hok
  have hn : n1 = L.length := by rw [← hL, ← hl.count]; simp [lsOf]
  obtain ⟨b, o, x, s, rfl, hb, _⟩ := hl.at_ (k := 0) (by omega)
  exact ⟨b, o, n1, k1, A2, n2, k2, ls, rfl, hl, hL, by rw [← hL, ← namesOf_ls]; rfl, hn, by omega, by omega, hb⟩
def NodePost (w : World) (b o : Nat) (ns : List Name) (k : Nat) (e : Ending) (w' : World) : Prop :=
  ∃ nb, e = .returned (.pointer (some ⟨nb k, 0, none⟩)) ∧ Nodes w' b o ns nb (fun _ => false) ∧ Below w.heap.size w w'

set_option maxHeartbeats 2000000 in
set_option maxRecDepth 100000 in
theorem implNode_no {w : World} {B : Nat} {v : Value} {L : List Lgr} {H : List Hnd} {q : Int} (x : ByteArray) (h : TreeIn w B v L H q) (hB : B ≤ w.heap.size) (hx : x.size ≤ maxLen) (hno : (treeOk L H q && nameOk x.data.toList) = false) :
    Calls Tryz.prog 140 #[v, .string x] w (fun e w' => e = .returned (.pointer none) ∧ Below w.heap.size w w') := by
  have C := hid (fun (W : World) (hW : Below w.heap.size w W) => implValidTreeX_c (h.below hW hB) (Nat.le_trans hB hW.size))
  have V := hid (fun (W : World) => implValidName_c x W hx)
  obtain ⟨A1, n1, k1, A2, n2, k2, rfl⟩ := h.form
  clear h
  cases hz : treeOk L H q with
  | false =>
    rw [hz] at C
    clear hno hz
    go_enter Tryz.func140, Tryz.ntmps140
    go_wp2_with fail
    refine (C.out _ ?_).mono ?_
    case refine_1 => go_grown
    rintro e w1 ⟨rfl, hb1⟩
    have HB1 := hid (Below.trans (by go_grown) (hb1.mono (by simp; try omega)) : Below w.heap.size w w1)
    clear hb1
    go_wp2_with fail
    go_ret
    exact ⟨rfl, HB1.out⟩
  | true =>
    rw [hz] at C hno
    rw [Bool.true_and] at hno
    rw [hno] at V
    clear hno hz
    go_enter Tryz.func140, Tryz.ntmps140
    go_wp2_with fail
    refine (C.out _ ?_).mono ?_
    case refine_1 => go_grown
    rintro e w1 ⟨rfl, hb1⟩
    have HB1 := hid (Below.trans (by go_grown) (hb1.mono (by simp; try omega)) : Below w.heap.size w w1)
    clear hb1
    go_wp2_with fail
    refine (V.out _).mono ?_
    rintro e w2 ⟨rfl, hb2⟩
    have HB2 := hid (HB1.out.trans (hb2.mono HB1.out.size))
    clear hb2
    go_wp2_with fail
    go_ret
    exact ⟨rfl, HB2.out⟩

set_option maxHeartbeats 2000000 in
set_option maxRecDepth 100000 in
theorem implNode_yes {w : World} {B b o n1 k1 n2 k2 : Nat} {A2 : Option Addr} {L : List Lgr} {H : List Hnd} {q : Int} {ls : List LgrV} (x : ByteArray) (h : TreeIn w B (.agg #[.slice (some ⟨b, o, none⟩) n1 k1, .slice A2 n2 k2, .int .i64 q]) L H q)
    (hl : Ls w B n1 (.slice (some ⟨b, o, none⟩) n1 k1) ls) (hn : n1 ≤ 8) (hL : lnames ls = nsOf L) (hB : B ≤ w.heap.size) (hx : nameOk x.data.toList = true) (hok : treeOk L H q = true) :
    Calls Tryz.prog 140 #[.agg #[.slice (some ⟨b, o, none⟩) n1 k1, .slice A2 n2 k2, .int .i64 q], .string x] w (NodePost w b o (nsOf L) (nearN (nsOf L) x.data.toList)) := by
  have hxs : x.size ≤ maxLen := by have := name_size _ hx; rw [← Lib.size_eq] at this; unfold maxLen; omega
  obtain ⟨h0, hnd, hnm, _⟩ := tree_ns hok
  have C := hid (fun (W : World) (hW : Below w.heap.size w W) => implValidTreeX_c (h.below hW hB) (Nat.le_trans hB hW.size))
  have V := hid (fun (W : World) => implValidName_c x W hxs)
  have G := hid (fun (W : World) (hW : Below w.heap.size w W) => implHang_c none A2 n1 k1 n2 k2 B b o q ls W (hl.below hW hB) (Nat.le_trans hB hW.size) (by omega) (by rw [hL]; exact h0) (by rw [hL]; exact hnd) (by rw [hL]; exact hnm))
  have N := hid (fun (M m : Nat) (nb : Nat → Nat) (W : World) (hM : MapP W M m (gF (nsOf L) nb (nsOf L).length)) => implNearest_c M m (nsOf L) nb x W hM h0 hnd hx)
  rw [hL] at G
  rw [hx] at V
  rw [hok] at C
  clear h hl h0 hnd hnm hx hok hL
  go_enter Tryz.func140, Tryz.ntmps140
  go_wp2_with fail
  refine (C.out _ ?_).mono ?_
  case refine_1 => go_grown
  rintro e w1 ⟨rfl, hb1⟩
  have K1 := (Blk.new _ _ _).to hb1
  simp only [World.size_alloc] at K1
  have HK1 := hid K1
  have d0 := (HK1.out.2 0 _ rfl).1
  have d1 := (HK1.out.2 1 _ rfl).1
  have d2 := (HK1.out.2 2 _ rfl).1
  have HB1 := hid (Below.trans (by go_grown) (hb1.mono (by simp; try omega)) : Below w.heap.size w w1)
  clear hb1 K1
  go_wp2_with fail
  refine (V.out _).mono ?_
  rintro e w2 ⟨rfl, hb2⟩
  have HB2 := hid (HB1.out.trans (hb2.mono HB1.out.size))
  have HK2 := hid (HK1.out.to hb2)
  clear hb2 d0 d1 d2
  have d0 := (HK2.out.2 0 _ rfl).1
  have d1 := (HK2.out.2 1 _ rfl).1
  have d2 := (HK2.out.2 2 _ rfl).1
  go_wp2_with fail
  refine (G.out _ HB2.out).mono ?_
  rintro e w3 ⟨M, nb, m, rfl, hM, hN, hb3⟩
  have HB3 := hid (HB2.out.trans (hb3.mono HB2.out.size))
  have HN := hid hN
  have NE := hid (N.out M m nb w3 hM)
  clear hb3 d0 d1 d2 hN hM
  go_wp2_with fail
  refine (NE.out).mono ?_
  rintro e w4 ⟨rfl, rfl⟩
  go_wp2_with fail
  go_ret
  exact ⟨nb, rfl, HN.out, HB3.out⟩

end Go.Proofs.YtlifaeleoiodkaaGreatDoor

/-
  WALKS: the program's looks at a tree: PathOf, ParentOf, ChildrenOf, BranchOf.
-/
namespace Go.Proofs.YtlifaeleoiodkaaGreatDoor
open Go.RowKit Nm
set_option linter.unusedSimpArgs false
set_option linter.unusedVariables false

def hsAt (L : List Lgr) (k : Nat) : List Name := (L.map (·.hs)).getD k []
def fsAt (L : List Lgr) (k : Nat) : List Flt := (L.map (·.fs)).getD k []
def stopAt (L : List Lgr) (k : Nat) : Bool := (L.map (·.stop)).getD k false
/-- logger k of a valid tree: its cells -/
theorem logger_at {w : World} {B b o n1 k1 : Nat} {ls : List LgrV} {L : List Lgr} (hl : Ls w B n1 (.slice (some ⟨b, o, none⟩) n1 k1) ls) (hL : lsOf ls = L) {k : Nat} (hk : k < n1) :
    ∃ (p : ByteArray) (A3 : Option Addr) (hn k3 : Nat) (A4 : Option Addr) (fn k4 : Nat), p.data.toList = (nsOf L).getD k [] ∧ p.size ≤ maxTxt ∧ Txts w B hn (.slice A3 hn k3) (hsAt L k) ∧ Fs w B fn (.slice A4 fn k4) (fsAt L k) ∧
      w.cell? ⟨b, o + k * 6, none⟩ = some (.string p) ∧ w.cell? ⟨b, o + k * 6 + 1, none⟩ = some (.int .i64 (lvAt L k)) ∧ w.cell? ⟨b, o + k * 6 + 2, none⟩ = some (.slice A3 hn k3) ∧ w.cell? ⟨b, o + k * 6 + 3, none⟩ = some (.slice A4 fn k4) ∧
      w.cell? ⟨b, o + k * 6 + 4, none⟩ = some (.bool (stopAt L k)) ∧ w.cell? ⟨b, o + k * 6 + 5, none⟩ = some (.bool (offAt L k)) := by
  obtain ⟨b', o', y, p, e', hbB, hy, hp, hps, ht, hf, c0, c1, c2, c3, c4, c5⟩ := hl.at_ hk
  obtain ⟨rfl, rfl⟩ : b = b' ∧ o = o' := by simpa using e'
  subst hL
  have e1 : (lsOf ls)[k]? = some y.l := by simp [lsOf, hy]
  have g : ∀ {α : Type} (f : Lgr → α) (d : α), ((lsOf ls).map f).getD k d = f y.l := fun f d => by simp [List.getD, e1]
  obtain ⟨A3, k3, e3, _, _⟩ := ht.1.form
  obtain ⟨A4, k4, e4, _, _⟩ := hf.1.form
  rw [e3] at ht c2
  rw [e4] at hf c3
  refine ⟨p, A3, y.hn, k3, A4, y.fn, k4, hp.trans (g (·.nm) []).symm, hps, ?_, ?_, c0, ?_, c2, c3, ?_, ?_⟩
  · rw [hsAt, g (·.hs) []]; exact ht
  · rw [fsAt, g (·.fs) []]; exact hf
  · rw [lvAt, g (·.lv) 0]; exact c1
  · rw [stopAt, g (·.stop) false]; exact c4
  · rw [offAt, g (·.off) false]; exact c5
/-- node k: its two cells -/
theorem node_at {w : World} {b o : Nat} {ns : List Name} {nb : Nat → Nat} (h : Nodes w b o ns nb (fun _ => false)) {k : Nat} (hk : k < ns.length) :
    w.cell? ⟨nb k, 0, none⟩ = some (.pointer (some ⟨b, o + k * 6, none⟩)) ∧ (ns.getD k [] = [] → w.cell? ⟨nb k, 1, none⟩ = some (.pointer none)) ∧ (ns.getD k [] ≠ [] → w.cell? ⟨nb k, 1, none⟩ = some (.pointer (some ⟨nb (upN ns k), 0, none⟩))) ∧ nb k < w.heap.size := by
  have h0 := h k hk
  refine ⟨(h0.2 0 _ rfl).1, fun e => ?_, fun e => ?_, h0.1⟩
  · have := (h0.2 1 _ rfl).1
    unfold upV at this
    rw [decide_eq_true e] at this
    exact this
  · have := (h0.2 1 _ rfl).1
    unfold upV at this
    rw [decide_eq_false e] at this
    exact this
/-- what is left of a path -/
def remF (ns : List Name) (f : Nat) : Option Nat → List Name
  | none => []
  | some k => (pathF ns f k).map (fun i => ns.getD i [])
def nodePtr (nb : Nat → Nat) (ov : Option Nat) : Value := .pointer (ov.map fun k => ⟨nb k, 0, none⟩)

end Go.Proofs.YtlifaeleoiodkaaGreatDoor

/-
  WALKS: the program's ParentOf, ChildrenOf, BranchOf.
-/
namespace Go.Proofs.YtlifaeleoiodkaaGreatDoor
open Go.RowKit Nm
set_option linter.unusedSimpArgs false
set_option linter.unusedVariables false

theorem ne_true_of {a b : ByteArray} (h : ¬ a.data.toList = b.data.toList) : (a.toList != b.toList) = true := by rw [bne, eq_false_of h]; rfl
theorem ne_false_of {a b : ByteArray} (h : a.data.toList = b.data.toList) : (a.toList != b.toList) = false := by rw [bne, eq_true_of h]; rfl
theorem parentB_no {L : List Lgr} {H : List Hnd} {q : Int} {x : Name} (h : (treeOk L H q && nameOk x) = false) : parentB L H q x = false := by
  cases h1 : treeOk L H q with
  | false => unfold parentB; rw [h1]; rfl
  | true =>
    rw [h1, Bool.true_and] at h
    have : x ∉ nsOf L := fun hm => by have := (tree_ns h1).2.2.1 x hm; rw [h] at this; cases this
    unfold parentB
    rw [decide_eq_false this, Bool.and_false, Bool.and_false]

end Go.Proofs.YtlifaeleoiodkaaGreatDoor

/-
  WALKS: the program's ChildrenOf, level, EffectiveLevel, IsEnabled.
-/
namespace Go.Proofs.YtlifaeleoiodkaaGreatDoor
open Go.RowKit Nm
set_option linter.unusedSimpArgs false
set_option linter.unusedVariables false

theorem levelF_stop {ns : List Name} {lv : Nat → Int} {f k : Nat} (h : lv k ≠ 0 ∨ ns.getD k [] = []) : levelF ns lv f k = lv k := by
  cases f with
  | zero => rfl
  | succ f => rw [levelF, if_pos h]
theorem levelF_up {ns : List Name} {lv : Nat → Int} {f k : Nat} (h1 : lv k = 0) (h2 : ns.getD k [] ≠ []) : levelF ns lv (f + 1) k = levelF ns lv f (upN ns k) := by
  rw [levelF, if_neg]
  rintro (h | h)
  · exact h h1
  · exact h2 h

set_option maxHeartbeats 4000000 in
set_option maxRecDepth 100000 in
theorem implLevel_c {w : World} {B b o n1 k1 : Nat} {L : List Lgr} {ls : List LgrV} {nb : Nat → Nat} (k0 f0 : Nat) (hl : Ls w B n1 (.slice (some ⟨b, o, none⟩) n1 k1) ls) (hL : lsOf ls = L) (hlen : (nsOf L).length = n1) (h0 : (nsOf L)[0]? = some []) (hnm : ∀ z ∈ nsOf L, nameOk z = true)
    (hNd : Nodes w b o (nsOf L) nb (fun _ => false)) (hk0 : k0 < n1) (hd0 : depthN (nsOf L) k0 ≤ f0) :
    Calls Tryz.prog 147 #[.pointer (some ⟨nb k0, 0, none⟩)] w (fun e w' => e = .returned (.int .i64 (levelF (nsOf L) (lvAt L) f0 k0)) ∧ w = w') := by
  have HV := hid (And.intro hl (And.intro hL (And.intro hlen (And.intro h0 (And.intro hnm hNd)))))
  clear hl hL hlen h0 hnm hNd
  go_enter Tryz.func147, Tryz.ntmps147
  go_wp2_with fail
  go_loopg [0] (f0 + 1) (fun g nv wr => ∃ (k f : Nat), nv = .pointer (some ⟨nb k, 0, none⟩) ∧ k < n1 ∧ depthN (nsOf L) k ≤ f ∧ f + 1 = g ∧ Hid (levelF (nsOf L) (lvAt L) f k = levelF (nsOf L) (lvAt L) f0 k0) ∧ wr = w)
  case atStart => exact ⟨k0, f0, rfl, hk0, hd0, rfl, rfl, rfl⟩
  case round =>
    obtain ⟨k, f, rfl, hk, hd, rfl, HE, rfl⟩ := hrel
    obtain ⟨p, A3, hn', k3, A4, fn, k4, hp, hps, _, _, c0, c1, _⟩ := logger_at HV.out.1 HV.out.2.1 hk
    obtain ⟨m0, m1, m2, mlt⟩ := node_at HV.out.2.2.2.2.2 (k := k) (by rw [HV.out.2.2.1]; exact hk)
    have HM12 := hid (And.intro m1 m2)
    clear hp hps m1 m2 mlt
    by_cases hz : lvAt L k = 0
    · have e1 : (lvAt L k == 0) = true := by rw [hz]; rfl
      by_cases hr : (nsOf L).getD k [] = []
      · have m1 := HM12.out.1 hr
        have HF := hid (show levelF (nsOf L) (lvAt L) f0 k0 = lvAt L k by rw [← HE.out, levelF_stop (.inr hr)])
        clear hr hz
        go_wp2_with fail
        go_ret
        exact ⟨by rw [HF.out]; rfl, rfl⟩
      · have m2 := HM12.out.2 hr
        obtain ⟨g, rfl, _⟩ := pathF_up (ns := nsOf L) (f := f) (k := k) hr hd
        have HF := hid (show levelF (nsOf L) (lvAt L) g (upN (nsOf L) k) = levelF (nsOf L) (lvAt L) f0 k0 by rw [← HE.out, levelF_up hz hr])
        have HU := hid (show upN (nsOf L) k < n1 ∧ depthN (nsOf L) (upN (nsOf L) k) ≤ g by
          refine ⟨by rw [← HV.out.2.2.1]; exact near_lt HV.out.2.2.2.1 _, ?_⟩
          have := depth_up HV.out.2.2.2.1 HV.out.2.2.2.2.1 (k := k) (by rw [HV.out.2.2.1]; exact hk) hr
          omega)
        clear hr hz
        go_wp2_with fail
        go_roundg (g + 1)
        case measure => omega
        case rel => exact ⟨_, g, rfl, HU.out.1, HU.out.2, rfl, HF.out, rfl⟩
    · have e1 : (lvAt L k == 0) = false := by simpa using hz
      have HF := hid (show levelF (nsOf L) (lvAt L) f0 k0 = lvAt L k by rw [← HE.out, levelF_stop (.inl hz)])
      clear hz
      go_wp2_with fail
      go_ret
      exact ⟨by rw [HF.out]; rfl, rfl⟩

set_option maxHeartbeats 4000000 in
set_option maxRecDepth 100000 in
theorem implEffectiveLevel_c {w : World} {B : Nat} {v : Value} {L : List Lgr} {H : List Hnd} {q : Int} (x : ByteArray) (h : TreeIn w B v L H q) (hB : B ≤ w.heap.size) (hx : x.size ≤ maxLen) :
    Calls Tryz.prog 138 #[v, .string x] w (fun e w' => e = .returned (.int .i64 (levelT L H q x.data.toList)) ∧ Below w.heap.size w w') := by
  cases hz : (treeOk L H q && nameOk x.data.toList) with
  | false =>
    have C := hid (fun (W : World) (hW : Below w.heap.size w W) => implNode_no x (h.below hW hB) (Nat.le_trans hB hW.size) hx hz)
    have HE := hid (show levelT L H q x.data.toList = -1 by unfold levelT; rw [hz]; rfl)
    obtain ⟨A1, n1, k1, A2, n2, k2, rfl⟩ := h.form
    clear h hz
    go_enter Tryz.func138, Tryz.ntmps138
    go_wp2_with fail
    refine (C.out _ ?_).mono ?_
    case refine_1 => go_grown
    rintro e w1 ⟨rfl, hb1⟩
    have HB1 := hid (Below.trans (by go_grown) (hb1.mono (by simp; try omega)) : Below w.heap.size w w1)
    clear hb1
    go_wp2_with fail
    go_ret
    exact ⟨by rw [HE.out]; rfl, HB1.out⟩
  | true =>
    have hz' := hz
    simp only [Bool.and_eq_true] at hz'
    obtain ⟨b, o, n1, k1, A2, n2, k2, ls, rfl, hl, hL, hN, hn, hn8, hn1, hbB⟩ := h.opened hz'.1
    have C := hid (fun (W : World) (hW : Below w.heap.size w W) => implNode_yes x (h.below hW hB) (hl.below hW hB) hn8 hN (Nat.le_trans hB hW.size) hz'.2 hz'.1)
    obtain ⟨h0, hnd, hnm, hlen, _⟩ := tree_ns hz'.1
    rw [← hn] at hlen
    have HE := hid (show levelT L H q x.data.toList = levelF (nsOf L) (lvAt L) 4 (nearN (nsOf L) x.data.toList) by unfold levelT; rw [hz]; rfl)
    have LV := hid (fun (nb : Nat → Nat) (W : World) (hW : Below w.heap.size w W) (hNd : Nodes W b o (nsOf L) nb (fun _ => false)) => implLevel_c (nearN (nsOf L) x.data.toList) 4 (hl.below hW hB) hL hlen h0 hnm hNd (by rw [← hlen]; exact near_lt h0 _) (depth_le hnm _))
    clear h hz hz' hl hN h0 hnd hnm hn hlen hL
    go_enter Tryz.func138, Tryz.ntmps138
    go_wp2_with fail
    refine (C.out _ ?_).mono ?_
    case refine_1 => go_grown
    rintro e w1 ⟨nb, rfl, hNd, hb1⟩
    have HB1 := hid (Below.trans (by go_grown) (hb1.mono (by simp; try omega)) : Below w.heap.size w w1)
    have LE := hid (LV.out nb w1 HB1.out hNd)
    clear hb1 hNd
    go_wp2_with fail
    refine (LE.out).mono ?_
    rintro e w2 ⟨rfl, rfl⟩
    go_wp2_with fail
    go_ret
    exact ⟨by rw [HE.out]; rfl, HB1.out⟩

end Go.Proofs.YtlifaeleoiodkaaGreatDoor
