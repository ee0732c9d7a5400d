/-
  TREES changed: the program's AddLogger.
-/
import Derived.Test.YtpfnjkmkenaipaaC10
namespace Go.Proofs.Ytpfnjkmkenaipaa
open Go.RowKit Nm
set_option linter.unusedSimpArgs false
set_option linter.unusedVariables false

set_option maxHeartbeats 8000000 in
set_option maxRecDepth 100000 in
theorem addClo_c {w : World} {B n1 k1 n2 k2 bt bn : Nat} {A1 A2 : Option Addr} {L : List Lgr} {H : List Hnd} {q : Int} (s : ByteArray) (hz : s.size ≤ maxTxt) (h : TreeIn w B (.agg #[.slice A1 n1 k1, .slice A2 n2 k2, .int .i64 q]) L H q) (hB : B ≤ w.heap.size) (hok : treeOk L H q = true)
    (hbt : Blk w bt [.slice A1 n1 k1, .slice A2 n2 k2, .int .i64 q]) (hbn : w.cell? ⟨bn, 0, none⟩ = some (.string s)) (W : World) (lo bc : Nat) (v1 v2 : Value) (rs : List Row) (hp : CloPre w lo bc W v1 v2 rs L H q) :
    Calls Try.prog 71 #[.pointer (some ⟨bc, 0, none⟩), .pointer (some ⟨bt, 0, none⟩), .pointer (some ⟨bn, 0, none⟩)] W (CloPost lo bc W (some (addT L s.data.toList, H, q))) := by
  obtain ⟨hb, hlo, hbc, hkb, hs, hr, hap, hd⟩ := hp
  obtain ⟨_, _, _, h8, _, _⟩ := tree_names hok
  have hd2 := hid (add_fit s hd h8 hz)
  have hbnw : bn < w.heap.size := World.block_lt_of_cell? w _ hbn
  have C := implLoggerAtX_c s (h.below hb hB) (Nat.le_trans hB hb.size)
  rw [if_pos hok] at C
  obtain ⟨u1, u2, ls, hs', e, h1, h2, h3⟩ := hs
  have e' : v1 = u1 ∧ v2 = u2 := by simpa using e
  obtain ⟨rfl, rfl⟩ := e'
  subst h3
  have hll : ls.length ≤ 8 := by rw [← h1] at h8; simpa [lsOf] using h8
  obtain ⟨hl, hh⟩ := hr.lsIn
  obtain ⟨A, c, rfl, hnc, hcm⟩ := hl.1.form
  obtain ⟨A4, c4, rfl, _, _⟩ := hh.1.form
  have hloW : lo ≤ W.heap.size := by have := hkb.1; omega
  have kt := hbt.to (hb : Below w.heap.size w W)
  have t0 := (kt.2 0 _ rfl).1
  have t1 := (kt.2 1 _ rfl).1
  have t2 := (kt.2 2 _ rfl).1
  have tn := (hb.cell (p := ⟨bn, 0, none⟩) hbnw).trans hbn
  have hbnW : bn < W.heap.size := by have := hb.size; omega
  have HNE := hid (show bc ≠ bn by omega)
  have HR := hid hr
  have HAP := hid hap
  have HKB := hid hkb
  have HLH := hid (And.intro h1 h2)
  generalize hN : ls.length = n at *
  have HNn := hid hN
  clear hl hh kt h hbt hbn hok e hd h1 h2 hr hap hkb hN hb
  by_cases hneg : idxL (namesOf L) s.data.toList < 0
  · have HT := hid (show addT L s.data.toList = L ++ [mkL s.data.toList] by unfold addT; rw [if_pos hneg])
    generalize idxL (namesOf L) s.data.toList = z at C hneg
    replace C := hid C
    go_enter Try.func71, Try.ntmps71
    go_wp2_with fail
    refine (C.out).mono ?_
    rintro e w1 ⟨rfl, hb1⟩
    have n1' := (hb1.cell (p := ⟨bn, 0, none⟩) hbnW).trans tn
    have hK1 := HKB.out.to hb1
    have hbn1 : bn < w1.heap.size := by have := hb1.size; omega
    have hRd : Rows w1.drew lo (treeRows ls.length (.slice A n c) ls hs'.length (.slice A4 hs'.length c4) hs') := by have := (HR.out.below hb1).below ((Below.refl _ _).drew); rw [HNn.out]; exact this
    have hlo1 : lo ≤ w1.drew.heap.size := Nat.le_trans hloW hb1.size
    obtain ⟨A5, c5, w4, hrun, ho4, hg4, hloc⟩ := run_addL w1.drew HNn.out.symm hRd hll s hlo1
    obtain ⟨hR4, hoff⟩ := tree_app HNn.out.symm hRd s ho4 hg4 hloc hlo1
    have hlo4 : ∀ z, (Value.slice A n c).ownBlock = some z → lo ≤ z := fun z hz => ((hRd.1 ⟨47, 6, ls.length, .slice A n c, ls.flatMap lcells⟩ (by rw [treeRows_eq]; simp [two])).lt z hz).1
    have hne : some bc ≠ (Value.slice A n c).ownBlock := fun e => HAP.out ⟨47, 6, n, .slice A n c, ls.flatMap lcells⟩ (by rw [treeRows_eq]; simp [two]) e.symm
    have hnen : some bn ≠ (Value.slice A n c).ownBlock := fun e => by have := hlo4 bn e.symm; omega
    have hK4 := hid ((hK1.dr 1).kept hg4 hne)
    have hbc1 : bc < w1.heap.size := hK1.1
    have hR5 := hid (hR4.off (j := 0) (u := .slice A5 (n + 1) c5) (hoff bc (by rw [HNn.out]; exact HAP.out) (by show bc ≤ w1.heap.size; omega)))
    have hB4 := hid (show Below lo W w4 from ((hb1.mono hloW).drew).grown hg4 hlo1 hlo4)
    have o1 := (hK1.2 0 _ rfl).1
    have o9 : w1.drew.cell? ⟨bc, 0, none⟩ = some (.slice A n c) := ((hK1.dr 1).2 0 _ rfl).1
    have oa : (w1.drew.alloc (.cells #[.string s, .int .i64 0, .slice none 0 0, .slice none 0 0, .bool false, .bool false] 47)).cell? ⟨bc, 0, none⟩ = some (.slice A n c) := (World.cell?_alloc_past _ _ _ (show bc < w1.drew.heap.size from hbc1)).trans o9
    have hSa : (w1.drew.alloc (.cells #[.string s, .int .i64 0, .slice none 0 0, .slice none 0 0, .bool false, .bool false] 47)).cell? ⟨bn, 0, none⟩ = some (.string s) := (World.cell?_alloc_past _ _ _ (show bn < w1.drew.heap.size from hbn1)).trans n1'
    have h4s : bn < w4.heap.size := Nat.lt_of_lt_of_le hbn1 hg4.size
    have S4 : w4.cell? ⟨bn, 0, none⟩ = some (.string s) := (World.cell?_of_block (hg4.block bn hbn1 hnen)).trans n1'
    have o4 := (hK4.out.2 0 _ rfl).1
    have o4f := (hK4.out.2 0 _ rfl).2
    have HRun := hid hrun
    clear hrun hb1 hK1 hRd ho4 hg4 hloc hR4 hoff hne hnen hlo4 C
    go_wp2_with fail
    refine wp_region_held_drew (S := (fun w' : World => w'.cell? ⟨bn, 0, none⟩ = some (.string s) ∧ bn < w'.heap.size)) (by kernel_rfl) ⟨n1', hbn1⟩ (fun hS => ?_)
    refine wpAnyH_take (i := 0) (oi := ?oi101) (v := ?v101) ?hi101 (by kernel_rfl) ?hf101 ?hr101 ?hQ101 (Or.inl ⟨?hw101, ?hy101⟩) (by assumption) ?rest101
    case hi101 => simp only [List.getElem?_toArray, List.getElem?_cons_succ, List.getElem?_cons_zero]; rfl
    case hf101 => kernel_rfl
    case hr101 => kernel_rfl
    case hw101 => rfl
    case hy101 => (intro w hSw; (try dsimp only at hSw); go_simp; all_goals (first | done | with_reducible rfl))
    case hQ101 => exact fun _ _ _ h => h
    simp only [Act.put, List.setIfInBounds_toArray, List.set_cons_zero, List.set_cons_succ]
    refine wpAnyH_take (i := 1) (oi := ?oi102) (v := ?v102) ?hi102 (by kernel_rfl) ?hf102 ?hr102 ?hQ102 (Or.inl ⟨?hw102, ?hy102⟩) (by assumption) ?rest102
    case hi102 => simp only [List.getElem?_toArray, List.getElem?_cons_succ, List.getElem?_cons_zero]; rfl
    case hf102 => kernel_rfl
    case hr102 => kernel_rfl
    case hw102 => rfl
    case hy102 => (intro w hSw; (try dsimp only at hSw); go_simp; all_goals (first | done | with_reducible rfl))
    case hQ102 => exact fun _ _ _ h => h
    simp only [Act.put, List.setIfInBounds_toArray, List.set_cons_zero, List.set_cons_succ]
    refine wpAnyH_take (i := 2) (oi := ?oi103) (v := ?v103) ?hi103 (by kernel_rfl) ?hf103 ?hr103 ?hQ103 (Or.inl ⟨?hw103, ?hy103⟩) (by assumption) ?rest103
    case hi103 => simp only [List.getElem?_toArray, List.getElem?_cons_succ, List.getElem?_cons_zero]; rfl
    case hf103 => kernel_rfl
    case hr103 => kernel_rfl
    case hw103 => rfl
    case hy103 => (intro w hSw; (try dsimp only at hSw); go_simp; all_goals (first | done | with_reducible rfl))
    case hQ103 => exact fun _ _ _ h => h
    simp only [Act.put, List.setIfInBounds_toArray, List.set_cons_zero, List.set_cons_succ]
    refine wpAnyH_take (i := 3) (oi := ?oi104) (v := ?v104) ?hi104 (by kernel_rfl) ?hf104 ?hr104 ?hQ104 (Or.inl ⟨?hw104, ?hy104⟩) (by assumption) ?rest104
    case hi104 => simp only [List.getElem?_toArray, List.getElem?_cons_succ, List.getElem?_cons_zero]; rfl
    case hf104 => kernel_rfl
    case hr104 => kernel_rfl
    case hw104 => rfl
    case hy104 => (intro w hSw; (try dsimp only at hSw); go_simp; all_goals (first | done | with_reducible rfl))
    case hQ104 => exact fun _ _ _ h => h
    simp only [Act.put, List.setIfInBounds_toArray, List.set_cons_zero, List.set_cons_succ]
    refine wpAnyH_take (i := 5) (oi := ?oi105) (v := ?v105) ?hi105 (by kernel_rfl) ?hf105 ?hr105 ?hQ105 (Or.inl ⟨?hw105, ?hy105⟩) (by assumption) ?rest105
    case hi105 => simp only [List.getElem?_toArray, List.getElem?_cons_succ, List.getElem?_cons_zero]; rfl
    case hf105 => kernel_rfl
    case hr105 => kernel_rfl
    case hw105 => rfl
    case hy105 => (intro w hSw; (try dsimp only at hSw); go_simp; all_goals (first | done | with_reducible rfl))
    case hQ105 => exact fun _ _ _ h => h
    simp only [Act.put, List.setIfInBounds_toArray, List.set_cons_zero, List.set_cons_succ]
    refine wpAnyH_take (i := 6) (oi := ?oi106) (v := ?v106) ?hi106 (by kernel_rfl) ?hf106 ?hr106 ?hQ106 (Or.inl ⟨?hw106, ?hy106⟩) (by assumption) ?rest106
    case hi106 => simp only [List.getElem?_toArray, List.getElem?_cons_succ, List.getElem?_cons_zero]; rfl
    case hf106 => kernel_rfl
    case hr106 => kernel_rfl
    case hw106 => rfl
    case hy106 => (intro w hSw; (try dsimp only at hSw); go_simp; all_goals (first | done | with_reducible rfl))
    case hQ106 => exact fun _ _ _ h => h
    simp only [Act.put, List.setIfInBounds_toArray, List.set_cons_zero, List.set_cons_succ]
    refine wpAnyH_ready (rs := [4, 7]) (by kernel_rfl) (by simp) ?_
    refine AllReadyH.cons (o := ?oi107) ?hi107 (fun K hK => ?stepA107) (AllReadyH.cons (o := ?oj107) ?hj107 (fun K hK => ?stepB107) AllReadyH.nil)
    case hi107 => simp only [List.getElem?_toArray, List.getElem?_cons_succ, List.getElem?_cons_zero]; rfl
    case hj107 => simp only [List.getElem?_toArray, List.getElem?_cons_succ, List.getElem?_cons_zero]; rfl
    all_goals rw [if_pos (by rfl)]
    all_goals go_simp
    · refine hK.out _ _ hS (fun _ => ?_)
      refine wpAnyH_ready (rs := [7]) (by kernel_rfl) (by simp) ?_
      refine AllReadyH.cons (o := ?oi108) ?hi108 (fun K hK => ?step108) AllReadyH.nil
      case hi108 => simp only [List.getElem?_toArray, List.getElem?_cons_succ, List.getElem?_cons_zero]; rfl
      rw [if_pos (by rfl)]
      go_simp
      refine hK.out _ _ ⟨hSa, by simp; omega⟩ (fun _ => ?_)
      refine wpAnyH_ready (rs := [8]) (by kernel_rfl) (by simp) ?_
      refine AllReadyH.cons (o := ?oi109) ?hi109 (fun K hK => ?step109) AllReadyH.nil
      case hi109 => simp only [List.getElem?_toArray, List.getElem?_cons_succ, List.getElem?_cons_zero]; rfl
      rw [if_pos (by rfl)]
      refine wp_app rfl (by rfl) (by rfl) HRun.out ?_
      refine hK.out _ _ ⟨S4, h4s⟩ (fun _ => ?_)
      simp only [Act.put, List.setIfInBounds_toArray, List.set_cons_zero, List.set_cons_succ]
      refine wpAnyH_take (i := 9) (oi := ?oi110) (v := ?v110) ?hi110 (by kernel_rfl) ?hf110 ?hr110 ?hQ110 (Or.inl ⟨?hw110, ?hy110⟩) (by assumption) ?rest110
      case hi110 => simp only [List.getElem?_toArray, List.getElem?_cons_succ, List.getElem?_cons_zero]; rfl
      case hf110 => kernel_rfl
      case hr110 => kernel_rfl
      case hw110 => rfl
      case hy110 => (intro w hSw; (try dsimp only at hSw); go_simp; all_goals (first | done | with_reducible rfl))
      case hQ110 => exact fun _ _ _ h => h
      simp only [Act.put, List.setIfInBounds_toArray, List.set_cons_zero, List.set_cons_succ]
      refine wpAnyH_take (i := 10) (oi := ?oi111) (v := ?v111) ?hi111 (by kernel_rfl) ?hf111 ?hr111 ?hQ111 (Or.inl ⟨?hw111, ?hy111⟩) (by assumption) ?rest111
      case hi111 => simp only [List.getElem?_toArray, List.getElem?_cons_succ, List.getElem?_cons_zero]; rfl
      case hf111 => kernel_rfl
      case hr111 => kernel_rfl
      case hw111 => rfl
      case hy111 => (intro w hSw; (try dsimp only at hSw); go_simp; all_goals (first | done | with_reducible rfl))
      case hQ111 => exact fun _ _ _ h => h
      simp only [Act.put, List.setIfInBounds_toArray, List.set_cons_zero, List.set_cons_succ]
      refine wpAnyH_ready (rs := [11]) (by kernel_rfl) (by simp) ?_
      refine AllReadyH.cons (o := ?oi112) ?hi112 (fun K hK => ?step112) AllReadyH.nil
      case hi112 => simp only [List.getElem?_toArray, List.getElem?_cons_succ, List.getElem?_cons_zero]; rfl
      rw [if_pos (by rfl)]
      go_simp
      refine hK.out _ _ ⟨(World.cell?_setCell_far _ _ _ _ HNE.out).trans S4, by simp; omega⟩ (fun _ => ?_)
      refine wpAnyH_done (by kernel_rfl) ?_ _
      clear hSa S4 o9 oa o4 o4f o1 n1'
      go_wp2_with fail
      go_ret
      refine ⟨hB4.out.setCell (show lo ≤ bc by omega) _, rfl, fun x hx => ?_⟩
      obtain rfl := Option.some.inj hx
      exact ⟨_, _, _, _, _, _, _, hK4.out.set 0 _, ⟨_, _, ls ++ [mkV s.data.toList], hs', rfl, by rw [HT.out, ← HLH.out.1]; simp [lsOf, mkV], HLH.out.2, rfl⟩, hR5.out, hd2.out⟩
    · refine hK.out _ _ ⟨hSa, by simp; omega⟩ (fun _ => ?_)
      refine wpAnyH_ready (rs := [4]) (by kernel_rfl) (by simp) ?_
      refine AllReadyH.cons (o := ?oi113) ?hi113 (fun K hK => ?step113) AllReadyH.nil
      case hi113 => simp only [List.getElem?_toArray, List.getElem?_cons_succ, List.getElem?_cons_zero]; rfl
      rw [if_pos (by rfl)]
      go_simp
      refine hK.out _ _ ⟨hSa, by simp; omega⟩ (fun _ => ?_)
      refine wpAnyH_ready (rs := [8]) (by kernel_rfl) (by simp) ?_
      refine AllReadyH.cons (o := ?oi114) ?hi114 (fun K hK => ?step114) AllReadyH.nil
      case hi114 => simp only [List.getElem?_toArray, List.getElem?_cons_succ, List.getElem?_cons_zero]; rfl
      rw [if_pos (by rfl)]
      refine wp_app rfl (by rfl) (by rfl) HRun.out ?_
      refine hK.out _ _ ⟨S4, h4s⟩ (fun _ => ?_)
      simp only [Act.put, List.setIfInBounds_toArray, List.set_cons_zero, List.set_cons_succ]
      refine wpAnyH_take (i := 9) (oi := ?oi115) (v := ?v115) ?hi115 (by kernel_rfl) ?hf115 ?hr115 ?hQ115 (Or.inl ⟨?hw115, ?hy115⟩) (by assumption) ?rest115
      case hi115 => simp only [List.getElem?_toArray, List.getElem?_cons_succ, List.getElem?_cons_zero]; rfl
      case hf115 => kernel_rfl
      case hr115 => kernel_rfl
      case hw115 => rfl
      case hy115 => (intro w hSw; (try dsimp only at hSw); go_simp; all_goals (first | done | with_reducible rfl))
      case hQ115 => exact fun _ _ _ h => h
      simp only [Act.put, List.setIfInBounds_toArray, List.set_cons_zero, List.set_cons_succ]
      refine wpAnyH_take (i := 10) (oi := ?oi116) (v := ?v116) ?hi116 (by kernel_rfl) ?hf116 ?hr116 ?hQ116 (Or.inl ⟨?hw116, ?hy116⟩) (by assumption) ?rest116
      case hi116 => simp only [List.getElem?_toArray, List.getElem?_cons_succ, List.getElem?_cons_zero]; rfl
      case hf116 => kernel_rfl
      case hr116 => kernel_rfl
      case hw116 => rfl
      case hy116 => (intro w hSw; (try dsimp only at hSw); go_simp; all_goals (first | done | with_reducible rfl))
      case hQ116 => exact fun _ _ _ h => h
      simp only [Act.put, List.setIfInBounds_toArray, List.set_cons_zero, List.set_cons_succ]
      refine wpAnyH_ready (rs := [11]) (by kernel_rfl) (by simp) ?_
      refine AllReadyH.cons (o := ?oi117) ?hi117 (fun K hK => ?step117) AllReadyH.nil
      case hi117 => simp only [List.getElem?_toArray, List.getElem?_cons_succ, List.getElem?_cons_zero]; rfl
      rw [if_pos (by rfl)]
      go_simp
      refine hK.out _ _ ⟨(World.cell?_setCell_far _ _ _ _ HNE.out).trans S4, by simp; omega⟩ (fun _ => ?_)
      refine wpAnyH_done (by kernel_rfl) ?_ _
      clear hSa S4 o9 oa o4 o4f o1 n1'
      go_wp2_with fail
      go_ret
      refine ⟨hB4.out.setCell (show lo ≤ bc by omega) _, rfl, fun x hx => ?_⟩
      obtain rfl := Option.some.inj hx
      exact ⟨_, _, _, _, _, _, _, hK4.out.set 0 _, ⟨_, _, ls ++ [mkV s.data.toList], hs', rfl, by rw [HT.out, ← HLH.out.1]; simp [lsOf, mkV], HLH.out.2, rfl⟩, hR5.out, hd2.out⟩
  · have HT := hid (show addT L s.data.toList = L by unfold addT; rw [if_neg hneg])
    generalize idxL (namesOf L) s.data.toList = z at C hneg
    replace C := hid C
    go_enter Try.func71, Try.ntmps71
    go_wp2_with fail
    refine (C.out).mono ?_
    rintro e w1 ⟨rfl, hb1⟩
    have HB1 := hid hb1
    clear hb1
    go_wp2_with fail
    go_ret
    refine ⟨HB1.out.mono hloW, rfl, fun x hx => ?_⟩
    obtain rfl := Option.some.inj hx
    exact ⟨_, _, _, _, _, _, _, HKB.out.to HB1.out, ⟨_, _, ls, hs', rfl, by rw [HT.out]; exact HLH.out.1, HLH.out.2, rfl⟩, (by rw [HNn.out]; exact HR.out.below HB1.out), hd2.out⟩

set_option maxHeartbeats 4000000 in
set_option maxRecDepth 100000 in
theorem implAddLogger_c {w : World} {B : Nat} {v : Value} {L : List Lgr} {H : List Hnd} {q : Int} (s : ByteArray) (h : TreeIn w B v L H q) (hB : B ≤ w.heap.size) (hz : s.size ≤ maxTxt) :
    Calls Try.prog 35 #[v, .string s] w (TreePostO w (addX L H q s.data.toList)) := by
  obtain ⟨A1, n1, k1, A2, n2, k2, rfl⟩ := h.form
  have HW := hid (show Below w.heap.size w (((w.alloc (.cells #[.slice A1 n1 k1, .slice A2 n2 k2, .int .i64 q] 32)).alloc (.cells #[.string s] 9)).alloc (.cells #[.slice none 0 0, .slice none 0 0, .int .i64 0] 32)) from (((Below.refl _ _).alloc (Nat.le_refl _) _).alloc (by simp) _).alloc (by simp; omega) _)
  have KT := hid (((Blk.new w #[.slice A1 n1 k1, .slice A2 n2 k2, .int .i64 q] 32).alloc (.cells #[.string s] 9)).alloc (.cells #[.slice none 0 0, .slice none 0 0, .int .i64 0] 32))
  have KQ := hid (((Blk.new (w.alloc (.cells #[.slice A1 n1 k1, .slice A2 n2 k2, .int .i64 q] 32)) #[.string s] 9)).alloc (.cells #[.slice none 0 0, .slice none 0 0, .int .i64 0] 32))
  have KR := hid (Blk.new ((w.alloc (.cells #[.slice A1 n1 k1, .slice A2 n2 k2, .int .i64 q] 32)).alloc (.cells #[.string s] 9)) #[.slice none 0 0, .slice none 0 0, .int .i64 0] 32)
  simp only [World.size_alloc] at KQ KR
  have h' := h.below HW.out hB
  have hB' := Nat.le_trans hB HW.out.size
  have CQ := hid (implChanged2_c 71 (.pointer (some ⟨w.heap.size, 0, none⟩)) (.pointer (some ⟨w.heap.size + 1, 0, none⟩)) (some (addT L s.data.toList, H, q)) h' hB' (fun args w => enters rfl (by kernel_rfl) rfl args w)
      (fun W lo bc v1 v2 rs hok hp => addClo_c s hz h' hB' hok KT.out (KQ.out.2 0 _ rfl).1 W lo bc v1 v2 rs hp))
  have hmf : ∀ (fn : Fn) (first cap : Array Value) (w : World), (Instr.makeFunc fn first cap).run Try.prog w = .ok (.func fn first cap) w := fun _ _ _ _ => rfl
  clear h h' hB'
  generalize hX : addX L H q s.data.toList = X
  have HX := hid hX
  clear hX
  go_enter Try.func35, Try.ntmps35
  go_wp2_with fail
  refine (CQ.out).mono ?_
  rintro e w1 ⟨v', rs, rfl, hs, hr, hb1⟩
  have HX' := hid (show changedO L H q (some (addT L s.data.toList, H, q)) = X from HX.out)
  rw [HX'.out] at hs
  obtain ⟨u1, u2, ls, hs', rfl, hL, hH, rfl⟩ := hs
  have KR1 := hid (KR.out.to hb1)
  have HB1 := hid (Below.trans (by go_grown) (hb1.mono (by simp; omega)) : Below w.heap.size w w1)
  have HR1 := hid (hr.base (show w.heap.size + 3 ≤ _ by simp))
  have HS1 := hid (show TreeS (treeRows ls.length u1 ls hs'.length u2 hs') (.agg #[u1, u2, .int .i64 (resQ X)]) (resL X) (resH X) (resQ X) from ⟨u1, u2, ls, hs', rfl, hL, hH, rfl⟩)
  obtain ⟨hl, hh⟩ := hr.lsIn
  obtain ⟨A3, c3, rfl, _, _⟩ := hl.1.form
  obtain ⟨A4, c4, rfl, _, _⟩ := hh.1.form
  obtain ⟨q0c, q0f⟩ := KR1.out.2 0 _ rfl
  obtain ⟨q1c, q1f⟩ := KR1.out.2 1 _ rfl
  obtain ⟨q2c, q2f⟩ := KR1.out.2 2 _ rfl
  generalize hq0 : resQ X = q0 at *
  generalize hi0 : (changedO L H q (some (addT L s.data.toList, H, q))).isSome = i0 at *
  have HI := hid (show X.isSome = i0 by rw [← HX'.out]; exact hi0)
  have HQ0 := hid hq0
  clear hq0 hi0 hb1 hr hl hh hL hH
  go_wp2_with fail
  have RB := ((KR1.out.set 0 (.slice A3 ls.length c3)).set 1 (.slice A4 hs'.length c4)).set 2 (.int .i64 q0)
  have f0 := (RB.2 0 _ rfl).1
  have f1 := (RB.2 1 _ rfl).1
  have f2 := (RB.2 2 _ rfl).1
  refine bodyPost_ret (v := .tuple #[.agg #[.slice A3 ls.length c3, .slice A4 hs'.length c4, .int .i64 q0], .bool i0]) (by simp [results, Try.results35, go_sem, f0, f1, f2]) rfl ?_
  refine ⟨_, _, by rw [HI.out], (by rw [HQ0.out]; exact HS1.out), ?_, ?_⟩
  · refine Rows.base ?_ (show w.heap.size ≤ w.heap.size + 3 by omega)
    iterate 3 refine Rows.low ?_ (by omega)
    exact HR1.out
  · iterate 3 refine Below.setCell ?_ (by simp; try omega) _
    exact HB1.out
end Go.Proofs.Ytpfnjkmkenaipaa
