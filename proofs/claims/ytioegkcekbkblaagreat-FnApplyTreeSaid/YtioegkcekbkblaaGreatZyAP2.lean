/-
  A TREE APPLIED: the program's change.
-/
import Derived.Test.YtioegkcekbkblaaGreatZyAP1
import Derived.Test.YtioegkcekbkblaaGreatZyHeld
namespace Go.Proofs.YtioegkcekbkblaaGreat
open Go.RowKit Nm
set_option linter.unusedSimpArgs false
set_option linter.unusedVariables false

set_option maxHeartbeats 16000000 in
set_option maxRecDepth 100000 in
theorem appClo_c {w : World} {Ba B m1 j1 m2 j2 n1 k1 n2 k2 ba bb : Nat} {B1 B2 A1 A2 : Option Addr} {La : List Lgr} {Ha : List Hnd} {qa : Int} {L : List Lgr} {H : List Hnd} {q : Int}
    (hA : TreeIn w Ba (.agg #[.slice B1 m1 j1, .slice B2 m2 j2, .int .i64 qa]) La Ha qa) (hBa : Ba ≤ w.heap.size) (hba : Blk w ba [.slice B1 m1 j1, .slice B2 m2 j2, .int .i64 qa]) (hoka : treeOk La Ha qa = true)
    (hT : TreeIn w B (.agg #[.slice A1 n1 k1, .slice A2 n2 k2, .int .i64 q]) L H q) (hB : B ≤ w.heap.size) (hbb : Blk w bb [.slice A1 n1 k1, .slice A2 n2 k2, .int .i64 q]) (hok : treeOk L H q = true)
    (W : World) (lo bc : Nat) (v1 v2 : Value) (rs : List Row) (hp : CloPre w lo bc W v1 v2 rs L H q) :
    Calls Tryz.prog 81 #[.pointer (some ⟨bc, 0, none⟩), .pointer (some ⟨ba, 0, none⟩), .pointer (some ⟨bb, 0, none⟩)] W (CloPost lo bc W (some (appK La L La.length, H, q))) := by
  obtain ⟨hb, hlo, hbc, hkb, hs, hr, hap, hd⟩ := hp
  obtain ⟨_, _, hnmA, h8a, _, _⟩ := tree_names hoka
  obtain ⟨_, _, _, h8, _, _⟩ := tree_names hok
  have HD := hid (appK_fit La.length (fit_ok hoka) hd h8 h8a)
  have HLEN := hid (fun k => appK_len La L k)
  have hbaw : ba < w.heap.size := hba.1
  have hbbw : bb < w.heap.size := hbb.1
  obtain ⟨la, hla, hLa⟩ := hA.loggers
  have hca := hla.count
  have hma : m1 = La.length := by rw [← hLa]; unfold lsOf; rw [List.length_map]; exact hca.symm
  have hj1 := hla.1.cap.2
  have hmj := hla.1.cap.1
  unfold maxLen at hj1
  have CAT := hid (fun (s : ByteArray) (W' : World) (hW : Below w.heap.size w W') => (show Calls Tryz.prog 55 #[.agg #[.slice A1 n1 k1, .slice A2 n2 k2, .int .i64 q], .string s] W' (fun e w' => e = .returned (.int .i64 (idxL (namesOf L) s.data.toList)) ∧ Below W'.heap.size W' w') from by
    have h9 := implLoggerAtX_c s (hT.below hW hB) (Nat.le_trans hB hW.size); rw [if_pos hok] at h9; exact h9))
  have CNT := hid (fun (s : ByteArray) (hs : s.size ≤ maxLen) (W' : World) (hW : Below w.heap.size w W') => implNearestTo_c s (hT.below hW hB) (Nat.le_trans hB hW.size) hs)
  have HNA := hid (fun (x : Name) (hx : nameOk x = true) => near_any hok hx)
  have HNM := hid hnmA
  have HLA := hid (fun (W' : World) (hW : Below w.heap.size w W') (k : Nat) (hk : k < m1) => (hla.below hW hBa).at_ hk)
  have HLL := hid (fun (k : Nat) (x : LgrV) (hx : la[k]? = some x) => (show La[k]? = some x.l by rw [← hLa]; unfold lsOf; rw [List.getElem?_map, hx]; rfl))
  have HBa := hid (fun (W' : World) (hW : Below w.heap.size w W') => hba.to hW)
  have HBb := hid (fun (W' : World) (hW : Below w.heap.size w W') => hbb.to hW)
  obtain ⟨u1, u2, ls, hs', e, h1, h2, h3⟩ := hs
  have e' : v1 = u1 ∧ v2 = u2 := by simpa using e
  obtain ⟨rfl, rfl⟩ := e'
  subst h3
  have hll : ls.length = L.length := by rw [← h1]; simp [lsOf]
  obtain ⟨hl, hh⟩ := hr.lsIn
  obtain ⟨A, c, rfl, hnc, hcm⟩ := hl.1.form
  obtain ⟨A4, c4, rfl, _, _⟩ := hh.1.form
  have HR := hid hr
  have HAP := hid hap
  have HKB := hid hkb
  have HB := hid hb
  have HH := hid h2
  have HL := hid h1
  have HLO := hid (And.intro hlo hbc)
  have a0 := ((HBa.out _ hb).2 0 _ rfl).1
  have hm8 : m1 ≤ 8 := by omega
  have hn8 : L.length ≤ 8 := h8
  clear hl hh hr hap hkb hd h1 h2 e hb hA hT hba hbb hok hoka hla hLa hlo hbc h8 h8a hnmA hca
  go_enter Tryz.func81, Tryz.ntmps81
  go_wp2_with fail
  clear a0
  go_loopw [6, 7, 11] (fun av bv iv wr => ∃ (k : Nat) (cul : List LgrV) (Ac : Option Addr) (cc : Nat) (u6 u7 : Value), av = u6 ∧ bv = u7 ∧ iv = .int .i64 k ∧ k ≤ m1 ∧ Hid (lsOf cul = appK La L k) ∧ Hid (Rows wr lo (treeRows cul.length (.slice Ac cul.length cc) cul hs'.length (.slice A4 hs'.length c4) hs')) ∧
    Hid (Blk wr bc [.slice Ac cul.length cc, .slice A4 hs'.length c4, .int .i64 q]) ∧ Hid (∀ r ∈ treeRows cul.length (.slice Ac cul.length cc) cul hs'.length (.slice A4 hs'.length c4) hs', r.v.ownBlock ≠ some bc) ∧ Hid (Below lo W wr)) (fun _ _ iv _ => m1 - (intOf iv).toNat)
  case atStart => exact ⟨0, ls, A, c, _, _, rfl, rfl, rfl, by omega, by simpa [Hid, appK_zero] using HL.out, HR.out, HKB.out, HAP.out, Below.refl _ _⟩
  case round =>
    obtain ⟨k, cul, Ac, cc, u6, u7, rfl, rfl, rfl, hk, HC, HRx, HKx, HNx, HBx⟩ := hrel
    have hlw : lo ≤ wr.heap.size := by have := HKx.out.1; have := HLO.out.2; omega
    have HWx := hid (HB.out.trans (HBx.out.mono HLO.out.1))
    by_cases hlt : k < m1
    · obtain ⟨b, o, x, s, rfl, hbB, hx, hsx, hsz, htx, hfx, c0, c1, c2, c3, c4', c5⟩ := HLA.out wr HWx.out k hlt
      obtain ⟨A6, k6, e6, _, _⟩ := htx.1.form
      obtain ⟨A7, k7, e7, _, _⟩ := hfx.1.form
      rw [e6] at c2
      rw [e7] at c3
      have hlx := HLL.out k x hx
      have HX := hid (And.intro hlx hsx)
      have hname : nameOk s.data.toList = true := by rw [hsx]; exact HNM.out x.l.nm (List.mem_map.2 ⟨x.l, List.mem_of_getElem? hlx, rfl⟩)
      have hba : Below wr.heap.size wr (wr.alloc (.cells #[.string s, .int .i64 x.l.lv, .slice A6 x.hn k6, .slice A7 x.fn k7, .bool x.l.stop, .bool x.l.off] 72)) := (Below.refl _ _).alloc (Nat.le_refl _) _
      have HKxb := hid (Blk.new wr #[.string s, .int .i64 x.l.lv, .slice A6 x.hn k6, .slice A7 x.fn k7, .bool x.l.stop, .bool x.l.off] 72)
      have HRb := hid (HRx.out.below hba)
      have HKb := hid (HKx.out.to hba)
      have HBb2 := hid (HBx.out.trans (hba.mono hlw))
      have HWb := hid (HWx.out.trans (hba.mono HWx.out.size))
      have hbbr := HBb.out _ HWb.out
      have e0 := (hbbr.2 0 _ rfl).1
      have e1 := (hbbr.2 1 _ rfl).1
      have e2 := (hbbr.2 2 _ rfl).1
      have x0 := (HKxb.out.2 0 _ rfl).1
      have hxbc : wr.heap.size ≠ bc := by have := HKx.out.1; omega
      have hxlo : lo ≤ wr.heap.size := hlw
      have CA := hid (CAT.out s _ HWb.out)
      have hwbs : wr.heap.size < (wr.alloc (.cells #[.string s, .int .i64 x.l.lv, .slice A6 x.hn k6, .slice A7 x.fn k7, .bool x.l.stop, .bool x.l.off] 72)).heap.size := by simp
      generalize hwb : wr.alloc (.cells #[.string s, .int .i64 x.l.lv, .slice A6 x.hn k6, .slice A7 x.fn k7, .bool x.l.stop, .bool x.l.off] 72) = wb at *
      have s0 : (0 : Int) ≤ (k : Int) := by omega
      have s1 : (k : Int) < (m1 : Int) := by omega
      have s2 : ((k : Int)).toNat = k := by simp
      clear hx hsx htx hfx hlx hba e6 e7 hbbr
      by_cases hneg : idxL (namesOf L) s.data.toList < 0
      · have HHit := hid (appK_hit HX.out.1 (show idxL (namesOf L) x.l.nm < 0 by rw [← HX.out.2]; exact hneg))
        have CN := hid (CNT.out s (by unfold maxLen; unfold maxTxt at hsz; omega))
        obtain ⟨z, hz, hz2⟩ := txt_mk (nearestT L H q s.data.toList)
        have HZ := hid (show (z.data.toList = []) ↔ anyBelow L s.data.toList = false by rw [hz2]; exact HNA.out _ hname)
        rw [hz] at CN
        generalize idxL (namesOf L) s.data.toList = ix at *
        clear hz hz2 hname
        go_wp2_with fail
        refine (CA.out).mono ?_
        rintro e w1 ⟨rfl, hb1⟩
        have HW1 := hid (HWb.out.trans (hb1.mono HWb.out.size))
        have HR1 := hid (HRb.out.below hb1)
        have HK1 := hid (HKb.out.to hb1)
        have HX1 := hid (HKxb.out.to hb1)
        have HB1 := hid (HBb2.out.trans (hb1.mono (Nat.le_trans hlw (Nat.le_of_lt hwbs))))
        have hsz1 : wb.heap.size ≤ w1.heap.size := hb1.size
        clear hb1 e0 e1 e2 x0 c0 c1 c2 c3 c4' c5
        have hbbr := HBb.out _ HW1.out
        have e0 := (hbbr.2 0 _ rfl).1
        have e1 := (hbbr.2 1 _ rfl).1
        have e2 := (hbbr.2 2 _ rfl).1
        have x0 := (HX1.out.2 0 _ rfl).1
        clear hbbr
        go_wp2_with fail
        refine (CN.out _ HW1.out).mono ?_
        rintro e w2 ⟨rfl, hb2⟩
        have HR2 := hid (HR1.out.below hb2)
        have HK2 := hid (HK1.out.to hb2)
        have HX2 := hid (HX1.out.to hb2)
        have hlw1 : lo ≤ w1.heap.size := by omega
        have HB2 := hid (HB1.out.trans (hb2.mono hlw1))
        have hlw2 : lo ≤ w2.heap.size := Nat.le_trans hlw1 hb2.size
        clear hb2 e0 e1 e2 x0
        obtain ⟨oo, hoo, ho1⟩ : ∃ oo : Bool, (!anyBelow L s.data.toList) = oo ∧ z.toList.isEmpty = oo := by
          by_cases h0 : z.data.toList = []
          · exact ⟨true, by rw [HZ.out.1 h0]; rfl, empty_true h0⟩
          · refine ⟨false, ?_, empty_false h0⟩
            cases hq : anyBelow L s.data.toList with
            | false => exact absurd (HZ.out.2 hq) h0
            | true => rfl
        have HOO := hid hoo
        have hno : (!(!oo)) = oo := by cases oo <;> rfl
        have hcl16 : cul.length ≤ 16 := by have h := congrArg List.length HC.out; have := HLEN.out k; simp [lsOf] at h; omega
        have HR2d := hid (HR2.out.dr)
        obtain ⟨A5, c5, w4, hrun, ho4, hg4, hloc⟩ := run_addO w2.drew rfl HR2d.out (by omega) s oo (by show lo ≤ w2.heap.size; exact hlw2)
        obtain ⟨hR4, hoff⟩ := tree_appO rfl HR2d.out s oo ho4 hg4 hloc (by show lo ≤ w2.heap.size; exact hlw2)
        have hlo4 : ∀ z, (Value.slice Ac cul.length cc).ownBlock = some z → lo ≤ z ∧ z < w2.heap.size := fun z hz => ((HR2d.out.1 ⟨72, 6, cul.length, .slice Ac cul.length cc, cul.flatMap lcells⟩ (by rw [treeRows_eq]; simp [two])).lt z hz)
        have hne : some bc ≠ (Value.slice Ac cul.length cc).ownBlock := fun e => HNx.out ⟨72, 6, cul.length, .slice Ac cul.length cc, cul.flatMap lcells⟩ (by rw [treeRows_eq]; simp [two]) e.symm
        have hnx : some wr.heap.size ≠ (Value.slice Ac cul.length cc).ownBlock := fun e => by
          have h9 := (HRx.out.1 ⟨72, 6, cul.length, .slice Ac cul.length cc, cul.flatMap lcells⟩ (by rw [treeRows_eq]; simp [two])).lt _ e.symm
          omega
        have HK4 := hid ((HK2.out.dr 1).kept hg4 hne)
        have HX4 := hid ((HX2.out.dr 1).kept hg4 hnx)
        have hoffb := hoff bc HNx.out (by show bc ≤ w2.heap.size; have := HK2.out.1; omega)
        have HR5 := hid (hR4.off (j := 0) (u := .slice A5 (cul.length + 1) c5) hoffb)
        have HN5 := hid hoffb
        have HB4 := hid (show Below lo W w4 from (HB2.out.drew).grown hg4 (by show lo ≤ w2.heap.size; exact hlw2) (fun z hz => (hlo4 z hz).1))
        have HRun := hid hrun
        have o0 : w2.drew.cell? ⟨bc, 0, none⟩ = some (.slice Ac cul.length cc) := ((HK2.out.dr 1).2 0 _ rfl).1
        have x0 : w2.drew.cell? ⟨wr.heap.size, 0, none⟩ = some (.string s) := ((HX2.out.dr 1).2 0 _ rfl).1
        have hbcw : bc < w2.drew.heap.size := HK2.out.1
        have hxw : wr.heap.size < w2.drew.heap.size := HX2.out.1
        clear hrun ho4 hg4 hloc hR4 hoff hlo4 hne hnx hoo hoffb
        go_wp2_with fail
        refine wp_region_let 14 (fun w' : World => w'.cell? ⟨wr.heap.size, 0, none⟩ = some (.string s)) (fun w' : World => w'.cell? ⟨bc, 0, none⟩ = some (.slice Ac cul.length cc)) (by kernel_rfl) x0 o0 (fun hS => ?_)
        refine wpAnyL_take (i := 0) (oi := ?oi101) (v := ?v101) ?hi101 (by kernel_rfl) ?hf101 ?hr101 (by decide) ?hQ101 (Or.inl ⟨?hw101, ?hy101⟩) (⟨hS.1, fun h => hS.2 (by first | rfl | exact h)⟩) ?rest101
        case hi101 => simp only [List.getElem?_toArray, List.getElem?_cons_succ, List.getElem?_cons_zero]; rfl
        case hf101 => kernel_rfl
        case hr101 => kernel_rfl
        case hw101 => rfl
        case hy101 => (intro w hSw; (try dsimp only at hSw); go_simp; all_goals (first | done | with_reducible rfl))
        case hQ101 => exact fun _ _ _ h => h
        simp only [Act.put, List.setIfInBounds_toArray, List.set_cons_zero, List.set_cons_succ]
        refine wpAnyL_take (i := 1) (oi := ?oi102) (v := ?v102) ?hi102 (by kernel_rfl) ?hf102 ?hr102 (by decide) ?hQ102 (Or.inl ⟨?hw102, ?hy102⟩) (⟨hS.1, fun h => hS.2 (by first | rfl | exact h)⟩) ?rest102
        case hi102 => simp only [List.getElem?_toArray, List.getElem?_cons_succ, List.getElem?_cons_zero]; rfl
        case hf102 => kernel_rfl
        case hr102 => kernel_rfl
        case hw102 => rfl
        case hy102 => (intro w hSw; (try dsimp only at hSw); go_simp; all_goals (first | done | with_reducible rfl))
        case hQ102 => exact fun _ _ _ h => h
        simp only [Act.put, List.setIfInBounds_toArray, List.set_cons_zero, List.set_cons_succ]
        refine wpAnyL_take (i := 2) (oi := ?oi103) (v := ?v103) ?hi103 (by kernel_rfl) ?hf103 ?hr103 (by decide) ?hQ103 (Or.inl ⟨?hw103, ?hy103⟩) (⟨hS.1, fun h => hS.2 (by first | rfl | exact h)⟩) ?rest103
        case hi103 => simp only [List.getElem?_toArray, List.getElem?_cons_succ, List.getElem?_cons_zero]; rfl
        case hf103 => kernel_rfl
        case hr103 => kernel_rfl
        case hw103 => rfl
        case hy103 => (intro w hSw; (try dsimp only at hSw); go_simp; all_goals (first | done | with_reducible rfl))
        case hQ103 => exact fun _ _ _ h => h
        simp only [Act.put, List.setIfInBounds_toArray, List.set_cons_zero, List.set_cons_succ]
        refine wpAnyL_take (i := 3) (oi := ?oi104) (v := ?v104) ?hi104 (by kernel_rfl) ?hf104 ?hr104 (by decide) ?hQ104 (Or.inl ⟨?hw104, ?hy104⟩) (⟨hS.1, fun h => hS.2 (by first | rfl | exact h)⟩) ?rest104
        case hi104 => simp only [List.getElem?_toArray, List.getElem?_cons_succ, List.getElem?_cons_zero]; rfl
        case hf104 => kernel_rfl
        case hr104 => kernel_rfl
        case hw104 => rfl
        case hy104 => (intro w hSw; (try dsimp only at hSw); go_simp; all_goals (first | done | with_reducible rfl))
        case hQ104 => exact fun _ _ _ h => h
        simp only [Act.put, List.setIfInBounds_toArray, List.set_cons_zero, List.set_cons_succ]
        refine wpAnyL_take (i := 5) (oi := ?oi105) (v := ?v105) ?hi105 (by kernel_rfl) ?hf105 ?hr105 (by decide) ?hQ105 (Or.inl ⟨?hw105, ?hy105⟩) (⟨hS.1, fun h => hS.2 (by first | rfl | exact h)⟩) ?rest105
        case hi105 => simp only [List.getElem?_toArray, List.getElem?_cons_succ, List.getElem?_cons_zero]; rfl
        case hf105 => kernel_rfl
        case hr105 => kernel_rfl
        case hw105 => rfl
        case hy105 => (intro w hSw; (try dsimp only at hSw); go_simp; all_goals (first | done | with_reducible rfl))
        case hQ105 => exact fun _ _ _ h => h
        simp only [Act.put, List.setIfInBounds_toArray, List.set_cons_zero, List.set_cons_succ]
        refine wpAnyL_take (i := 6) (oi := ?oi106) (v := ?v106) ?hi106 (by kernel_rfl) ?hf106 ?hr106 (by decide) ?hQ106 (Or.inl ⟨?hw106, ?hy106⟩) (⟨hS.1, fun h => hS.2 (by first | rfl | exact h)⟩) ?rest106
        case hi106 => simp only [List.getElem?_toArray, List.getElem?_cons_succ, List.getElem?_cons_zero]; rfl
        case hf106 => kernel_rfl
        case hr106 => kernel_rfl
        case hw106 => rfl
        case hy106 => (intro w hSw; (try dsimp only at hSw); go_simp; all_goals (first | done | with_reducible rfl))
        case hQ106 => exact fun _ _ _ h => h
        simp only [Act.put, List.setIfInBounds_toArray, List.set_cons_zero, List.set_cons_succ]
        refine wpAnyL_take (i := 7) (oi := ?oi107) (v := ?v107) ?hi107 (by kernel_rfl) ?hf107 ?hr107 (by decide) ?hQ107 (Or.inl ⟨?hw107, ?hy107⟩) (⟨hS.1, fun h => hS.2 (by first | rfl | exact h)⟩) ?rest107
        case hi107 => simp only [List.getElem?_toArray, List.getElem?_cons_succ, List.getElem?_cons_zero]; rfl
        case hf107 => kernel_rfl
        case hr107 => kernel_rfl
        case hw107 => rfl
        case hy107 => (intro w hSw; (try dsimp only at hSw); go_simp; all_goals (first | done | with_reducible rfl))
        case hQ107 => exact fun _ _ _ h => h
        simp only [Act.put, List.setIfInBounds_toArray, List.set_cons_zero, List.set_cons_succ]
        refine wpAnyL_take (i := 8) (oi := ?oi108) (v := ?v108) ?hi108 (by kernel_rfl) ?hf108 ?hr108 (by decide) ?hQ108 (Or.inl ⟨?hw108, ?hy108⟩) (⟨hS.1, fun h => hS.2 (by first | rfl | exact h)⟩) ?rest108
        case hi108 => simp only [List.getElem?_toArray, List.getElem?_cons_succ, List.getElem?_cons_zero]; rfl
        case hf108 => kernel_rfl
        case hr108 => kernel_rfl
        case hw108 => rfl
        case hy108 => (intro w hSw; (try dsimp only at hSw); go_simp; all_goals (first | done | with_reducible rfl))
        case hQ108 => exact fun _ _ _ h => h
        simp only [Act.put, List.setIfInBounds_toArray, List.set_cons_zero, List.set_cons_succ]
        refine wpAnyL_take (i := 9) (oi := ?oi109) (v := ?v109) ?hi109 (by kernel_rfl) ?hf109 ?hr109 (by decide) ?hQ109 (Or.inl ⟨?hw109, ?hy109⟩) (⟨hS.1, fun h => hS.2 (by first | rfl | exact h)⟩) ?rest109
        case hi109 => simp only [List.getElem?_toArray, List.getElem?_cons_succ, List.getElem?_cons_zero]; rfl
        case hf109 => kernel_rfl
        case hr109 => kernel_rfl
        case hw109 => rfl
        case hy109 => (intro w hSw; (try dsimp only at hSw); go_simp; all_goals (first | done | with_reducible rfl))
        case hQ109 => exact fun _ _ _ h => h
        simp only [Act.put, List.setIfInBounds_toArray, List.set_cons_zero, List.set_cons_succ]
        refine wpAnyL_take1 (i := 4) (oi := ?oi110) (om := ?om110) (v := ?v110) ?hi110 (by kernel_rfl) ?hf110 ?hr110 (by decide) ?hm110 ?hd110 (by rfl) ?hQ110 (Or.inl ⟨?hw110, ?hy110⟩) (⟨hS.1, fun h => hS.2 (by first | rfl | exact h)⟩) ?rest110
        case hi110 => simp only [List.getElem?_toArray, List.getElem?_cons_succ, List.getElem?_cons_zero]; rfl
        case hm110 => simp only [List.getElem?_toArray, List.getElem?_cons_succ, List.getElem?_cons_zero]; rfl
        case hd110 => kernel_rfl
        case hf110 => kernel_rfl
        case hr110 => kernel_rfl
        case hw110 => rfl
        case hy110 => (intro w hSw; (try dsimp only at hSw); go_simp; all_goals (first | done | with_reducible rfl))
        case hQ110 => exact fun _ _ _ h => h
        simp only [Act.put, List.setIfInBounds_toArray, List.set_cons_zero, List.set_cons_succ]
        refine wpAnyL_ready (rs := [10]) (by kernel_rfl) (by simp) ?_
        refine AllReadyL.cons (o := ?oi111) ?hi111 (fun K hK => ?step111) AllReadyL.nil
        case hi111 => simp only [List.getElem?_toArray, List.getElem?_cons_succ, List.getElem?_cons_zero]; rfl
        rw [if_pos (by rfl)]
        go_simp
        refine hK.out _ _ ⟨(World.cell?_alloc_past _ _ _ hxw).trans x0, fun _ => (World.cell?_alloc_past _ _ _ hbcw).trans o0⟩ (fun hS => ?_)
        refine wpAnyL_ready (rs := [11]) (by kernel_rfl) (by simp) ?_
        refine AllReadyL.cons (o := ?oi112) ?hi112 (fun K hK => ?step112) AllReadyL.nil
        case hi112 => simp only [List.getElem?_toArray, List.getElem?_cons_succ, List.getElem?_cons_zero]; rfl
        rw [if_pos (by rfl)]
        refine wp_app rfl (by rfl) (by rfl) HRun.out ?_
        refine hK.out _ _ ⟨(HX4.out.2 0 _ rfl).1, fun _ => (HK4.out.2 0 _ rfl).1⟩ (fun hS => ?_)
        simp only [Act.put, List.setIfInBounds_toArray, List.set_cons_zero, List.set_cons_succ]
        refine wpAnyL_take (i := 12) (oi := ?oi113) (v := ?v113) ?hi113 (by kernel_rfl) ?hf113 ?hr113 (by decide) ?hQ113 (Or.inl ⟨?hw113, ?hy113⟩) (⟨hS.1, fun h => hS.2 (by first | rfl | exact h)⟩) ?rest113
        case hi113 => simp only [List.getElem?_toArray, List.getElem?_cons_succ, List.getElem?_cons_zero]; rfl
        case hf113 => kernel_rfl
        case hr113 => kernel_rfl
        case hw113 => rfl
        case hy113 => (intro w hSw; (try dsimp only at hSw); go_simp; all_goals (first | done | with_reducible rfl))
        case hQ113 => exact fun _ _ _ h => h
        simp only [Act.put, List.setIfInBounds_toArray, List.set_cons_zero, List.set_cons_succ]
        refine wpAnyL_take (i := 13) (oi := ?oi114) (v := ?v114) ?hi114 (by kernel_rfl) ?hf114 ?hr114 (by decide) ?hQ114 (Or.inl ⟨?hw114, ?hy114⟩) (⟨hS.1, fun h => hS.2 (by first | rfl | exact h)⟩) ?rest114
        case hi114 => simp only [List.getElem?_toArray, List.getElem?_cons_succ, List.getElem?_cons_zero]; rfl
        case hf114 => kernel_rfl
        case hr114 => kernel_rfl
        case hw114 => rfl
        case hy114 => (intro w hSw; (try dsimp only at hSw); go_simp; all_goals (first | done | with_reducible rfl))
        case hQ114 => exact fun _ _ _ h => h
        simp only [Act.put, List.setIfInBounds_toArray, List.set_cons_zero, List.set_cons_succ]
        have o9 := (HK4.out.2 0 _ rfl).1
        have o9f := (HK4.out.2 0 _ rfl).2
        refine wpAnyL_ready (rs := [14]) (by kernel_rfl) (by simp) ?_
        refine AllReadyL.cons (o := ?oi115) ?hi115 (fun K hK => ?step115) AllReadyL.nil
        case hi115 => simp only [List.getElem?_toArray, List.getElem?_cons_succ, List.getElem?_cons_zero]; rfl
        rw [if_pos (by rfl)]
        go_simp
        refine hK.out _ _ ⟨(World.cell?_setCell_far _ _ _ _ (show bc ≠ wr.heap.size from fun e => hxbc e.symm)).trans (HX4.out.2 0 _ rfl).1, fun h => absurd h (by decide)⟩ (fun hS => ?_)
        refine wpAnyL_done (by kernel_rfl) ?_ _
        clear hS o0 x0 o9 o9f
        go_wp2_with fail
        go_roundw
        case rel =>
          refine ⟨k + 1, cul ++ [mkVo s.data.toList oo], A5, c5, _, _, rfl, rfl, by go_num, by omega, ?_, ?_, ?_, ?_, HB4.out.setCell HLO.out.2 _⟩
          · show lsOf _ = _
            rw [HHit.out, ← HC.out]
            unfold lsOf
            rw [List.map_append]
            congr 1
            show [({ mkL s.data.toList with off := oo } : Lgr)] = [offL L x.l]
            unfold offL
            rw [← HX.out.2, HOO.out]
          · have h9 := HR5.out
            exact hid (by simpa using h9)
          · have h9 := HK4.out.set 0 (.slice A5 (cul.length + 1) c5)
            exact hid (by simpa using h9)
          · have h9 := HN5.out
            exact hid (by simpa using h9)
        case measure => simp [intOf]; omega
      · have HMiss := hid (appK_miss HX.out.1 (show ¬ idxL (namesOf L) x.l.nm < 0 by rw [← HX.out.2]; exact hneg))
        generalize idxL (namesOf L) s.data.toList = ix at *
        clear hname
        go_wp2_with fail
        refine (CA.out).mono ?_
        rintro e w1 ⟨rfl, hb1⟩
        have HR1 := hid (HRb.out.below hb1)
        have HK1 := hid (HKb.out.to hb1)
        have HB1 := hid (HBb2.out.trans (hb1.mono (Nat.le_trans hlw (Nat.le_of_lt hwbs))))
        clear hb1 e0 e1 e2 x0 c0 c1 c2 c3 c4' c5
        go_wp2_with fail
        go_roundw
        case rel => exact ⟨k + 1, cul, Ac, cc, _, _, rfl, rfl, by go_num, by omega, by show lsOf cul = _; rw [HMiss.out]; exact HC.out, HR1.out, HK1.out, HNx.out, HB1.out⟩
        case measure => simp [intOf]; omega
    · obtain rfl : k = m1 := by omega
      go_wp2_with fail
      go_ret
      refine ⟨HBx.out, rfl, fun x hx => ?_⟩
      obtain rfl := Option.some.inj hx
      exact ⟨_, _, _, _, _, _, _, HKx.out, ⟨_, _, cul, hs', rfl, by rw [← hma]; exact HC.out, HH.out, rfl⟩, HRx.out, HD.out⟩
end Go.Proofs.YtioegkcekbkblaaGreat
