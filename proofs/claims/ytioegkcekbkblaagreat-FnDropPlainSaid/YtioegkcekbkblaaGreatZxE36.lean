/-
  DRAW of the law of loggers that have nothing: a tree, some loggers of which keep their names alone. By gen_dplain.py.
-/
import Derived.Test.YtioegkcekbkblaaGreatZxEM
import Derived.Test.YtioegkcekbkblaaGreatZxE13
import Derived.Test.YtioegkcekbkblaaGreatZxDP2
import Derived.Test.YtioegkcekbkblaaGreatZxStB
namespace Go.Proofs.YtioegkcekbkblaaGreat
open Go.RowKit Nm
set_option linter.unusedSimpArgs false
set_option linter.unusedVariables false

/-- a logger that keeps its name alone -/
def plainV (x : LgrV) : LgrV := ⟨⟨x.l.nm, 0, [], [], false, false⟩, .slice none 0 0, 0, .slice none 0 0, 0⟩
theorem nil_apart (T : TypeId) (d : Nat) (r : Row) : (⟨T, d, 0, .slice none 0 0, []⟩ : Row).apart r := by
  refine ⟨.inl rfl, ?_⟩
  cases h : r.v.ownBlock with
  | none => exact .inl rfl
  | some z => exact .inr (by intro e; cases e)
theorem Rows.addnil {w : World} {lo : Nat} {rs : List Row} (T : TypeId) (d : Nat) (h : Rows w lo rs) : Rows w lo (⟨T, d, 0, .slice none 0 0, []⟩ :: rs) := by
  refine ⟨fun r hr => ?_, List.pairwise_cons.2 ⟨fun r hr => nil_apart T d r, h.2⟩⟩
  rcases List.mem_cons.1 hr with rfl | hr
  · exact World.ownsRow_nil _ _ _ _
  · exact h.1 r hr
theorem plainRows {w : World} {lo g ln c1 n2 : Nat} {v2 : Value} {a b : List LgrV} {x : LgrV} {hs : List HndV} {p : ByteArray}
    (h : Rows w lo (treeRows ln (.slice (some ⟨g, 0, none⟩) ln c1) (a ++ x :: b) n2 v2 hs)) (hp : txt x.l.nm = .string p) :
    Rows ((((((w.setCell ⟨g, a.length * 6, none⟩ (.string p)).setCell ⟨g, a.length * 6 + 1, none⟩ (.int .i64 0)).setCell ⟨g, a.length * 6 + 2, none⟩ (.slice none 0 0)).setCell ⟨g, a.length * 6 + 3, none⟩ (.slice none 0 0)).setCell ⟨g, a.length * 6 + 4, none⟩ (.bool false)).setCell ⟨g, a.length * 6 + 5, none⟩ (.bool false)) lo (treeRows ln (.slice (some ⟨g, 0, none⟩) ln c1) (a ++ plainV x :: b) n2 v2 hs) ∧ w.grownBy ((((((w.setCell ⟨g, a.length * 6, none⟩ (.string p)).setCell ⟨g, a.length * 6 + 1, none⟩ (.int .i64 0)).setCell ⟨g, a.length * 6 + 2, none⟩ (.slice none 0 0)).setCell ⟨g, a.length * 6 + 3, none⟩ (.slice none 0 0)).setCell ⟨g, a.length * 6 + 4, none⟩ (.bool false)).setCell ⟨g, a.length * 6 + 5, none⟩ (.bool false)) (some g) := by
  have h0 : Rows w lo (lsRow ln (.slice (some ⟨g, 0, none⟩) ln c1) (a ++ x :: b) :: (a.flatMap lrows ++ (lrows (plainV x) ++ (b.flatMap lrows ++ (hsRow n2 v2 hs :: hs.flatMap hrows))))) := by
    have h1 : Rows w lo (lsRow ln (.slice (some ⟨g, 0, none⟩) ln c1) (a ++ x :: b) :: (a.flatMap lrows ++ (b.flatMap lrows ++ (hsRow n2 v2 hs :: hs.flatMap hrows)))) := by
      rw [treeRows_mid] at h
      exact h.sub (List.Sublist.cons_cons _ ((List.Sublist.refl _).append (List.sublist_append_right _ _)))
    have h2 := (h1.addnil 99 3).addnil 9 1
    refine h2.perm ?_
    have := perm_in [⟨9, 1, 0, .slice none 0 0, []⟩, ⟨99, 3, 0, .slice none 0 0, []⟩] (lsRow ln (.slice (some ⟨g, 0, none⟩) ln c1) (a ++ x :: b) :: a.flatMap lrows) (b.flatMap lrows ++ (hsRow n2 v2 hs :: hs.flatMap hrows))
    simpa [lrows, plainV, fsCells] using this
  have ho : w.ownsRow lo 72 6 (.slice (some ⟨g, 0, none⟩) ln c1) ln ((a ++ x :: b).flatMap lcells) := h0.1 (lsRow ln (.slice (some ⟨g, 0, none⟩) ln c1) (a ++ x :: b)) (by simp)
  have hs9 := own_lset ho (i := a.length) (x := plainV x) (y := x) (show lcells (plainV x) = [.string p, .int .i64 0, .slice none 0 0, .slice none 0 0, .bool false, .bool false] by unfold lcells plainV; rw [hp]) (by simp)
  refine ⟨?_, hs9.2⟩
  have h1 := Rows.write (r := lsRow ln (.slice (some ⟨g, 0, none⟩) ln c1) (a ++ x :: b)) (pre := []) h0 hs9.2 hs9.1
  have e2 : (a ++ x :: b).set a.length (plainV x) = a ++ plainV x :: b := by simp
  rw [e2] at h1
  rw [treeRows_mid]
  simpa [lsRow] using h1

set_option maxHeartbeats 8000000 in
set_option maxRecDepth 100000 in
theorem drawDropPlain_c (a : Option Addr) (len cap : Nat) (z : List Int) (w : World) (h : IsRow .u8 w a len cap z) :
    Calls Tryz.prog 33 #[.slice a len cap] w (DrawTree w) := by
  have K0 := hid (Blk.new w #[.slice none 0 0, .slice none 0 0, .int .i64 0] 26)
  have HB0 := hid (show Below w.heap.size w (w.alloc (.cells #[.slice none 0 0, .slice none 0 0, .int .i64 0] 26)) from (Below.refl _ _).alloc (Nat.le_refl _) _)
  have C := hid (newReader_c a len cap z _ (h.belowT HB0.out))
  simp only [World.size_alloc] at C
  clear h
  go_enter Tryz.func33, Tryz.ntmps33
  go_wp2_with fail
  refine C.out.mono ?_
  rintro e w1 ⟨rfl, hr1, hb1⟩
  have hs1 : w.heap.size + 1 < w1.heap.size := by have := hr1.lt; omega
  have KZ1 := hid (K0.out.below hb1 (by omega))
  have HB1 := hid (HB0.out.trans (hb1.mono (by omega)))
  have C1 := hid (someTree_c _ 0 w1 hr1 (by omega))
  clear hr1 hb1 C K0 HB0
  go_wp2_with fail
  generalize hR : w.heap.size + 1 = R at *
  refine C1.out.mono ?_
  rintro e w2 ⟨_, _, L, H, q, p2, rfl, ⟨v1, v2, ls, hs, rfl, rfl, rfl, rfl⟩, ⟨hL1, ⟨hL8, hF⟩, hH8, hFH⟩, hR2, hp2, hr2, hg2⟩
  have hlen : (lsOf ls).length = ls.length := by simp [lsOf]
  rw [hlen] at hL1 hL8
  have HF := hid (show ∀ x ∈ ls, lgrSm 9 x.l from fun x hx => hF x.l (List.mem_map.2 ⟨x, hx, rfl⟩))
  have HH := hid (And.intro hH8 hFH)
  obtain ⟨A1, c1, rfl, _, hc1⟩ := (Sl.of_own (show w2.ownsRow _ 72 6 v1 ls.length (ls.flatMap lcells) from hR2.left.head)).form
  obtain ⟨A2, c2, rfl, _, _⟩ := (Sl.of_own (show w2.ownsRow _ 47 3 v2 hs.length (hs.flatMap hcells) from hR2.right.head)).form
  have hA1 : ∃ g, A1 = some ⟨g, 0, none⟩ ∧ g < w2.heap.size := own_some (show w2.ownsRow _ 72 6 (.slice A1 ls.length c1) ls.length (ls.flatMap lcells) from hR2.left.head) hL1
  obtain ⟨g, rfl, hgl⟩ := hA1
  unfold maxLen at hc1
  have hgb : w1.heap.size ≤ g := own_lt (show w2.ownsRow _ 72 6 (.slice (some ⟨g, 0, none⟩) ls.length c1) ls.length (ls.flatMap lcells) from hR2.left.head) g rfl
  have hsw : w1.heap.size ≤ w2.heap.size := hg2.size
  have hb2 : Below w2.heap.size w2 (w2.alloc (.cells #[.slice none 0 0, .slice none 0 0, .int .i64 0] 26)) := (Below.refl _ _).alloc (Nat.le_refl _) _
  have K3 := hid (Blk.new w2 #[.slice none 0 0, .slice none 0 0, .int .i64 0] 26)
  have KZa := hid ((KZ1.out.kept hg2 (by simp; omega)).below hb2 (by omega))
  have HRa := hid (hR2.below hb2)
  have Ra := hid (hr2.below hb2)
  have HBa := hid ((HB1.out.trans (below_own hg2 HB1.out.size (by omega))).alloc (by omega) (.cells #[.slice none 0 0, .slice none 0 0, .int .i64 0] 26))
  have hsa : w.heap.size ≤ (w2.alloc (.cells #[.slice none 0 0, .slice none 0 0, .int .i64 0] 26)).heap.size := HBa.out.size
  generalize hln : ls.length = ln at *
  generalize hkn : hs.length = n2 at *
  replace hln := hid hln
  replace hkn := hid hkn
  have hne2 : ∀ r ∈ treeRows ln (.slice (some ⟨g, 0, none⟩) ln c1) ls n2 (.slice A2 n2 c2) hs, r.v.ownBlock ≠ some w2.heap.size := fun r hr e => by have := ((hR2.1 r hr).lt _ e).2; omega
  replace hne2 := hid hne2
  clear hR2 hr2 hg2 hF hFH hH8 hlen C1 KZ1 HB1 hb2
  go_wp2_with (refine wpList_stB (P := Tryz.prog) rfl 26 _ _ rfl w2.heap.size [.slice (some ⟨g, 0, none⟩) ln c1, .slice A2 n2 c2, .int .i64 q] rfl rfl _ K3.out rfl (by kernel_rfl) (List.all_eq_true.1 rfl) ?_)
  intro w4 hk4 hg4 hs4
  generalize hbt : w2.heap.size = bt at *
  have KT4 := hid hk4
  have KZ4 := hid (KZa.out.kept hg4 (by simp; omega))
  have HR4 := hid (show Rows w4 w1.heap.size (treeRows ln (.slice (some ⟨g, 0, none⟩) ln c1) ls n2 (.slice A2 n2 c2) hs) from ⟨fun r hr => (HRa.out.1 r hr).kept hg4 (.inr (fun e => hne2.out r hr e)), HRa.out.2⟩)
  have R4 := hid (Ra.out.off hg4 (fun z e => by cases e; omega))
  have HB4 := hid (HBa.out.grown hg4 hsa (by intro z hz; cases hz; omega))
  clear hk4 hg4 hs4 K3 KZa HRa Ra HBa hsa hne2
  have hzl := zeroLgr
  go_wp2_with fail
  go_loopw [5] (fun iv wr => ∃ (k p : Nat) (cur : List LgrV), iv = .int .i64 k ∧ k ≤ ln ∧ p ≤ p2 + k ∧ Hid (cur.length = ln) ∧ Hid (∀ x ∈ cur, lgrSm 9 x.l) ∧ Hid (Rows wr w1.heap.size (treeRows ln (.slice (some ⟨g, 0, none⟩) ln c1) cur n2 (.slice A2 n2 c2) hs)) ∧ Hid (Blk wr bt [.slice (some ⟨g, 0, none⟩) ln c1, .slice A2 n2 c2, .int .i64 q]) ∧ Hid (Blk wr w.heap.size [.slice none 0 0, .slice none 0 0, .int .i64 0]) ∧ Hid (Rdr wr R p) ∧ Hid (Below w.heap.size w wr)) (fun iv _ => ln - (intOf iv).toNat)
  case atStart => exact ⟨0, p2, ls, rfl, by omega, by omega, hln, HF, HR4, KT4, KZ4, R4, HB4⟩
  case round =>
    clear HF HR4 KT4 KZ4 R4 HB4 hln
    obtain ⟨k, p, cur, rfl, hk, hp, HLn, HF, HR, KT, KZ, HD, HB⟩ := hrel
    have d0 := (KT.out.2 0 _ rfl).1
    by_cases hlt : k < ln
    · have C5 := hid (pick_c R p 3 wr HD.out (by omega) (by omega))
      go_wp2_with fail
      refine C5.out.mono ?_
      rintro e w5 ⟨k0, rfl, _, _, hr5, hg5⟩
      have HR5 := hid (HR.out.offR hg5 (by omega))
      have KT5 := hid (KT.out.kept hg5 (by simp; omega))
      have KZ5 := hid (KZ.out.kept hg5 (by simp; omega))
      have D5 := hid hr5
      have HB5 := hid (HB.out.trans (below_own hg5 HB.out.size (by omega)))
      clear hr5 hg5 C5 HR KT KZ HD HB d0
      rcases Nat.eq_zero_or_pos k0 with hk0 | hk0
      · subst hk0
        obtain ⟨a, x, b, rfl, hak⟩ := split_at cur k (by rw [HLn.out]; exact hlt)
        obtain ⟨pn, hpn, _⟩ := txt_mk x.l.nm
        have HX := hid (And.intro HR5.out hpn)
        have hmem : lsRow ln (.slice (some ⟨g, 0, none⟩) ln c1) (a ++ x :: b) ∈ treeRows ln (.slice (some ⟨g, 0, none⟩) ln c1) (a ++ x :: b) n2 (.slice A2 n2 c2) hs := by simp [treeRows]
        have HC := fun (j : Nat) (u : Value) (hj : j < 6) (hu : (lcells x)[j]? = some u) => cellOf HR5.out hmem hj hu
        rw [hak] at HC
        obtain ⟨n0, m0, _⟩ := HC 0 (.string pn) (by omega) (by unfold lcells; rw [hpn]; rfl)
        obtain ⟨n1, m1, _⟩ := HC 1 _ (by omega) rfl
        obtain ⟨n2', m2, _⟩ := HC 2 _ (by omega) rfl
        obtain ⟨n3, m3, _⟩ := HC 3 _ (by omega) rfl
        obtain ⟨n4, m4, _⟩ := HC 4 _ (by omega) rfl
        obtain ⟨n5, m5, _⟩ := HC 5 _ (by omega) rfl
        simp only [Nat.add_zero] at n0 m0
        have d0 := (KT5.out.2 0 _ rfl).1
        have hPR := plainRows HX.out.1 HX.out.2
        rw [hak] at hPR
        have HP := hid hPR
        have s0 : (0 : Int) ≤ (k : Int) := by omega
        have s1 : (k : Int) < (ln : Int) := by omega
        have s2 : ((k : Int)).toNat = k := by simp
        have HG9 := hid (grown2 HP.out.2 (grown_dr _ (some g)))
        have HRn := hid (HP.out.1.below (Below.refl _ _).drew)
        have KTn := hid (KT5.out.kept HG9.out (by simp; omega))
        have KZn := hid (KZ5.out.kept HG9.out (by simp; omega))
        have Dn := hid (D5.out.off HG9.out (fun z e => by cases e; omega))
        have HBn := hid (HB5.out.grown HG9.out HB5.out.size (by intro z hz; cases hz; omega))
        have hmem2 : lsRow ln (.slice (some ⟨g, 0, none⟩) ln c1) (a ++ plainV x :: b) ∈ treeRows ln (.slice (some ⟨g, 0, none⟩) ln c1) (a ++ plainV x :: b) n2 (.slice A2 n2 c2) hs := by simp [treeRows]
        have hn9 := (cellOf (j := 0) (u := .string pn) HRn.out hmem2 (by omega) (by unfold lcells plainV; rw [HX.out.2]; rfl)).1
        rw [hak, Nat.add_zero] at hn9
        replace hn9 := hid hn9
        have HLn' := hid (show (a ++ plainV x :: b).length = ln by have := HLn.out; simpa using this)
        have HF' := hid (sm_mid (y := plainV x) HF.out ⟨(HF.out x (by simp)).1, ⟨Nat.zero_le _, by simp [plainV]⟩, Nat.zero_le _, fun f hf => by simp [plainV] at hf⟩)
        clear HC hmem hmem2 hPR HR5 HLn HF HP
        generalize a ++ plainV x :: b = cur' at HRn HLn' HF'
        go_wp2_with fail
        refine wp_region_held_drew (S := fun w' : World => w'.cell? ⟨bt, 0, none⟩ = some (.slice (some ⟨g, 0, none⟩) ln c1) ∧ w'.cell? ⟨g, k * 6, none⟩ = some (.string pn)) (by kernel_rfl) ⟨d0, n0⟩ (fun hS => ?_)
        refine wpAnyH_take (i := 0) (oi := ?oi101) (v := ?v101) ?hi101 (by kernel_rfl) ?hf101 ?hr101 ?hQ101 (Or.inl ⟨?hw101, ?hy101⟩) (by assumption) ?rest101
        case hi101 => simp only [List.getElem?_toArray, List.getElem?_cons_succ, List.getElem?_cons_zero]; rfl
        case hf101 => kernel_rfl
        case hr101 => kernel_rfl
        case hw101 => rfl
        case hy101 => (intro w hSw; (try dsimp only at hSw); go_simp; all_goals (first | done | with_reducible rfl))
        case hQ101 => exact fun _ _ _ h => h
        simp only [Act.put, List.setIfInBounds_toArray, List.set_cons_zero, List.set_cons_succ]
        refine wpAnyH_take (i := 1) (oi := ?oi102) (v := ?v102) ?hi102 (by kernel_rfl) ?hf102 ?hr102 ?hQ102 (Or.inl ⟨?hw102, ?hy102⟩) (by assumption) ?rest102
        case hi102 => simp only [List.getElem?_toArray, List.getElem?_cons_succ, List.getElem?_cons_zero]; rfl
        case hf102 => kernel_rfl
        case hr102 => kernel_rfl
        case hw102 => rfl
        case hy102 => (intro w hSw; (try dsimp only at hSw); go_simp; all_goals (first | done | with_reducible rfl))
        case hQ102 => exact fun _ _ _ h => h
        simp only [Act.put, List.setIfInBounds_toArray, List.set_cons_zero, List.set_cons_succ]
        refine wpAnyH_take (i := 2) (oi := ?oi103) (v := ?v103) ?hi103 (by kernel_rfl) ?hf103 ?hr103 ?hQ103 (Or.inl ⟨?hw103, ?hy103⟩) (by assumption) ?rest103
        case hi103 => simp only [List.getElem?_toArray, List.getElem?_cons_succ, List.getElem?_cons_zero]; rfl
        case hf103 => kernel_rfl
        case hr103 => kernel_rfl
        case hw103 => rfl
        case hy103 => (intro w hSw; (try dsimp only at hSw); go_simp; all_goals (first | done | with_reducible rfl))
        case hQ103 => exact fun _ _ _ h => h
        simp only [Act.put, List.setIfInBounds_toArray, List.set_cons_zero, List.set_cons_succ]
        refine wpAnyH_take (i := 3) (oi := ?oi104) (v := ?v104) ?hi104 (by kernel_rfl) ?hf104 ?hr104 ?hQ104 (Or.inl ⟨?hw104, ?hy104⟩) (by assumption) ?rest104
        case hi104 => simp only [List.getElem?_toArray, List.getElem?_cons_succ, List.getElem?_cons_zero]; rfl
        case hf104 => kernel_rfl
        case hr104 => kernel_rfl
        case hw104 => rfl
        case hy104 => (intro w hSw; (try dsimp only at hSw); go_simp; all_goals (first | done | with_reducible rfl))
        case hQ104 => exact fun _ _ _ h => h
        simp only [Act.put, List.setIfInBounds_toArray, List.set_cons_zero, List.set_cons_succ]
        refine wpAnyH_take (i := 4) (oi := ?oi105) (v := ?v105) ?hi105 (by kernel_rfl) ?hf105 ?hr105 ?hQ105 (Or.inl ⟨?hw105, ?hy105⟩) (by assumption) ?rest105
        case hi105 => simp only [List.getElem?_toArray, List.getElem?_cons_succ, List.getElem?_cons_zero]; rfl
        case hf105 => kernel_rfl
        case hr105 => kernel_rfl
        case hw105 => rfl
        case hy105 => (intro w hSw; (try dsimp only at hSw); go_simp; all_goals (first | done | with_reducible rfl))
        case hQ105 => exact fun _ _ _ h => h
        simp only [Act.put, List.setIfInBounds_toArray, List.set_cons_zero, List.set_cons_succ]
        refine wpAnyH_take (i := 5) (oi := ?oi106) (v := ?v106) ?hi106 (by kernel_rfl) ?hf106 ?hr106 ?hQ106 (Or.inl ⟨?hw106, ?hy106⟩) (by assumption) ?rest106
        case hi106 => simp only [List.getElem?_toArray, List.getElem?_cons_succ, List.getElem?_cons_zero]; rfl
        case hf106 => kernel_rfl
        case hr106 => kernel_rfl
        case hw106 => rfl
        case hy106 => (intro w hSw; (try dsimp only at hSw); go_simp; all_goals (first | done | with_reducible rfl))
        case hQ106 => exact fun _ _ _ h => h
        simp only [Act.put, List.setIfInBounds_toArray, List.set_cons_zero, List.set_cons_succ]
        refine wpAnyH_take (i := 6) (oi := ?oi107) (v := ?v107) ?hi107 (by kernel_rfl) ?hf107 ?hr107 ?hQ107 (Or.inl ⟨?hw107, ?hy107⟩) (by assumption) ?rest107
        case hi107 => simp only [List.getElem?_toArray, List.getElem?_cons_succ, List.getElem?_cons_zero]; rfl
        case hf107 => kernel_rfl
        case hr107 => kernel_rfl
        case hw107 => rfl
        case hy107 => (intro w hSw; (try dsimp only at hSw); go_simp; all_goals (first | done | with_reducible rfl))
        case hQ107 => exact fun _ _ _ h => h
        simp only [Act.put, List.setIfInBounds_toArray, List.set_cons_zero, List.set_cons_succ]
        refine wpAnyH_take (i := 7) (oi := ?oi108) (v := ?v108) ?hi108 (by kernel_rfl) ?hf108 ?hr108 ?hQ108 (Or.inl ⟨?hw108, ?hy108⟩) (by assumption) ?rest108
        case hi108 => simp only [List.getElem?_toArray, List.getElem?_cons_succ, List.getElem?_cons_zero]; rfl
        case hf108 => kernel_rfl
        case hr108 => kernel_rfl
        case hw108 => rfl
        case hy108 => (intro w hSw; (try dsimp only at hSw); go_simp; all_goals (first | done | with_reducible rfl))
        case hQ108 => exact fun _ _ _ h => h
        simp only [Act.put, List.setIfInBounds_toArray, List.set_cons_zero, List.set_cons_succ]
        refine wpAnyH_take (i := 8) (oi := ?oi109) (v := ?v109) ?hi109 (by kernel_rfl) ?hf109 ?hr109 ?hQ109 (Or.inl ⟨?hw109, ?hy109⟩) (by assumption) ?rest109
        case hi109 => simp only [List.getElem?_toArray, List.getElem?_cons_succ, List.getElem?_cons_zero]; rfl
        case hf109 => kernel_rfl
        case hr109 => kernel_rfl
        case hw109 => rfl
        case hy109 => (intro w hSw; (try dsimp only at hSw); go_simp; all_goals (first | done | with_reducible rfl))
        case hQ109 => exact fun _ _ _ h => h
        simp only [Act.put, List.setIfInBounds_toArray, List.set_cons_zero, List.set_cons_succ]
        refine wpAnyH_take (i := 9) (oi := ?oi110) (v := ?v110) ?hi110 (by kernel_rfl) ?hf110 ?hr110 ?hQ110 (Or.inl ⟨?hw110, ?hy110⟩) (by assumption) ?rest110
        case hi110 => simp only [List.getElem?_toArray, List.getElem?_cons_succ, List.getElem?_cons_zero]; rfl
        case hf110 => kernel_rfl
        case hr110 => kernel_rfl
        case hw110 => rfl
        case hy110 => (intro w hSw; (try dsimp only at hSw); go_simp; all_goals (first | done | with_reducible rfl))
        case hQ110 => exact fun _ _ _ h => h
        simp only [Act.put, List.setIfInBounds_toArray, List.set_cons_zero, List.set_cons_succ]
        refine wpAnyH_take (i := 10) (oi := ?oi111) (v := ?v111) ?hi111 (by kernel_rfl) ?hf111 ?hr111 ?hQ111 (Or.inl ⟨?hw111, ?hy111⟩) (by assumption) ?rest111
        case hi111 => simp only [List.getElem?_toArray, List.getElem?_cons_succ, List.getElem?_cons_zero]; rfl
        case hf111 => kernel_rfl
        case hr111 => kernel_rfl
        case hw111 => rfl
        case hy111 => (intro w hSw; (try dsimp only at hSw); go_simp; all_goals (first | done | with_reducible rfl))
        case hQ111 => exact fun _ _ _ h => h
        simp only [Act.put, List.setIfInBounds_toArray, List.set_cons_zero, List.set_cons_succ]
        refine wpAnyH_ready (rs := [11]) (by kernel_rfl) (by simp) ?_
        refine AllReadyH.cons (o := ?oi112) ?hi112 (fun K hK => ?step112) AllReadyH.nil
        case hi112 => simp only [List.getElem?_toArray, List.getElem?_cons_succ, List.getElem?_cons_zero]; rfl
        rw [if_pos (by rfl)]
        go_simp
        refine hK.out _ _ ⟨(KTn.out.2 0 _ rfl).1, hn9.out⟩ (fun hS => ?_)
        refine wpAnyH_done (by kernel_rfl) ?_ _
        clear n0 n1 n2' n3 n4 n5 m0 m1 m2 m3 m4 m5 hS
        go_wp2_with fail
        go_roundw
        case rel => exact ⟨k + 1, p + 1, cur', by go_num, by omega, by omega, HLn', HF', HRn, KTn, KZn, Dn, HBn⟩
        case measure => simp [intOf]; omega
      · have q0 : ((k0 : Int) == 0) = false := by simp; omega
        go_wp2_with fail
        go_roundw
        case rel => exact ⟨k + 1, p + 1, cur, by go_num, by omega, by omega, HLn, HF, HR5, KT5, KZ5, D5, HB5⟩
        case measure => simp [intOf]; omega
    · have d1 := (KT.out.2 1 _ rfl).1
      have d2 := (KT.out.2 2 _ rfl).1
      go_wp2_with (refine wpList_stB (P := Tryz.prog) rfl 26 _ _ rfl w.heap.size [.slice (some ⟨g, 0, none⟩) ln c1, .slice A2 n2 c2, .int .i64 q] rfl rfl _ KZ.out rfl (by kernel_rfl) (List.all_eq_true.1 rfl) ?_)
      intro w9 hk9 hg9 hs9
      have g0 := (hk9.2 0 _ rfl).1
      have g1 := (hk9.2 1 _ rfl).1
      have g2 := (hk9.2 2 _ rfl).1
      have HR9 := hid (HR.out.offR hg9 (by omega))
      have HB9 := hid (HB.out.grown hg9 HB.out.size (by intro z hz; cases hz; omega))
      clear hk9 hg9 hs9 d0 d1 d2
      go_wp2_with fail
      refine bodyPost_ret (v := .agg #[.slice (some ⟨g, 0, none⟩) ln c1, .slice A2 n2 c2, .int .i64 q]) (by simp [results, Tryz.results33, go_sem, g0, g1, g2]) rfl ?_
      refine ⟨_, _, lsOf cur, hsOf hs, q, rfl, ⟨_, _, cur, hs, rfl, rfl, rfl, rfl⟩, ⟨?_, ⟨?_, ?_⟩, HH.out⟩, ?_, HB9.out⟩
      · rw [show (lsOf cur).length = cur.length by simp [lsOf], HLn.out]; exact hL1
      · rw [show (lsOf cur).length = cur.length by simp [lsOf], HLn.out]; exact hL8
      · intro l hl
        obtain ⟨x, hx, rfl⟩ := List.mem_map.1 hl
        exact HF.out x hx
      · rw [HLn.out, hkn.out]
        exact HR9.out.base (by omega)
end Go.Proofs.YtioegkcekbkblaaGreat
