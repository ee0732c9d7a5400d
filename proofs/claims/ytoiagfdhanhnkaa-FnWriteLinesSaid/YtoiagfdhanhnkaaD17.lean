/-
  DRAWS: files. By gen_d17.py.
-/
import Derived.Test.YtoiagfdhanhnkaaD13
import Derived.Test.YtoiagfdhanhnkaaF12
import Derived.Deep.CutRange
namespace Go.Proofs.Ytoiagfdhanhnkaa
open Go.RowKit Nm
set_option linter.unusedSimpArgs false
set_option linter.unusedVariables false

theorem Rows.offF {w w' : World} {lo R : Nat} {rs : List Row} (h : Rows w lo rs) (hg : w.grownBy w' (some R)) (hR : R < lo) : Rows w' lo rs := ⟨fun r hr => own_off (h.1 r hr) hg hR, h.2⟩
theorem Rows.newerF {w w' : World} {lo R : Nat} {rs rs' : List Row} (h : Rows w lo rs) (hg : w.grownBy w' (some R)) (hR : R < lo) (h2 : Rows w' w.heap.size rs') (hl : lo ≤ w.heap.size) : Rows w' lo (rs' ++ rs) :=
  ⟨fun r hr => by
    rcases List.mem_append.1 hr with hr | hr
    · exact own_base (h2.1 r hr) hl
    · exact (h.offF hg hR).1 r hr, List.pairwise_append.2 ⟨h2.2, h.2, fun a ha b hb => (row_apart (h.1 b hb) (h2.1 a ha)).symm⟩⟩
theorem top_putD {w : World} {lo g n c : Nat} {T : TypeId} {u0 u : Value} {hs : List Value} {rs : List Row} (h : Rows w lo ((⟨T, 1, n, .slice (some ⟨g, 0, none⟩) n c, u0 :: hs⟩ : Row) :: rs)) : Rows (w.setCell ⟨g, 0, none⟩ u) lo ((⟨T, 1, n, .slice (some ⟨g, 0, none⟩) n c, u :: hs⟩ : Row) :: rs) := by
  have htop : w.ownsRow lo T 1 (.slice (some ⟨g, 0, none⟩) n c) n (u0 :: hs) := h.head
  have hst := htop.stored 0 u
  exact Rows.write (pre := []) (r := ⟨T, 1, n, .slice (some ⟨g, 0, none⟩) n c, u0 :: hs⟩) h hst.2 hst.1
def listsSm (L : StrssD) : Prop := (1 ≤ L.length ∧ L.length ≤ 5) ∧ ∀ l ∈ L, l.length ≤ 13 ∧ ∀ t ∈ l, t.length ≤ 45
def filSm (d : Fil) : Prop := listsSm d.li ∧ (-1 ≤ d.mo ∧ d.mo ≤ 200) ∧ (-1 ≤ d.ke ∧ d.ke ≤ 10)
theorem sm_ok {d : Fil} (h : filOk d = true) : filSm d := by
  have h1 := fil_parts h
  have h2 := fil_small h
  exact ⟨⟨⟨h1.2.2.2.2.2.1, by omega⟩, fun l hl => ⟨by have := h2.2 l hl; omega, fun t ht => by have := (lines_len (fil_lines h l hl)).2 t ht; omega⟩⟩, by omega, by omega⟩
theorem first_ok {mo ke : Int} (h1 : 1 ≤ mo) (h2 : mo ≤ 120) (h3 : 1 ≤ ke) (h4 : ke ≤ 3) : filOk ⟨mo, ke, [[]]⟩ = true := by
  refine filOk_of (d := ⟨mo, ke, [[]]⟩) (items_good fun j hj => ?_) h1 h2 h3 h4 (by simp) (by simp; omega)
  have : j = 0 := by simp at hj; omega
  subst this
  exact itemOk_nil mo
theorem sm_fit {d : Fil} (h : filSm d) : FilFit d := by
  refine ⟨by have := h.1.1; unfold maxTxt; omega, fun l hl => ?_⟩
  have h2 := h.1.2 l hl
  exact ⟨by unfold maxTxt; omega, fun t ht => by have := h2.2 t ht; unfold maxTxt; omega⟩
theorem lists_set {l0 m : TxtL} {L : StrssD} (h : listsSm (l0 :: L)) (hm : m.length ≤ 13) (ht : ∀ t ∈ m, t.length ≤ 45) : listsSm (m :: L) :=
  ⟨by simpa using h.1, fun l hl => by
    rcases List.mem_cons.1 hl with rfl | hl
    · exact ⟨hm, ht⟩
    · exact h.2 l (by simp [hl])⟩
theorem lists_snoc {L : StrssD} (h : listsSm L) (h4 : L.length ≤ 4) : listsSm (L ++ [[]]) :=
  ⟨by simp; omega, fun l hl => by
    rcases List.mem_append.1 hl with hl | hl
    · exact h.2 l hl
    · rw [List.mem_singleton.1 hl]; exact ⟨by simp, by simp⟩⟩
theorem perm5 (A I V F Z : List Row) : (A ++ (I ++ (V ++ (F ++ Z)))).Perm (F ++ (Z ++ (A ++ (V ++ I)))) := by
  have e1 : A ++ (I ++ (V ++ (F ++ Z))) = (A ++ (I ++ V)) ++ (F ++ Z) := by simp
  have e2 : F ++ (Z ++ (A ++ (I ++ V))) = (F ++ Z) ++ (A ++ (I ++ V)) := by simp
  rw [e1]
  exact (List.perm_append_comm).trans (by rw [← e2]; exact List.Perm.append_left F (List.Perm.append_left Z (List.Perm.append_left A List.perm_append_comm)))
theorem perm4 (V F Z N : List Row) : (V ++ (F ++ (Z ++ N))).Perm (N ++ (V ++ (F ++ Z))) := by
  have e1 : V ++ (F ++ (Z ++ N)) = (V ++ (F ++ Z)) ++ N := by simp
  rw [e1]; exact List.perm_append_comm
/-- the first list of valid files, in memory -/
theorem fil_first {w : World} {lo : Nat} {rs : List Row} {d : Fil} {mo ke : Int} {A : Option Addr} {n c : Nat} (h : FilR rs (.agg #[.int .i64 mo, .int .i64 ke, .slice A n c]) d) (hr : Rows w lo rs) (hl : 1 ≤ d.li.length) :
    ∃ g l0 lt A6 c6 es, A = some ⟨g, 0, none⟩ ∧ d.li = l0 :: lt ∧ rs = nestRows 35 (.slice (some ⟨g, 0, none⟩) n c) ((.slice A6 l0.length c6, [⟨9, 1, l0.length, .slice A6 l0.length c6, l0.map txt⟩]) :: es) ∧ NE StrsR es lt ∧ es.length + 1 = n := by
  obtain ⟨uu, heq, hs⟩ := h
  have heq' : uu = .slice A n c := by simp at heq; exact heq.2.2.symm
  subst heq'
  obtain ⟨A9, c9, e9, _, _⟩ := (NestR.own_ hs hr).form
  have hn : n = d.li.length := by injection e9
  obtain ⟨es0, rfl, hne⟩ := hs.ne
  cases hd : d.li with
  | nil => rw [hd] at hl; simp at hl
  | cons l0 lt =>
    rw [hd] at hne hn
    obtain ⟨u6, rs6, es6, rfl, hs6, hne6⟩ := hne.cons_inv
    obtain ⟨A6, c6, hu6, _, _⟩ := (Sl.of_own (hs6.own (nest_sub hr (List.mem_cons_self ..)))).form
    have hu6' : u6 = .slice A6 l0.length c6 := hu6
    subst hu6'
    have hs6' : rs6 = [⟨9, 1, l0.length, .slice A6 l0.length c6, l0.map txt⟩] := hs6
    subst hs6'
    have hn6 : es6.length + 1 = n := by have h8 := hne6.1; simp at hn; omega
    obtain ⟨g, rfl, _⟩ := own_some (show World.ownsRow w lo 35 1 (.slice A n c) n _ by have h9 := nest_top hr; rw [List.length_cons, hn6] at h9; exact h9) (by omega)
    exact ⟨g, l0, lt, A6, c6, es6, rfl, rfl, rfl, hne6, hn6⟩
/-- drawn files -/
def FilsPost (R p dp : Nat) (w : World) (e : Ending) (w' : World) : Prop :=
  ∃ (v : Value) (rs : List Row) (d : Fil) (p' : Nat), e = .returned v ∧ FilR rs v d ∧ filSm d ∧ Rows w' w.heap.size rs ∧ p' ≤ p + dp ∧ Rdr w' R p' ∧ w.grownBy w' (some R)

set_option maxHeartbeats 16000000 in
set_option maxRecDepth 100000 in
theorem someFiles_c (R p : Nat) (w : World) (hr : Rdr w R p) (hp : p ≤ 400000) :
    Calls Try.prog 60 #[.pointer (some ⟨R, 0, none⟩)] w (FilsPost R p 60 w) := by
  have hlt := hr.lt
  have HZ := hid (show Rows (w.alloc (.cells #[.int .i64 0, .int .i64 0, .slice none 0 0] 26)) w.heap.size [bxRow 26 3 w.heap.size [.int .i64 0, .int .i64 0, .slice none 0 0]] from Rows.box w #[.int .i64 0, .int .i64 0, .slice none 0 0] 26 3 rfl)
  have C := hid (one_lit R p 6 [30, 20, 10, 120, 1, 60] (w.alloc (.cells #[.int .i64 0, .int .i64 0, .slice none 0 0] 26)) (hr.below ((Below.refl _ _).alloc (Nat.le_refl _) _)) (by omega) rfl (by omega) (by omega) 1 120 (by decide))
  simp only [World.size_alloc] at C
  have G0 := hid (show w.grownBy (w.alloc (.cells #[.int .i64 0, .int .i64 0, .slice none 0 0] 26)) (some R) from World.grownBy_alloc w _ _)
  clear hr
  go_enter Try.func60, Try.ntmps60
  go_wp2_with fail
  refine C.out.mono ?_
  rintro e w1 ⟨mo, ⟨hm0, hm1⟩, rfl, hr1, hg1⟩
  have G1 := hid (grown_tr G0.out hg1)
  have Z1 := hid (HZ.out.offF hg1 hlt)
  have hs1 : w.heap.size < w1.heap.size := by have := hg1.size; simp at this; omega
  have C2 := hid (one_lit R (p + 1) 3 [1, 2, 3] w1 hr1 (by omega) rfl (by omega) (by omega) 1 3 (by decide))
  clear hr1 hg1 C HZ G0
  go_wp2_with fail
  refine C2.out.mono ?_
  rintro e w2 ⟨ke, ⟨hk0, hk1⟩, rfl, hr2, hg2⟩
  have G2 := grown_tr G1.out hg2
  have Z2 := Z1.out.offF hg2 hlt
  have hs2 : w.heap.size < w2.heap.size := Nat.lt_of_lt_of_le hs1 hg2.size
  have H3 := (((Z2.lit (Nat.le_of_lt hs2) #[] 9 0 rfl (by omega)).lit (by simp; omega) #[.slice (some ⟨w2.heap.size, 0, none⟩) 0 0] 35 1 rfl (by omega)).bx (by simp; omega) #[.int .i64 mo, .int .i64 ke, .slice (some ⟨w2.heap.size + 1, 0, none⟩) 1 1] 26 3 rfl)
  simp only [World.size_alloc] at H3
  have B3 : Below w2.heap.size w2 (((w2.alloc (.cells #[] 9)).alloc (.cells #[.slice (some ⟨w2.heap.size, 0, none⟩) 0 0] 35)).alloc (.cells #[.int .i64 mo, .int .i64 ke, .slice (some ⟨w2.heap.size + 1, 0, none⟩) 1 1] 26)) := (((Below.refl w2.heap.size w2).alloc (Nat.le_refl _) _).alloc (by simp) _).alloc (by simp; omega) _
  have G3 := hid (grown_new G2 B3)
  have D3 := hr2.below B3
  have HR3 := hid ((show Rows _ w.heap.size ([bxRow 26 3 (w2.heap.size + 1 + 1) [.int .i64 mo, .int .i64 ke, .slice (some ⟨w2.heap.size + 1, 0, none⟩) 1 1]] ++ (nestRows 35 (.slice (some ⟨w2.heap.size + 1, 0, none⟩) 1 1) [(.slice (some ⟨w2.heap.size, 0, none⟩) 0 0, [⟨9, 1, 0, .slice (some ⟨w2.heap.size, 0, none⟩) 0 0, []⟩])] ++ [bxRow 26 3 w.heap.size [.int .i64 0, .int .i64 0, .slice none 0 0]])) from H3).perm (List.Perm.append_left _ List.perm_append_comm))
  have hs3 : w.heap.size < (((w2.alloc (.cells #[] 9)).alloc (.cells #[.slice (some ⟨w2.heap.size, 0, none⟩) 0 0] 35)).alloc (.cells #[.int .i64 mo, .int .i64 ke, .slice (some ⟨w2.heap.size + 1, 0, none⟩) 1 1] 26)).heap.size := by simp; omega
  have C4 := hid (one_lit R (p + 1 + 1) 6 [3, 5, 2, 8, 0, 12] _ D3 (by omega) rfl (by omega) (by omega) 0 12 (by decide))
  simp only [World.size_alloc] at C4
  have HRd3 := hid D3
  have hbb : w.heap.size < w2.heap.size + 1 + 1 := by omega
  have HE0 := hid (show FilR (nestRows 35 (.slice (some ⟨w2.heap.size + 1, 0, none⟩) 1 1) [(.slice (some ⟨w2.heap.size, 0, none⟩) 0 0, [⟨9, 1, 0, .slice (some ⟨w2.heap.size, 0, none⟩) 0 0, []⟩])]) (.agg #[.int .i64 mo, .int .i64 ke, .slice (some ⟨w2.heap.size + 1, 0, none⟩) 1 1]) ⟨mo, ke, [[]]⟩ from ⟨_, rfl, (NE.nil.snoc (l := []) rfl).toR⟩)
  have HOK := hid (first_ok hm0 hm1 hk0 hk1)
  clear hr2 hg2 C2 G1 Z1 G2 Z2 hs1 H3 B3 D3
  go_wp2_with fail
  generalize hbo : w2.heap.size + 1 + 1 = bo at *
  generalize nestRows 35 _ _ = rs0 at HR3 HE0
  generalize (((w2.alloc (.cells #[] 9)).alloc (.cells #[.slice (some ⟨w2.heap.size, 0, none⟩) 0 0] 35)).alloc (.cells #[.int .i64 mo, .int .i64 ke, .slice (some ⟨w2.heap.size + 1, 0, none⟩) 1 1] 26)) = w3 at *
  generalize hg0 : w2.heap.size + 1 = g0 at *
  generalize hrb : w.heap.size = rb at *
  replace hrb := hid hrb
  clear hbo hg0 hs2
  refine C4.out.mono ?_
  rintro e w4 ⟨nn, ⟨hn0, hn1⟩, rfl, hr4, hg4⟩
  have G4 := hid (grown_tr G3.out hg4)
  have R4 := hid hr4
  have HR4 := hid (HR3.out.offF hg4 hlt)
  have hs4 : rb < w4.heap.size := Nat.lt_of_lt_of_le hs3 hg4.size
  clear hr4 hg4 C4 HR3 G3 HRd3 hs3
  go_wp2_with fail
  go_loopw [4, 5] (fun nv sv wr => ∃ (q : Int) (f : Fil) (A2 : Option Addr) (n2 c2 : Nat) (rs : List Row) (p' : Nat), nv = .int .i64 q ∧ 0 ≤ q ∧ q ≤ 12 ∧ (p' : Int) + q ≤ p + 15 ∧ filOk f = true ∧ Hid (FilR rs (.agg #[.int .i64 f.mo, .int .i64 f.ke, .slice A2 n2 c2]) f) ∧ Hid (Rows wr rb ([bxRow 26 3 bo [.int .i64 f.mo, .int .i64 f.ke, .slice A2 n2 c2]] ++ ([bxRow 26 3 rb [.int .i64 0, .int .i64 0, .slice none 0 0]] ++ rs))) ∧ Hid (Rdr wr R p') ∧ Hid (w.grownBy wr (some R)) ∧ rb < wr.heap.size) (fun nv _ _ => (intOf nv).toNat)
  case atStart => exact ⟨nn, ⟨mo, ke, [[]]⟩, _, _, _, rs0, p + 1 + 1 + 1, rfl, hn0, hn1, by push_cast; omega, HOK.out, HE0.out, HR4.out, R4.out, G4.out, hs4⟩
  case round =>
    clear HR4 HE0 R4 G4 HOK
    rename World => wr
    obtain ⟨q, f, A2, n2, c2, rs, p', rfl, hq0, hq1, hp', hfo, HE, HR, HRd, HG, hsz⟩ := hrel
    obtain ⟨fm, fk, fl⟩ := f
    have HE' : Hid (FilR rs (.agg #[.int .i64 fm, .int .i64 fk, .slice A2 n2 c2]) ⟨fm, fk, fl⟩) := HE
    have HR' : Hid (Rows wr rb ([bxRow 26 3 bo [.int .i64 fm, .int .i64 fk, .slice A2 n2 c2]] ++ ([bxRow 26 3 rb [.int .i64 0, .int .i64 0, .slice none 0 0]] ++ rs))) := HR
    have HFO := hid hfo
    clear HE HR hfo
    by_cases hq : 0 < q
    · have hqb : decide (0 < q) = true := decide_eq_true hq
      have C5 := hid (fun (W : World) (hr : Rdr W R p') => aLine_c R p' W hr (by omega))
      have C6 := hid (fun (x : ByteArray) (hx : x.size ≤ 1048576) (W : World) (v : Value) (h : FilIn W W.heap.size v ⟨fm, fk, fl⟩) => specWrite_c x hx h (Nat.le_refl _) HFO.out)
      have HEF := hid (fil_fit HFO.out)
      go_wp2_with fail
      go_cut [5] from 18 to 28 (fun s5 wc => ∃ (x : ByteArray) (b5 : Nat) (A5 : Option Addr) (n5 c5 : Nat) (rs5 : List Row) (p2 : Nat), s5 = .pointer (some ⟨b5, 0, none⟩) ∧ x.size ≤ 45 ∧ p2 ≤ p' + 1 ∧ Hid (FilR rs5 (.agg #[.int .i64 fm, .int .i64 fk, .slice A5 n5 c5]) (writeF ⟨fm, fk, fl⟩ x.data.toList)) ∧ Hid (Rows wc rb ([bxRow 26 3 b5 [.int .i64 fm, .int .i64 fk, .slice A5 n5 c5]] ++ (rs5 ++ ([bxRow 26 3 bo [.int .i64 fm, .int .i64 fk, .slice A2 n2 c2]] ++ ([bxRow 26 3 rb [.int .i64 0, .int .i64 0, .slice none 0 0]] ++ rs))))) ∧ Hid (Rdr wc R p2) ∧ Hid (w.grownBy wc (some R)) ∧ rb < wc.heap.size)
      case first =>
        have HRc := HR'
        have f0 := (Rows.bc HRc.out.left 0 rfl).1
        have f1 := (Rows.bc HRc.out.left 1 rfl).1
        have f2 := (Rows.bc HRc.out.left 2 rfl).1
        refine wp_region_held_drew (S := (fun w' : World => w'.cell? ⟨bo, 0, none⟩ = some (.int .i64 fm) ∧ w'.cell? ⟨bo, 1, none⟩ = some (.int .i64 fk) ∧ w'.cell? ⟨bo, 2, none⟩ = some (.slice A2 n2 c2))) (by kernel_rfl) ⟨f0, f1, f2⟩ (fun hS => ?_)
        refine wpAnyH_take (i := 0) (oi := ?oi101) (v := ?v101) ?hi101 (by kernel_rfl) ?hf101 ?hr101 ?hQ101 (Or.inl ⟨?hw101, ?hy101⟩) (by assumption) ?rest101
        case hi101 => simp only [List.getElem?_toArray, List.getElem?_cons_succ, List.getElem?_cons_zero]; rfl
        case hf101 => kernel_rfl
        case hr101 => kernel_rfl
        case hw101 => rfl
        case hy101 => (intro w hSw; (try dsimp only at hSw); go_simp; all_goals (first | done | with_reducible rfl))
        case hQ101 => exact fun _ _ _ h => h
        simp only [Act.put, List.setIfInBounds_toArray, List.set_cons_zero, List.set_cons_succ]
        refine wpAnyH_take (i := 1) (oi := ?oi102) (v := ?v102) ?hi102 (by kernel_rfl) ?hf102 ?hr102 ?hQ102 (Or.inl ⟨?hw102, ?hy102⟩) (by assumption) ?rest102
        case hi102 => simp only [List.getElem?_toArray, List.getElem?_cons_succ, List.getElem?_cons_zero]; rfl
        case hf102 => kernel_rfl
        case hr102 => kernel_rfl
        case hw102 => rfl
        case hy102 => (intro w hSw; (try dsimp only at hSw); go_simp; all_goals (first | done | with_reducible rfl))
        case hQ102 => exact fun _ _ _ h => h
        simp only [Act.put, List.setIfInBounds_toArray, List.set_cons_zero, List.set_cons_succ]
        clear f0 f1 f2
        replace HRc := hid HRc.out.dr
        have HDc := hid (HRd.out.below (Below.refl _ _).drew)
        have HGc := hid (grown_drN HG.out 1)
        have hszc : rb < wr.drew.heap.size := hsz
        replace HGc := hid (show w.grownBy wr.drew (some R) from HGc.out)
        generalize wr.drew = wx at *
        have f0 := (Rows.bc HRc.out.left 0 rfl).1
        have f1 := (Rows.bc HRc.out.left 1 rfl).1
        have f2 := (Rows.bc HRc.out.left 2 rfl).1
        refine wpAnyH_ready (rs := [2, 4]) (by kernel_rfl) (by simp) ?_
        refine AllReadyH.cons (o := ?oi103) ?hi103 (fun K hK => ?stepA103) (AllReadyH.cons (o := ?oj103) ?hj103 (fun K hK => ?stepB103) AllReadyH.nil)
        case hi103 => simp only [List.getElem?_toArray, List.getElem?_cons_succ, List.getElem?_cons_zero]; rfl
        case hj103 => simp only [List.getElem?_toArray, List.getElem?_cons_succ, List.getElem?_cons_zero]; rfl
        all_goals rw [if_pos (by rfl)]
        all_goals go_simp
        · go_at_call 64
          refine (C5.out _ HDc.out).mono ?_
          rintro e wa ⟨x, p2, hx, rfl, hp2, hr, hg⟩
          replace HRc := hid (HRc.out.offF hg hlt)
          replace HGc := hid (grown_tr HGc.out hg)
          replace HDc := hid hr
          replace hszc := Nat.lt_of_lt_of_le hszc hg.size
          clear hr hg f0 f1 f2
          have f0 := (Rows.bc HRc.out.left 0 rfl).1
          have f1 := (Rows.bc HRc.out.left 1 rfl).1
          have f2 := (Rows.bc HRc.out.left 2 rfl).1
          refine hK.out _ _ ⟨f0, f1, f2⟩ (fun hS9 => ?_)
          refine wpAnyH_ready (rs := [3, 4]) (by kernel_rfl) (by simp) ?_
          refine AllReadyH.cons (o := ?oi104) ?hi104 (fun K hK => ?stepA104) (AllReadyH.cons (o := ?oj104) ?hj104 (fun K hK => ?stepB104) AllReadyH.nil)
          case hi104 => simp only [List.getElem?_toArray, List.getElem?_cons_succ, List.getElem?_cons_zero]; rfl
          case hj104 => simp only [List.getElem?_toArray, List.getElem?_cons_succ, List.getElem?_cons_zero]; rfl
          all_goals rw [if_pos (by rfl)]
          all_goals go_simp
          · go_at_call 54
            refine (C6.out x (by omega) _ _ (FilR.at_ HE'.out HRc.out.right.right HEF.out)).mono ?_
            rintro e wb ⟨u5, rs5, rfl, ⟨uu, hu5, hs5⟩, hr5, hb5⟩
            have hu5' : u5 = .agg #[.int .i64 fm, .int .i64 fk, uu] := hu5
            subst hu5'
            obtain ⟨A5, n5, c5, rfl⟩ := hs5.form hr5
            replace HRc := hid (HRc.out.newer hb5 hr5 (Nat.le_of_lt hszc))
            replace HDc := hid (HDc.out.below hb5)
            replace HGc := hid (grown_new HGc.out hb5)
            replace hszc := Nat.lt_of_lt_of_le hszc hb5.size
            have HS5 := hid hs5
            clear hu5 hs5 hr5 hb5 f0 f1 f2
            have f0 := (Rows.bc HRc.out.right.left 0 rfl).1
            have f1 := (Rows.bc HRc.out.right.left 1 rfl).1
            have f2 := (Rows.bc HRc.out.right.left 2 rfl).1
            refine hK.out _ _ ⟨f0, f1, f2⟩ (fun hS9 => ?_)
            refine wpAnyH_ready (rs := [4]) (by kernel_rfl) (by simp) ?_
            refine AllReadyH.cons (o := ?oi105) ?hi105 (fun K hK => ?step105) AllReadyH.nil
            case hi105 => simp only [List.getElem?_toArray, List.getElem?_cons_succ, List.getElem?_cons_zero]; rfl
            rw [if_pos (by rfl)]
            go_simp
            have hne : wb.heap.size ≠ bo := Nat.ne_of_gt (Rows.bc HRc.out.right.left 0 rfl).2
            have hbl : rb < wb.heap.size := hszc
            replace HRc := hid (HRc.out.bx (Nat.le_of_lt hszc) #[.int .i64 0, .int .i64 0, .slice none 0 0] 26 3 rfl)
            have hba : Below wb.heap.size wb (wb.alloc (.cells #[.int .i64 0, .int .i64 0, .slice none 0 0] 26)) := (Below.refl _ _).alloc (Nat.le_refl _) _
            replace HDc := hid (HDc.out.below hba)
            replace HGc := hid (grown_new HGc.out hba)
            replace hszc := Nat.lt_of_lt_of_le hszc hba.size
            clear hba f0 f1 f2
            have f0 := (Rows.bc HRc.out.right.right.left 0 rfl).1
            have f1 := (Rows.bc HRc.out.right.right.left 1 rfl).1
            have f2 := (Rows.bc HRc.out.right.right.left 2 rfl).1
            refine hK.out _ _ ⟨f0, f1, f2⟩ (fun hS9 => ?_)
            generalize wb.alloc (.cells #[.int .i64 0, .int .i64 0, .slice none 0 0] 26) = wn at *
            generalize wb.heap.size = b5 at *
            obtain ⟨z0, y0, _⟩ := Rows.bcell2 (pre := []) (q := 0) HRc.out rfl
            obtain ⟨z1, y1, _⟩ := Rows.bcell2 (pre := []) (q := 1) HRc.out rfl
            obtain ⟨z2, y2, _⟩ := Rows.bcell2 (pre := []) (q := 2) HRc.out rfl
            refine wpAnyH_ready (rs := [5]) (by kernel_rfl) (by simp) ?_
            refine AllReadyH.cons (o := ?oi106) ?hi106 (fun K hK => ?step106) AllReadyH.nil
            case hi106 => simp only [List.getElem?_toArray, List.getElem?_cons_succ, List.getElem?_cons_zero]; rfl
            rw [if_pos (by rfl)]
            go_simp
            have far : ∀ (W : World) (q q' : Nat) (u u' : Value), W.cell? ⟨bo, q, none⟩ = some u → (W.setCell ⟨b5, q', none⟩ u').cell? ⟨bo, q, none⟩ = some u := fun W q q' u u' h => (World.cell?_setCell_far _ _ _ _ hne).trans h
            refine hK.out _ _ ⟨far _ _ _ _ _ (far _ _ _ _ _ (far _ _ _ _ _ f0)), far _ _ _ _ _ (far _ _ _ _ _ (far _ _ _ _ _ f1)), far _ _ _ _ _ (far _ _ _ _ _ (far _ _ _ _ _ f2))⟩ (fun hS9 => ?_)
            refine wpAnyH_done (by kernel_rfl) ?_ _
            clear far hS hS9 f0 f1 f2 z0 z1 z2 y0 y1 y2
            have Y0 := Rows.boxset (pre := []) (j := 0) (u := .int .i64 fm) HRc.out
            have Y1 := Rows.boxset (pre := []) (j := 1) (u := .int .i64 fk) Y0
            have Y2 := hid (Rows.boxset (pre := []) (j := 2) (u := .slice A5 n5 c5) Y1)
            clear Y0 Y1
            have hRb : R < b5 := Nat.lt_trans hlt hbl
            have hwb : w.heap.size ≤ b5 := by rw [hrb.out]; omega
            go_wp2_with fail
            go_meet
            case rel => exact ⟨x, b5, A5, n5, c5, rs5, p2, rfl, hx, hp2, ⟨_, rfl, HS5.out⟩, Y2.out, ((HDc.out.set hRb).set hRb).set hRb, grown_at (grown_at (grown_at HGc.out hwb) hwb) hwb, (by simpa using hszc)⟩
          · have hne : wa.heap.size ≠ bo := Nat.ne_of_gt (Rows.bc HRc.out.left 0 rfl).2
            have hbl : rb < wa.heap.size := hszc
            replace HRc := hid (HRc.out.bx (Nat.le_of_lt hszc) #[.int .i64 0, .int .i64 0, .slice none 0 0] 26 3 rfl)
            have hba : Below wa.heap.size wa (wa.alloc (.cells #[.int .i64 0, .int .i64 0, .slice none 0 0] 26)) := (Below.refl _ _).alloc (Nat.le_refl _) _
            replace HDc := hid (HDc.out.below hba)
            replace HGc := hid (grown_new HGc.out hba)
            replace hszc := Nat.lt_of_lt_of_le hszc hba.size
            clear hba f0 f1 f2
            have f0 := (Rows.bc HRc.out.right.left 0 rfl).1
            have f1 := (Rows.bc HRc.out.right.left 1 rfl).1
            have f2 := (Rows.bc HRc.out.right.left 2 rfl).1
            refine hK.out _ _ ⟨f0, f1, f2⟩ (fun hS9 => ?_)
            generalize wa.alloc (.cells #[.int .i64 0, .int .i64 0, .slice none 0 0] 26) = wn at *
            generalize wa.heap.size = b5 at *
            refine wpAnyH_ready (rs := [3]) (by kernel_rfl) (by simp) ?_
            refine AllReadyH.cons (o := ?oi107) ?hi107 (fun K hK => ?step107) AllReadyH.nil
            case hi107 => simp only [List.getElem?_toArray, List.getElem?_cons_succ, List.getElem?_cons_zero]; rfl
            rw [if_pos (by rfl)]
            go_simp
            go_at_call 54
            refine (C6.out x (by omega) _ _ (FilR.at_ HE'.out HRc.out.right.right.right HEF.out)).mono ?_
            rintro e wb ⟨u5, rs5, rfl, ⟨uu, hu5, hs5⟩, hr5, hb5⟩
            have hu5' : u5 = .agg #[.int .i64 fm, .int .i64 fk, uu] := hu5
            subst hu5'
            obtain ⟨A5, n5, c5, rfl⟩ := hs5.form hr5
            replace HRc := hid ((HRc.out.newer hb5 hr5 (Nat.le_of_lt hszc)).perm (List.perm_append_comm_assoc _ _ _))
            replace HDc := hid (HDc.out.below hb5)
            replace HGc := hid (grown_new HGc.out hb5)
            replace hszc := Nat.lt_of_lt_of_le hszc hb5.size
            have HS5 := hid hs5
            clear hu5 hs5 hr5 hb5 f0 f1 f2
            have f0 := (Rows.bc HRc.out.right.right.left 0 rfl).1
            have f1 := (Rows.bc HRc.out.right.right.left 1 rfl).1
            have f2 := (Rows.bc HRc.out.right.right.left 2 rfl).1
            refine hK.out _ _ ⟨f0, f1, f2⟩ (fun hS9 => ?_)
            obtain ⟨z0, y0, _⟩ := Rows.bcell2 (pre := []) (q := 0) HRc.out rfl
            obtain ⟨z1, y1, _⟩ := Rows.bcell2 (pre := []) (q := 1) HRc.out rfl
            obtain ⟨z2, y2, _⟩ := Rows.bcell2 (pre := []) (q := 2) HRc.out rfl
            refine wpAnyH_ready (rs := [5]) (by kernel_rfl) (by simp) ?_
            refine AllReadyH.cons (o := ?oi108) ?hi108 (fun K hK => ?step108) AllReadyH.nil
            case hi108 => simp only [List.getElem?_toArray, List.getElem?_cons_succ, List.getElem?_cons_zero]; rfl
            rw [if_pos (by rfl)]
            go_simp
            have far : ∀ (W : World) (q q' : Nat) (u u' : Value), W.cell? ⟨bo, q, none⟩ = some u → (W.setCell ⟨b5, q', none⟩ u').cell? ⟨bo, q, none⟩ = some u := fun W q q' u u' h => (World.cell?_setCell_far _ _ _ _ hne).trans h
            refine hK.out _ _ ⟨far _ _ _ _ _ (far _ _ _ _ _ (far _ _ _ _ _ f0)), far _ _ _ _ _ (far _ _ _ _ _ (far _ _ _ _ _ f1)), far _ _ _ _ _ (far _ _ _ _ _ (far _ _ _ _ _ f2))⟩ (fun hS9 => ?_)
            refine wpAnyH_done (by kernel_rfl) ?_ _
            clear far hS hS9 f0 f1 f2 z0 z1 z2 y0 y1 y2
            have Y0 := Rows.boxset (pre := []) (j := 0) (u := .int .i64 fm) HRc.out
            have Y1 := Rows.boxset (pre := []) (j := 1) (u := .int .i64 fk) Y0
            have Y2 := hid (Rows.boxset (pre := []) (j := 2) (u := .slice A5 n5 c5) Y1)
            clear Y0 Y1
            have hRb : R < b5 := Nat.lt_trans hlt hbl
            have hwb : w.heap.size ≤ b5 := by rw [hrb.out]; omega
            go_wp2_with fail
            go_meet
            case rel => exact ⟨x, b5, A5, n5, c5, rs5, p2, rfl, hx, hp2, ⟨_, rfl, HS5.out⟩, Y2.out, ((HDc.out.set hRb).set hRb).set hRb, grown_at (grown_at (grown_at HGc.out hwb) hwb) hwb, (by simpa using hszc)⟩
        · have hne : wx.heap.size ≠ bo := Nat.ne_of_gt (Rows.bc HRc.out.left 0 rfl).2
          have hbl : rb < wx.heap.size := hszc
          replace HRc := hid (HRc.out.bx (Nat.le_of_lt hszc) #[.int .i64 0, .int .i64 0, .slice none 0 0] 26 3 rfl)
          have hba : Below wx.heap.size wx (wx.alloc (.cells #[.int .i64 0, .int .i64 0, .slice none 0 0] 26)) := (Below.refl _ _).alloc (Nat.le_refl _) _
          replace HDc := hid (HDc.out.below hba)
          replace HGc := hid (grown_new HGc.out hba)
          replace hszc := Nat.lt_of_lt_of_le hszc hba.size
          clear hba f0 f1 f2
          have f0 := (Rows.bc HRc.out.right.left 0 rfl).1
          have f1 := (Rows.bc HRc.out.right.left 1 rfl).1
          have f2 := (Rows.bc HRc.out.right.left 2 rfl).1
          refine hK.out _ _ ⟨f0, f1, f2⟩ (fun hS9 => ?_)
          generalize wx.alloc (.cells #[.int .i64 0, .int .i64 0, .slice none 0 0] 26) = wn at *
          generalize wx.heap.size = b5 at *
          refine wpAnyH_ready (rs := [2]) (by kernel_rfl) (by simp) ?_
          refine AllReadyH.cons (o := ?oi109) ?hi109 (fun K hK => ?step109) AllReadyH.nil
          case hi109 => simp only [List.getElem?_toArray, List.getElem?_cons_succ, List.getElem?_cons_zero]; rfl
          rw [if_pos (by rfl)]
          go_simp
          go_at_call 64
          refine (C5.out _ HDc.out).mono ?_
          rintro e wa ⟨x, p2, hx, rfl, hp2, hr, hg⟩
          replace HRc := hid (HRc.out.offF hg hlt)
          replace HGc := hid (grown_tr HGc.out hg)
          replace HDc := hid hr
          replace hszc := Nat.lt_of_lt_of_le hszc hg.size
          clear hr hg f0 f1 f2
          have f0 := (Rows.bc HRc.out.right.left 0 rfl).1
          have f1 := (Rows.bc HRc.out.right.left 1 rfl).1
          have f2 := (Rows.bc HRc.out.right.left 2 rfl).1
          refine hK.out _ _ ⟨f0, f1, f2⟩ (fun hS9 => ?_)
          refine wpAnyH_ready (rs := [3]) (by kernel_rfl) (by simp) ?_
          refine AllReadyH.cons (o := ?oi110) ?hi110 (fun K hK => ?step110) AllReadyH.nil
          case hi110 => simp only [List.getElem?_toArray, List.getElem?_cons_succ, List.getElem?_cons_zero]; rfl
          rw [if_pos (by rfl)]
          go_simp
          go_at_call 54
          refine (C6.out x (by omega) _ _ (FilR.at_ HE'.out HRc.out.right.right.right HEF.out)).mono ?_
          rintro e wb ⟨u5, rs5, rfl, ⟨uu, hu5, hs5⟩, hr5, hb5⟩
          have hu5' : u5 = .agg #[.int .i64 fm, .int .i64 fk, uu] := hu5
          subst hu5'
          obtain ⟨A5, n5, c5, rfl⟩ := hs5.form hr5
          replace HRc := hid ((HRc.out.newer hb5 hr5 (Nat.le_of_lt hszc)).perm (List.perm_append_comm_assoc _ _ _))
          replace HDc := hid (HDc.out.below hb5)
          replace HGc := hid (grown_new HGc.out hb5)
          replace hszc := Nat.lt_of_lt_of_le hszc hb5.size
          have HS5 := hid hs5
          clear hu5 hs5 hr5 hb5 f0 f1 f2
          have f0 := (Rows.bc HRc.out.right.right.left 0 rfl).1
          have f1 := (Rows.bc HRc.out.right.right.left 1 rfl).1
          have f2 := (Rows.bc HRc.out.right.right.left 2 rfl).1
          refine hK.out _ _ ⟨f0, f1, f2⟩ (fun hS9 => ?_)
          obtain ⟨z0, y0, _⟩ := Rows.bcell2 (pre := []) (q := 0) HRc.out rfl
          obtain ⟨z1, y1, _⟩ := Rows.bcell2 (pre := []) (q := 1) HRc.out rfl
          obtain ⟨z2, y2, _⟩ := Rows.bcell2 (pre := []) (q := 2) HRc.out rfl
          refine wpAnyH_ready (rs := [5]) (by kernel_rfl) (by simp) ?_
          refine AllReadyH.cons (o := ?oi111) ?hi111 (fun K hK => ?step111) AllReadyH.nil
          case hi111 => simp only [List.getElem?_toArray, List.getElem?_cons_succ, List.getElem?_cons_zero]; rfl
          rw [if_pos (by rfl)]
          go_simp
          have far : ∀ (W : World) (q q' : Nat) (u u' : Value), W.cell? ⟨bo, q, none⟩ = some u → (W.setCell ⟨b5, q', none⟩ u').cell? ⟨bo, q, none⟩ = some u := fun W q q' u u' h => (World.cell?_setCell_far _ _ _ _ hne).trans h
          refine hK.out _ _ ⟨far _ _ _ _ _ (far _ _ _ _ _ (far _ _ _ _ _ f0)), far _ _ _ _ _ (far _ _ _ _ _ (far _ _ _ _ _ f1)), far _ _ _ _ _ (far _ _ _ _ _ (far _ _ _ _ _ f2))⟩ (fun hS9 => ?_)
          refine wpAnyH_done (by kernel_rfl) ?_ _
          clear far hS hS9 f0 f1 f2 z0 z1 z2 y0 y1 y2
          have Y0 := Rows.boxset (pre := []) (j := 0) (u := .int .i64 fm) HRc.out
          have Y1 := Rows.boxset (pre := []) (j := 1) (u := .int .i64 fk) Y0
          have Y2 := hid (Rows.boxset (pre := []) (j := 2) (u := .slice A5 n5 c5) Y1)
          clear Y0 Y1
          have hRb : R < b5 := Nat.lt_trans hlt hbl
          have hwb : w.heap.size ≤ b5 := by rw [hrb.out]; omega
          go_wp2_with fail
          go_meet
          case rel => exact ⟨x, b5, A5, n5, c5, rs5, p2, rfl, hx, hp2, ⟨_, rfl, HS5.out⟩, Y2.out, ((HDc.out.set hRb).set hRb).set hRb, grown_at (grown_at (grown_at HGc.out hwb) hwb) hwb, (by simpa using hszc)⟩
      case rest =>
        clear HR' HRd HG C5 C6
        obtain ⟨x, b5, A5, n5, c5, rs5, p2, rfl, hx, hp2, HS5, HRn, HDn, HGn, hszn⟩ := hcut
        rename World => wc
        have HWF := hid (write_fit (x := x.data.toList) HFO.out (by rw [← Lib.size_eq]; unfold maxTxt; omega))
        have hwm : (writeF ⟨fm, fk, fl⟩ x.data.toList).mo = fm := rfl
        have hwk : (writeF ⟨fm, fk, fl⟩ x.data.toList).ke = fk := rfl
        generalize writeF ⟨fm, fk, fl⟩ x.data.toList = F at *
        obtain ⟨gm, gk, gl⟩ := F
        obtain rfl : gm = fm := hwm
        obtain rfl : gk = fk := hwk
        have C7 := hid (specValidFiles0_c (FilR.at_ HS5.out HRn.out.right.left HWF.out) (Nat.le_refl _))
        obtain ⟨n0, nz0, _⟩ := Rows.bcell2 (pre := []) (q := 0) HRn.out rfl
        obtain ⟨n1, nz1, _⟩ := Rows.bcell2 (pre := []) (q := 1) HRn.out rfl
        obtain ⟨n2, nz2, _⟩ := Rows.bcell2 (pre := []) (q := 2) HRn.out rfl
        go_wp2_with fail
        refine C7.out.mono ?_
        rintro e w7 ⟨rfl, hb⟩
        replace HRn := hid (HRn.out.below hb)
        replace HDn := hid (HDn.out.below hb)
        replace HGn := hid (grown_new HGn.out hb)
        replace hszn := Nat.lt_of_lt_of_le hszn hb.size
        clear hb C7 n0 n1 n2 nz0 nz1 nz2
        cases hf : filOk ⟨gm, gk, gl⟩ with
        | false =>
          go_wp2_with fail
          go_roundw
          case rel => exact ⟨q - 1, ⟨gm, gk, fl⟩, A2, n2, c2, rs, p2, by go_num, by omega, by omega, by omega, HFO.out, HE'.out, HRn.out.right.right, HDn.out, HGn.out, hszn⟩
          case measure => simp [intOf]; omega
        | true =>
          replace HRn := hid (HRn.out.perm (perm3 _ _ _ _))
          obtain ⟨o0, oz0, _⟩ := Rows.bcell2 (pre := []) (q := 0) HRn.out rfl
          obtain ⟨o1, oz1, _⟩ := Rows.bcell2 (pre := []) (q := 1) HRn.out rfl
          obtain ⟨o2, oz2, _⟩ := Rows.bcell2 (pre := []) (q := 2) HRn.out rfl
          obtain ⟨n0, nz0, _⟩ := Rows.bcell2 (pre := [_]) (q := 0) HRn.out rfl
          obtain ⟨n1, nz1, _⟩ := Rows.bcell2 (pre := [_]) (q := 1) HRn.out rfl
          obtain ⟨n2, nz2, _⟩ := Rows.bcell2 (pre := [_]) (q := 2) HRn.out rfl
          have hRo : R < bo := Nat.lt_trans hlt hbb
          have hwo : w.heap.size ≤ bo := by rw [hrb.out]; omega
          have HFO2 := hid hf
          go_wp2_with fail
          have Y0 := Rows.boxset (pre := []) (j := 0) (u := .int .i64 gm) HRn.out
          have Y1 := Rows.boxset (pre := []) (j := 1) (u := .int .i64 gk) Y0
          have Y2 := Rows.boxset (pre := []) (j := 2) (u := .slice A5 n5 c5) Y1
          have HRq := hid ((Rows.sub Y2 ((List.Sublist.refl _).append (((List.Sublist.refl _).append (List.sublist_append_left _ _)).trans (List.sublist_append_right _ _)))).perm (List.Perm.append_left _ List.perm_append_comm))
          clear Y0 Y1 Y2
          go_roundw
          case rel => exact ⟨q - 1, ⟨gm, gk, gl⟩, A5, n5, c5, rs5, p2, by go_num, by omega, by omega, by omega, HFO2.out, HS5.out, HRq.out, ((HDn.out.set hRo).set hRo).set hRo, grown_at (grown_at (grown_at HGn.out hwo) hwo) hwo, (by simpa using hszn)⟩
          case measure => simp [intOf]; omega
    · have hqb : decide (0 < q) = false := decide_eq_false hq
      go_upto_region 8 with fail
      have hlp := (fil_parts HFO.out).2.2.2.2.2.1
      obtain ⟨g, l0, lt, A6, c6, es6, rfl, hli, hrs, hne6, hn6⟩ := fil_first HE'.out HR'.out.right.right hlp
      have hli' : fl = l0 :: lt := hli
      have hl12 : l0.length ≤ 12 := (fil_small HFO.out).2 l0 (by rw [hli]; simp)
      have t6 : wr.cell? ⟨g, 0, none⟩ = some (.slice A6 l0.length c6) := by
        have h9 := nest_top (show Rows wr rb (nestRows 35 _ _) by have h8 := HR'.out.right.right; rw [hrs] at h8; exact h8)
        rw [List.length_cons, hn6] at h9
        exact (h9.cellAt 0 (by omega)).trans rfl
      have hgR : R < g := by
        have h9 := nest_top (show Rows wr rb (nestRows 35 _ _) by have h8 := HR'.out.right.right; rw [hrs] at h8; exact h8)
        have := (h9.lt g rfl).1; omega
      have hgw : g < wr.heap.size := World.block_lt_of_cell? wr ⟨g, 0, none⟩ t6
      have hn2 : 0 < n2 := by omega
      have HZ0 := hid (fun (h : 0 < l0.length) => fil_roll HFO.out (by rw [hli]; exact h))
      generalize hln : l0.length = ln at t6 hl12 HZ0
      clear hln hrs hne6 hn6 hli hli' hlp
      have T6 := hid t6
      clear t6
      go_cut [39] from 6 (fun s39 wc => ∃ (tb : Bool) (p2 : Nat), s39 = .bool tb ∧ (tb = true → 0 < ln) ∧ p2 ≤ p' + 1 ∧ Hid (Rows wc rb ([bxRow 26 3 bo [.int .i64 fm, .int .i64 fk, .slice (some ⟨g, 0, none⟩) n2 c2]] ++ ([bxRow 26 3 rb [.int .i64 0, .int .i64 0, .slice none 0 0]] ++ rs))) ∧ Hid (Rdr wc R p2) ∧ Hid (w.grownBy wc (some R)) ∧ rb < wc.heap.size)
      case first =>
        have C8 := hid (pick_c R p' 6 wr HRd.out (by omega) (by omega))
        go_wp2_with fail
        refine C8.out.mono ?_
        rintro e w8 ⟨k, rfl, _, _, hr8, hg8⟩
        have R8 := hid hr8
        have G8 := hid (grown_tr HG.out hg8)
        have X8 := hid (HR'.out.offF hg8 hlt)
        have hs8 : rb < w8.heap.size := Nat.lt_of_lt_of_le hsz hg8.size
        have t8 : w8.cell? ⟨g, 0, none⟩ = some (.slice A6 ln c6) := (World.cell?_of_block (hg8.block g hgw (by intro e; have := Option.some.inj e; omega))).trans T6.out
        have d2 := (Rows.bc X8.out.left 2 rfl).1
        clear hr8 hg8 C8 HR' HRd HG
        rcases Nat.eq_zero_or_pos k with hk | hk
        · subst hk
          rcases Nat.eq_zero_or_pos ln with h0 | h0
          · have g1 : decide (0 < ln) = false := decide_eq_false (by omega)
            have H0 := hid h0
            clear h0
            go_wp2_with fail
            go_meet
            case rel => exact ⟨false, p' + 1, rfl, (by simp), Nat.le_refl _, X8.out, R8.out, G8.out, hs8⟩
          · have g1 : decide (0 < ln) = true := decide_eq_true h0
            have H0 := hid h0
            go_wp2_with fail
            go_meet
            case rel => exact ⟨true, p' + 1, rfl, (fun _ => H0.out), Nat.le_refl _, X8.out, R8.out, G8.out, hs8⟩
        · have q0 : ((k : Int) == 0) = false := by simp; omega
          go_wp2_with fail
          go_meet
          case rel => exact ⟨false, p' + 1, rfl, (by simp), Nat.le_refl _, X8.out, R8.out, G8.out, hs8⟩
      case rest =>
        clear HR' HRd HG T6
        obtain ⟨tb, p2, rfl, htb, hp2, HR8, HD8, HG8, hs8⟩ := hcut
        rename World => w8
        go_upto_if 39 with fail
        go_cut [] from 6 (fun wc => ∃ (x : Fil) (A3 : Option Addr) (n3 c3 : Nat) (rs3 : List Row) (p3 : Nat), filOk x = true ∧ p3 ≤ p' + 1 ∧ Hid (FilR rs3 (.agg #[.int .i64 x.mo, .int .i64 x.ke, .slice A3 n3 c3]) x) ∧ Hid (Rows wc rb ([bxRow 26 3 bo [.int .i64 x.mo, .int .i64 x.ke, .slice A3 n3 c3]] ++ ([bxRow 26 3 rb [.int .i64 0, .int .i64 0, .slice none 0 0]] ++ rs3))) ∧ Hid (Rdr wc R p3) ∧ Hid (w.grownBy wc (some R)) ∧ rb < wc.heap.size)
        case first =>
          cases tb with
          | false =>
            go_wp2_with fail
            go_meet
            case rel => exact ⟨⟨fm, fk, fl⟩, _, _, _, rs, p2, HFO.out, hp2, HE'.out, HR8.out, HD8.out, HG8.out, hs8⟩
          | true =>
            have C9 := hid (specRolled_c (FilR.at_ HE'.out HR8.out.right.right (fil_fit HFO.out)) (Nat.le_refl _) HFO.out)
            obtain ⟨o0, oz0, _⟩ := Rows.bcell2 (pre := []) (q := 0) HR8.out rfl
            obtain ⟨o1, oz1, _⟩ := Rows.bcell2 (pre := []) (q := 1) HR8.out rfl
            obtain ⟨o2, oz2, _⟩ := Rows.bcell2 (pre := []) (q := 2) HR8.out rfl
            clear oz0 oz1 oz2
            go_wp2_with fail
            refine C9.out.mono ?_
            rintro e w9 ⟨u9, rs9, rfl, ⟨uu, hu9, hs9⟩, hr9, hb9⟩
            have hu9' : u9 = .agg #[.int .i64 fm, .int .i64 fk, uu] := hu9
            subst hu9'
            obtain ⟨A9, n9, c9, rfl⟩ := hs9.form hr9
            have HR9 := hid (((HR8.out.newer hb9 hr9 (Nat.le_of_lt hs8)).perm ((List.perm_append_comm_assoc _ _ _).trans (List.Perm.append_left _ (List.perm_append_comm_assoc _ _ _)))).sub ((List.Sublist.refl _).append ((List.Sublist.refl _).append (List.sublist_append_left _ _))))
            have HD9 := hid (HD8.out.below hb9)
            have HG9 := hid (grown_new HG8.out hb9)
            have hs9b : rb < w9.heap.size := Nat.lt_of_lt_of_le hs8 hb9.size
            have HS9 := hid hs9
            have HK9 := hid (HZ0.out (htb (by simp)))
            clear hu9 hs9 hr9 hb9 o0 o1 o2 HR8 HD8 HG8 C9
            obtain ⟨o0, oz0, _⟩ := Rows.bcell2 (pre := []) (q := 0) HR9.out rfl
            obtain ⟨o1, oz1, _⟩ := Rows.bcell2 (pre := []) (q := 1) HR9.out rfl
            obtain ⟨o2, oz2, _⟩ := Rows.bcell2 (pre := []) (q := 2) HR9.out rfl
            have hRo : R < bo := Nat.lt_trans hlt hbb
            have hwo : w.heap.size ≤ bo := by rw [hrb.out]; omega
            go_wp2_with fail
            have Y0 := Rows.boxset (pre := []) (j := 0) (u := .int .i64 fm) HR9.out
            have Y1 := Rows.boxset (pre := []) (j := 1) (u := .int .i64 fk) Y0
            have Y2 := hid (Rows.boxset (pre := []) (j := 2) (u := .slice A9 n9 c9) Y1)
            clear Y0 Y1
            go_meet
            case rel => exact ⟨rollF ⟨fm, fk, fl⟩, A9, n9, c9, rs9, p2, HK9.out, hp2, ⟨_, rfl, HS9.out⟩, Y2.out, ((HD9.out.set hRo).set hRo).set hRo, grown_at (grown_at (grown_at HG9.out hwo) hwo) hwo, (by simpa using hs9b)⟩
        case rest =>
          clear HR8 HD8 HG8 HE' HFO HZ0
          obtain ⟨x, A3, n3, c3, rs3, p3, hxo, hp3, HEx, HRx, HDx, HGx, hsx⟩ := hcut
          rename World => wx
          obtain ⟨xm, xk, xl⟩ := x
          have HX0 := hid (show FilR rs3 (.agg #[.int .i64 xm, .int .i64 xk, .slice A3 n3 c3]) ⟨xm, xk, xl⟩ from HEx.out)
          have HR0 := hid (show Rows wx rb ([bxRow 26 3 bo [.int .i64 xm, .int .i64 xk, .slice A3 n3 c3]] ++ ([bxRow 26 3 rb [.int .i64 0, .int .i64 0, .slice none 0 0]] ++ rs3)) from HRx.out)
          have HSM := hid (sm_ok hxo)
          have HXO := hid hxo
          clear HEx HRx hxo
          have C10 := hid (pick_c R p3 24 wx HDx.out (by omega) (by omega))
          go_wp2_with fail
          refine C10.out.mono ?_
          rintro e w10 ⟨k, rfl, _, _, hr10, hg10⟩
          have HD := hid hr10
          have HG := hid (grown_tr HGx.out hg10)
          have HR := hid (HR0.out.offF hg10 hlt)
          have hs10 : rb < w10.heap.size := Nat.lt_of_lt_of_le hsx hg10.size
          clear hr10 hg10 C10 HR0 HDx HGx
          have hRo : R < bo := Nat.lt_trans hlt hbb
          have hwo : w.heap.size ≤ bo := by rw [hrb.out]; omega
          rcases (show k = 0 ∨ k = 1 ∨ k = 2 ∨ k = 3 ∨ 4 ≤ k by omega) with rfl | rfl | rfl | rfl | hk4
          · have C11 := hid (one_lit R (p3 + 1) 3 [0, 121, 5] w10 HD.out (by omega) rfl (by omega) (by omega) 0 121 (by decide))
            go_wp2_with fail
            refine C11.out.mono ?_
            rintro e w11 ⟨z, ⟨hz0, hz1⟩, rfl, hr11, hg11⟩
            replace HD := hid hr11
            replace HG := hid (grown_tr HG.out hg11)
            replace HR := hid (HR.out.offF hg11 hlt)
            clear hr11 hg11 C11
            obtain ⟨o0, oz0, _⟩ := Rows.bcell2 (pre := []) (q := 0) HR.out rfl
            obtain ⟨o1, oz1, _⟩ := Rows.bcell2 (pre := []) (q := 1) HR.out rfl
            obtain ⟨o2, oz2, _⟩ := Rows.bcell2 (pre := []) (q := 2) HR.out rfl
            obtain ⟨r0, rz0, _⟩ := Rows.bcell2 (pre := [_]) (q := 0) HR.out rfl
            obtain ⟨r1, rz1, _⟩ := Rows.bcell2 (pre := [_]) (q := 1) HR.out rfl
            obtain ⟨r2, rz2, _⟩ := Rows.bcell2 (pre := [_]) (q := 2) HR.out rfl
            go_wp2_with fail
            have Y1 := Rows.boxset (pre := []) (j := 0) (u := .int .i64 z) HR.out
            have Y2 := Rows.boxset (pre := [_]) (j := 0) (u := .int .i64 z) Y1
            have Y3 := Rows.boxset (pre := [_]) (j := 1) (u := .int .i64 xk) Y2
            have Y4 := Rows.boxset (pre := [_]) (j := 2) (u := .slice A3 n3 c3) Y3
            have f0 := (Rows.bcell2 (pre := [_]) (q := 0) Y4 rfl).1
            have f1 := (Rows.bcell2 (pre := [_]) (q := 1) Y4 rfl).1
            have f2 := (Rows.bcell2 (pre := [_]) (q := 2) Y4 rfl).1
            refine bodyPost_ret (v := .agg #[.int .i64 z, .int .i64 xk, .slice A3 n3 c3]) (by simp [results, Try.results60, go_sem, f0, f1, f2]) rfl ?_
            have hwr : w.heap.size ≤ rb := by rw [hrb.out]; exact Nat.le_refl _
            obtain ⟨uu, hue, hus⟩ := HX0.out
            have hue' : uu = .slice A3 n3 c3 := by simp at hue; exact hue.symm
            subst hue'
            refine ⟨_, rs3, ⟨z, xk, xl⟩, p3 + 1 + 1, rfl, ⟨_, rfl, hus⟩, ⟨HSM.out.1, by show -1 ≤ z ∧ z ≤ 200; omega, HSM.out.2.2⟩, ?_, by omega, (((HD.out.set hRo).set hlt).set hlt).set hlt, grown_at (grown_at (grown_at (grown_at HG.out hwo) hwr) hwr) hwr⟩
            rw [hrb.out]
            exact Y4.right
          · have C11 := hid (one_lit R (p3 + 1) 3 [0, 4, 1] w10 HD.out (by omega) rfl (by omega) (by omega) 0 4 (by decide))
            go_wp2_with fail
            refine C11.out.mono ?_
            rintro e w11 ⟨z, ⟨hz0, hz1⟩, rfl, hr11, hg11⟩
            replace HD := hid hr11
            replace HG := hid (grown_tr HG.out hg11)
            replace HR := hid (HR.out.offF hg11 hlt)
            clear hr11 hg11 C11
            obtain ⟨o0, oz0, _⟩ := Rows.bcell2 (pre := []) (q := 0) HR.out rfl
            obtain ⟨o1, oz1, _⟩ := Rows.bcell2 (pre := []) (q := 1) HR.out rfl
            obtain ⟨o2, oz2, _⟩ := Rows.bcell2 (pre := []) (q := 2) HR.out rfl
            obtain ⟨r0, rz0, _⟩ := Rows.bcell2 (pre := [_]) (q := 0) HR.out rfl
            obtain ⟨r1, rz1, _⟩ := Rows.bcell2 (pre := [_]) (q := 1) HR.out rfl
            obtain ⟨r2, rz2, _⟩ := Rows.bcell2 (pre := [_]) (q := 2) HR.out rfl
            go_wp2_with fail
            have Y1 := Rows.boxset (pre := []) (j := 1) (u := .int .i64 z) HR.out
            have Y2 := Rows.boxset (pre := [_]) (j := 0) (u := .int .i64 xm) Y1
            have Y3 := Rows.boxset (pre := [_]) (j := 1) (u := .int .i64 z) Y2
            have Y4 := Rows.boxset (pre := [_]) (j := 2) (u := .slice A3 n3 c3) Y3
            have f0 := (Rows.bcell2 (pre := [_]) (q := 0) Y4 rfl).1
            have f1 := (Rows.bcell2 (pre := [_]) (q := 1) Y4 rfl).1
            have f2 := (Rows.bcell2 (pre := [_]) (q := 2) Y4 rfl).1
            refine bodyPost_ret (v := .agg #[.int .i64 xm, .int .i64 z, .slice A3 n3 c3]) (by simp [results, Try.results60, go_sem, f0, f1, f2]) rfl ?_
            have hwr : w.heap.size ≤ rb := by rw [hrb.out]; exact Nat.le_refl _
            obtain ⟨uu, hue, hus⟩ := HX0.out
            have hue' : uu = .slice A3 n3 c3 := by simp at hue; exact hue.symm
            subst hue'
            refine ⟨_, rs3, ⟨xm, z, xl⟩, p3 + 1 + 1, rfl, ⟨_, rfl, hus⟩, ⟨HSM.out.1, HSM.out.2.1, by show -1 ≤ z ∧ z ≤ 10; omega⟩, ?_, by omega, (((HD.out.set hRo).set hlt).set hlt).set hlt, grown_at (grown_at (grown_at (grown_at HG.out hwo) hwr) hwr) hwr⟩
            rw [hrb.out]
            exact Y4.right
          · have hlp := (fil_parts HXO.out).2.2.2.2.2.1
            obtain ⟨g3, k0, kt, A7, c7, es7, rfl, hli, rfl, hne7, hn7⟩ := fil_first HX0.out HR.out.right.right hlp
            have hli' : xl = k0 :: kt := hli
            subst hli'
            have htop := nest_top HR.out.right.right
            rw [List.length_cons, hn7] at htop
            have hg3l : rb ≤ g3 := (htop.lt g3 rfl).1
            have hgbo : g3 ≠ bo := box_ne HR.out (List.mem_append_right _ (show (⟨35, 1, _, .slice (some ⟨g3, 0, none⟩) n3 c3, _⟩ : Row) ∈ _ from List.mem_cons_self ..)) rfl
            have C11 := hid (fun (W : World) (hr : Rdr W R (p3 + 1)) => someLines_c R (p3 + 1) W hr (by omega))
            have hn30 : 0 < n3 := by omega
            have HN7 := hid (And.intro hne7 hn7)
            clear hli hlp htop hne7 hn7 HX0
            have d2 := (Rows.bc HR.out.left 2 rfl).1
            go_wp2_with fail
            refine wp_region_held_drew (S := (fun w' : World => w'.cell? ⟨bo, 2, none⟩ = some (.slice (some ⟨g3, 0, none⟩) n3 c3))) (by kernel_rfl) d2 (fun hS => ?_)
            refine wpAnyH_take (i := 0) (oi := ?oi112) (v := ?v112) ?hi112 (by kernel_rfl) ?hf112 ?hr112 ?hQ112 (Or.inl ⟨?hw112, ?hy112⟩) (by assumption) ?rest112
            case hi112 => simp only [List.getElem?_toArray, List.getElem?_cons_succ, List.getElem?_cons_zero]; rfl
            case hf112 => kernel_rfl
            case hr112 => kernel_rfl
            case hw112 => rfl
            case hy112 => (intro w hSw; (try dsimp only at hSw); go_simp; all_goals (first | done | with_reducible rfl))
            case hQ112 => exact fun _ _ _ h => h
            simp only [Act.put, List.setIfInBounds_toArray, List.set_cons_zero, List.set_cons_succ]
            refine wpAnyH_take (i := 1) (oi := ?oi113) (v := ?v113) ?hi113 (by kernel_rfl) ?hf113 ?hr113 ?hQ113 (Or.inl ⟨?hw113, ?hy113⟩) (by assumption) ?rest113
            case hi113 => simp only [List.getElem?_toArray, List.getElem?_cons_succ, List.getElem?_cons_zero]; rfl
            case hf113 => kernel_rfl
            case hr113 => kernel_rfl
            case hw113 => rfl
            case hy113 => (intro w hSw; (try dsimp only at hSw); go_simp; all_goals (first | done | with_reducible rfl))
            case hQ113 => exact fun _ _ _ h => h
            simp only [Act.put, List.setIfInBounds_toArray, List.set_cons_zero, List.set_cons_succ]
            refine wpAnyH_take (i := 2) (oi := ?oi114) (v := ?v114) ?hi114 (by kernel_rfl) ?hf114 ?hr114 ?hQ114 (Or.inl ⟨?hw114, ?hy114⟩) (by assumption) ?rest114
            case hi114 => simp only [List.getElem?_toArray, List.getElem?_cons_succ, List.getElem?_cons_zero]; rfl
            case hf114 => kernel_rfl
            case hr114 => kernel_rfl
            case hw114 => rfl
            case hy114 => (intro w hSw; (try dsimp only at hSw); go_simp; all_goals (first | done | with_reducible rfl))
            case hQ114 => exact fun _ _ _ h => h
            simp only [Act.put, List.setIfInBounds_toArray, List.set_cons_zero, List.set_cons_succ]
            refine wpAnyH_ready (rs := [3]) (by kernel_rfl) (by simp) ?_
            refine AllReadyH.cons (o := ?oi115) ?hi115 (fun K hK => ?step115) AllReadyH.nil
            case hi115 => simp only [List.getElem?_toArray, List.getElem?_cons_succ, List.getElem?_cons_zero]; rfl
            rw [if_pos (by rfl)]
            go_simp
            go_at_call 66
            refine (C11.out _ (HD.out.below (Below.refl _ _).drew)).mono ?_
            rintro e w11 ⟨vv, m, p4, rfl, hm13, hmf, ho, hp4, hr11, hg11⟩
            obtain ⟨A8, c8, rfl, _, _⟩ := (Sl.of_own ho).form
            have HRv := hid ((HR.out.dr.newerF hg11 hlt (Rows.one (r := ⟨9, 1, m.length, .slice A8 m.length c8, m.map txt⟩) ho) (Nat.le_of_lt hs10)).perm (perm4 _ _ _ _))
            replace HD := hid hr11
            replace HG := hid (grown_tr (show w.grownBy w10.drew (some R) from grown_drN HG.out 1) hg11)
            have HM := hid (And.intro hm13 hmf)
            clear ho hr11 hg11 hm13 hmf C11 d2 HR
            generalize hmn : m.length = mn at *
            have d2 := (Rows.bc HRv.out.right.right.left 2 rfl).1
            refine hK.out _ _ d2 (fun hS9 => ?_)
            refine wpAnyH_take (i := 4) (oi := ?oi116) (v := ?v116) ?hi116 (by kernel_rfl) ?hf116 ?hr116 ?hQ116 (Or.inl ⟨?hw116, ?hy116⟩) (by assumption) ?rest116
            case hi116 => simp only [List.getElem?_toArray, List.getElem?_cons_succ, List.getElem?_cons_zero]; rfl
            case hf116 => kernel_rfl
            case hr116 => kernel_rfl
            case hw116 => rfl
            case hy116 => (intro w hSw; (try dsimp only at hSw); go_simp; all_goals (first | done | with_reducible rfl))
            case hQ116 => exact fun _ _ _ h => h
            simp only [Act.put, List.setIfInBounds_toArray, List.set_cons_zero, List.set_cons_succ]
            have htop : w11.ownsRow rb 35 1 (.slice (some ⟨g3, 0, none⟩) n3 c3) n3 (.slice A7 k0.length c7 :: heads es7) := by have h9 := nest_top HRv.out.left; rw [List.length_cons, HN7.out.2] at h9; exact h9
            have t0 : w11.cell? ⟨g3, 0, none⟩ = some (.slice A7 k0.length c7) := (htop.cellAt 0 (by omega)).trans rfl
            have t1 := htop.frozenAt 0
            refine wpAnyH_ready (rs := [5]) (by kernel_rfl) (by simp) ?_
            refine AllReadyH.cons (o := ?oi117) ?hi117 (fun K hK => ?step117) AllReadyH.nil
            case hi117 => simp only [List.getElem?_toArray, List.getElem?_cons_succ, List.getElem?_cons_zero]; rfl
            rw [if_pos (by rfl)]
            go_simp
            refine hK.out _ _ ((World.cell?_setCell_far _ _ _ _ hgbo).trans d2) (fun hS9 => ?_)
            refine wpAnyH_done (by kernel_rfl) ?_ _
            clear hS hS9 d2 t0 t1 htop
            have H12 := top_putD (u := .slice A8 mn c8) (show Rows w11 rb ((⟨35, 1, n3, .slice (some ⟨g3, 0, none⟩) n3 c3, .slice A7 k0.length c7 :: heads es7⟩ : Row) :: ((⟨9, 1, k0.length, .slice A7 k0.length c7, k0.map txt⟩ :: inner es7) ++ ([⟨9, 1, mn, .slice A8 mn c8, m.map txt⟩] ++ ([bxRow 26 3 bo [.int .i64 xm, .int .i64 xk, .slice (some ⟨g3, 0, none⟩) n3 c3]] ++ [bxRow 26 3 rb [.int .i64 0, .int .i64 0, .slice none 0 0]])))) by
              have h9 := HRv.out
              have e9 : nestRows 35 (.slice (some ⟨g3, 0, none⟩) n3 c3) ((.slice A7 k0.length c7, [⟨9, 1, k0.length, .slice A7 k0.length c7, k0.map txt⟩]) :: es7) = (⟨35, 1, n3, .slice (some ⟨g3, 0, none⟩) n3 c3, .slice A7 k0.length c7 :: heads es7⟩ : Row) :: (⟨9, 1, k0.length, .slice A7 k0.length c7, k0.map txt⟩ :: inner es7) := by simp [nestRows, inner, heads, HN7.out.2]
              rw [e9] at h9
              exact h9)
            have H13 := (Rows.sub H12 (List.Sublist.cons_cons _ ((List.sublist_cons_self _ _).append (List.Sublist.refl _)))).perm (perm5 [_] _ _ _ _)
            have HRz := hid (show Rows (w11.setCell ⟨g3, 0, none⟩ (.slice A8 mn c8)) rb ([bxRow 26 3 bo [.int .i64 xm, .int .i64 xk, .slice (some ⟨g3, 0, none⟩) n3 c3]] ++ ([bxRow 26 3 rb [.int .i64 0, .int .i64 0, .slice none 0 0]] ++ nestRows 35 (.slice (some ⟨g3, 0, none⟩) n3 c3) ((.slice A8 mn c8, [⟨9, 1, mn, .slice A8 mn c8, m.map txt⟩]) :: es7))) by
              have e9 : nestRows 35 (.slice (some ⟨g3, 0, none⟩) n3 c3) ((.slice A8 mn c8, [⟨9, 1, mn, .slice A8 mn c8, m.map txt⟩]) :: es7) = (⟨35, 1, n3, .slice (some ⟨g3, 0, none⟩) n3 c3, .slice A8 mn c8 :: heads es7⟩ : Row) :: (⟨9, 1, mn, .slice A8 mn c8, m.map txt⟩ :: inner es7) := by simp [nestRows, inner, heads, HN7.out.2]
              rw [e9]
              exact H13)
            have hRg : R < g3 := Nat.lt_of_lt_of_le hlt hg3l
            have hwg : w.heap.size ≤ g3 := by rw [hrb.out]; exact hg3l
            replace HD := hid (HD.out.set (b := g3) (j := 0) (u := .slice A8 mn c8) hRg)
            replace HG := hid (grown_at (b := g3) (j := 0) (u := .slice A8 mn c8) HG.out hwg)
            generalize w11.setCell ⟨g3, 0, none⟩ (.slice A8 mn c8) = w12 at *
            clear H12 H13 HRv
            replace hmn := hid hmn
            have HNF := hid (HN7.out.1.cons (l := m) (rs := [⟨9, 1, mn, .slice A8 mn c8, m.map txt⟩]) (u := .slice A8 mn c8) (by unfold StrsR; rw [hmn.out]))
            obtain ⟨o0, oz0, _⟩ := Rows.bcell2 (pre := []) (q := 0) HRz.out rfl
            obtain ⟨o1, oz1, _⟩ := Rows.bcell2 (pre := []) (q := 1) HRz.out rfl
            obtain ⟨o2, oz2, _⟩ := Rows.bcell2 (pre := []) (q := 2) HRz.out rfl
            obtain ⟨r0, rz0, _⟩ := Rows.bcell2 (pre := [_]) (q := 0) HRz.out rfl
            obtain ⟨r1, rz1, _⟩ := Rows.bcell2 (pre := [_]) (q := 1) HRz.out rfl
            obtain ⟨r2, rz2, _⟩ := Rows.bcell2 (pre := [_]) (q := 2) HRz.out rfl
            go_wp2_with fail
            have Y2 := Rows.boxset (pre := [_]) (j := 0) (u := .int .i64 xm) HRz.out
            have Y3 := Rows.boxset (pre := [_]) (j := 1) (u := .int .i64 xk) Y2
            have Y4 := Rows.boxset (pre := [_]) (j := 2) (u := .slice (some ⟨g3, 0, none⟩) n3 c3) Y3
            have f0 := (Rows.bcell2 (pre := [_]) (q := 0) Y4 rfl).1
            have f1 := (Rows.bcell2 (pre := [_]) (q := 1) Y4 rfl).1
            have f2 := (Rows.bcell2 (pre := [_]) (q := 2) Y4 rfl).1
            refine bodyPost_ret (v := .agg #[.int .i64 xm, .int .i64 xk, .slice (some ⟨g3, 0, none⟩) n3 c3]) (by simp [results, Try.results60, go_sem, f0, f1, f2]) rfl ?_
            have hwr : w.heap.size ≤ rb := by rw [hrb.out]; exact Nat.le_refl _
            refine ⟨_, _, ⟨xm, xk, m :: kt⟩, p4, rfl, ⟨_, rfl, HNF.out.toR⟩, ⟨lists_set HSM.out.1 (by rw [hmn.out]; exact HM.out.1) HM.out.2, HSM.out.2.1, HSM.out.2.2⟩, ?_, by omega, ((HD.out.set hlt).set hlt).set hlt, grown_at (grown_at (grown_at HG.out hwr) hwr) hwr⟩
            rw [hrb.out]
            exact Y4.right
          · obtain ⟨uu, hue, hus⟩ := HX0.out
            have hue' : uu = .slice A3 n3 c3 := by simp at hue; exact hue.symm
            subst hue'
            obtain ⟨A9, c9, e9, _, _⟩ := (NestR.own_ hus HR.out.right.right).form
            have hn3 : n3 = xl.length := by injection e9
            obtain ⟨es7, rfl, hne7⟩ := hus.ne
            have hl4 : xl.length ≤ 4 := (fil_small HXO.out).1
            have hen : es7.length = n3 := by rw [hne7.1]; exact hn3.symm
            have H11 := (show Rows (w10.alloc (.cells #[] 9)) rb ([⟨9, 1, 0, .slice (some ⟨w10.heap.size, 0, none⟩) 0 0, []⟩] ++ ([bxRow 26 3 bo [.int .i64 xm, .int .i64 xk, .slice A3 n3 c3]] ++ ([bxRow 26 3 rb [.int .i64 0, .int .i64 0, .slice none 0 0]] ++ nestRows 35 (.slice A3 n3 c3) es7))) from HR.out.lit (Nat.le_of_lt hs10) #[] 9 0 rfl (by omega)).perm (perm4 _ _ _ _)
            have hb11 : Below w10.heap.size w10 (w10.alloc (.cells #[] 9)) := (Below.refl _ _).alloc (Nat.le_refl _) _
            obtain ⟨A4, c4, w12, hrun, hb12, hR12, hs12⟩ := nest_app1 (u := .slice (some ⟨w10.heap.size, 0, none⟩) 0 0) H11 hen rfl (Nat.le_trans (Nat.le_of_lt hs10) hb11.size) (by omega) 35
            have HRun := hid (show (Builtin.append_ #[22, 22] 22 #[.slice A3 n3 c3, .slice (some ⟨w10.heap.size + 1, 0, none⟩) 1 1]).run Try.prog ((w10.alloc (.cells #[] 9)).alloc (.cells #[.slice (some ⟨w10.heap.size, 0, none⟩) 0 0] 35)) = .ok (.slice A4 (n3 + 1) c4) w12 by simpa only [World.size_alloc] using hrun)
            have HR12 := hid (hR12.perm (List.perm_append_comm.trans (by rw [List.append_assoc])))
            replace HD := hid (((HD.out.below hb11).low hb12 hlt))
            replace HG := hid (grown_low (grown_new HG.out hb11) (by rw [hrb.out]; exact hb12))
            have HNF := hid (hne7.snoc (l := []) (rs := [⟨9, 1, 0, .slice (some ⟨w10.heap.size, 0, none⟩) 0 0, []⟩]) (u := .slice (some ⟨w10.heap.size, 0, none⟩) 0 0) rfl)
            have HLS := hid (lists_snoc HSM.out.1 hl4)
            have d2a := (Rows.bc HR.out.left 2 rfl)
            have d2 := d2a.1
            have hbow := d2a.2
            have d2b : ((w10.alloc (.cells #[] 9)).alloc (.cells #[.slice (some ⟨w10.heap.size, 0, none⟩) 0 0] 35)).cell? ⟨bo, 2, none⟩ = some (.slice A3 n3 c3) := (World.cell?_alloc_past _ _ _ (by simp; omega)).trans ((World.cell?_alloc_past _ _ _ hbow).trans d2)
            clear hus hne7 H11 hrun hb12 hR12 d2a HX0 e9 hn3 HR hb11
            obtain ⟨o0, oz0, _⟩ := Rows.bcell2 (pre := []) (q := 0) HR12.out rfl
            obtain ⟨o1, oz1, _⟩ := Rows.bcell2 (pre := []) (q := 1) HR12.out rfl
            obtain ⟨o2, oz2, _⟩ := Rows.bcell2 (pre := []) (q := 2) HR12.out rfl
            obtain ⟨r0, rz0, _⟩ := Rows.bcell2 (pre := [_]) (q := 0) HR12.out rfl
            obtain ⟨r1, rz1, _⟩ := Rows.bcell2 (pre := [_]) (q := 1) HR12.out rfl
            obtain ⟨r2, rz2, _⟩ := Rows.bcell2 (pre := [_]) (q := 2) HR12.out rfl
            go_wp2_with (at_builtin; refine wpList_runB rfl rfl (by rfl) (by rfl) HRun.out ?_)
            have Y1 := Rows.boxset (pre := []) (j := 2) (u := .slice A4 (n3 + 1) c4) HR12.out
            have Y2 := Rows.boxset (pre := [_]) (j := 0) (u := .int .i64 xm) Y1
            have Y3 := Rows.boxset (pre := [_]) (j := 1) (u := .int .i64 xk) Y2
            have Y4 := Rows.boxset (pre := [_]) (j := 2) (u := .slice A4 (n3 + 1) c4) Y3
            have f0 := (Rows.bcell2 (pre := [_]) (q := 0) Y4 rfl).1
            have f1 := (Rows.bcell2 (pre := [_]) (q := 1) Y4 rfl).1
            have f2 := (Rows.bcell2 (pre := [_]) (q := 2) Y4 rfl).1
            refine bodyPost_ret (v := .agg #[.int .i64 xm, .int .i64 xk, .slice A4 (n3 + 1) c4]) (by simp [results, Try.results60, go_sem, f0, f1, f2]) rfl ?_
            have hwr : w.heap.size ≤ rb := by rw [hrb.out]; exact Nat.le_refl _
            refine ⟨_, _, ⟨xm, xk, xl ++ [[]]⟩, p3 + 1, rfl, ⟨_, rfl, HNF.out.toR⟩, ⟨HLS.out, HSM.out.2.1, HSM.out.2.2⟩, ?_, by omega, (((HD.out.set hRo).set hlt).set hlt).set hlt, grown_at (grown_at (grown_at (grown_at HG.out hwo) hwr) hwr) hwr⟩
            rw [hrb.out]
            exact Y4.right
          · have q0 : ((k : Int) == 0) = false := by simp; omega
            have q1 : ((k : Int) == 1) = false := by simp; omega
            have q2 : ((k : Int) == 2) = false := by simp; omega
            have q3 : ((k : Int) == 3) = false := by simp; omega
            obtain ⟨uu, hue, hus⟩ := HX0.out
            have hue' : uu = .slice A3 n3 c3 := by simp at hue; exact hue.symm
            subst hue'
            have HUS := hid hus
            clear hus hue HX0
            obtain ⟨o0, oz0, _⟩ := Rows.bcell2 (pre := []) (q := 0) HR.out rfl
            obtain ⟨o1, oz1, _⟩ := Rows.bcell2 (pre := []) (q := 1) HR.out rfl
            obtain ⟨o2, oz2, _⟩ := Rows.bcell2 (pre := []) (q := 2) HR.out rfl
            obtain ⟨r0, rz0, _⟩ := Rows.bcell2 (pre := [_]) (q := 0) HR.out rfl
            obtain ⟨r1, rz1, _⟩ := Rows.bcell2 (pre := [_]) (q := 1) HR.out rfl
            obtain ⟨r2, rz2, _⟩ := Rows.bcell2 (pre := [_]) (q := 2) HR.out rfl
            go_wp2_with fail
            have Y2 := Rows.boxset (pre := [_]) (j := 0) (u := .int .i64 xm) HR.out
            have Y3 := Rows.boxset (pre := [_]) (j := 1) (u := .int .i64 xk) Y2
            have Y4 := Rows.boxset (pre := [_]) (j := 2) (u := .slice A3 n3 c3) Y3
            have f0 := (Rows.bcell2 (pre := [_]) (q := 0) Y4 rfl).1
            have f1 := (Rows.bcell2 (pre := [_]) (q := 1) Y4 rfl).1
            have f2 := (Rows.bcell2 (pre := [_]) (q := 2) Y4 rfl).1
            refine bodyPost_ret (v := .agg #[.int .i64 xm, .int .i64 xk, .slice A3 n3 c3]) (by simp [results, Try.results60, go_sem, f0, f1, f2]) rfl ?_
            have hwr : w.heap.size ≤ rb := by rw [hrb.out]; exact Nat.le_refl _
            refine ⟨_, rs3, ⟨xm, xk, xl⟩, p3 + 1, rfl, ⟨_, rfl, HUS.out⟩, HSM.out, ?_, by omega, ((HD.out.set hlt).set hlt).set hlt, grown_at (grown_at (grown_at HG.out hwr) hwr) hwr⟩
            rw [hrb.out]
            exact Y4.right
end Go.Proofs.Ytoiagfdhanhnkaa
