/-
  DRAWS: buffers. By gen_d7.py.
-/
import Derived.Test.YtfjpfdmlcgkfeaaD5
import Derived.Test.YtfjpfdmlcgkfeaaKBuf
import Derived.Deep.RegionHeld3
namespace Go.Proofs.Ytfjpfdmlcgkfeaa
open Go.RowKit Nm
set_option linter.unusedSimpArgs false
set_option linter.unusedVariables false

theorem Rows.off {w w' : World} {lo R : Nat} {rs : List Row} (h : Rows w lo rs) (hg : w.grownBy w' (some R)) (hR : R < lo) : Rows w' lo rs := ⟨fun r hr => own_off (h.1 r hr) hg hR, h.2⟩
theorem Rows.more_own {w w' : World} {lo R : Nat} {a b : Row} {v : Value} {n : Nat} {xs : List Value} (h : Rows w' lo [a, b]) (ho : w'.ownsRow w.heap.size 46 4 v n xs) (hg : w.grownBy w' (some R)) (hl : lo ≤ w.heap.size) (hR : R < lo) (hw : Rows w lo [a, b]) : Rows w' lo [a, b, ⟨46, 4, n, v, xs⟩, ⟨46, 4, 0, .slice none 0 0, []⟩] := by
  have h2 : Rows w' lo (([a, b] : List Row) ++ [⟨46, 4, n, v, xs⟩]) := by
    refine ⟨fun r hr => ?_, List.pairwise_append.2 ⟨h.2, List.pairwise_singleton _ _, fun x hx y hy => ?_⟩⟩
    · rcases List.mem_append.1 hr with hr | hr
      · exact h.1 r hr
      · rw [List.mem_singleton.1 hr]; exact own_base ho hl
    · rw [List.mem_singleton.1 hy]; exact row_apart (hw.1 x hx) (show Row.own w' w.heap.size ⟨46, 4, n, v, xs⟩ from ho)
  have h3 := (Rows.cons_nil (T := 46) (d := 4) h2)
  exact h3.perm (List.perm_append_comm (l₁ := [(⟨46, 4, 0, .slice none 0 0, []⟩ : Row)]) (l₂ := ([a, b] ++ [(⟨46, 4, n, v, xs⟩ : Row)])))
theorem Rows.newer_own {w w' : World} {lo R : Nat} {rs rs' : List Row} (h : Rows w lo rs) (hg : w.grownBy w' (some R)) (hR : R < lo) (h2 : Rows w' w.heap.size rs') (hl : lo ≤ w.heap.size) : Rows w' lo (rs' ++ rs) :=
  ⟨fun r hr => by
    rcases List.mem_append.1 hr with hr | hr
    · exact own_base (h2.1 r hr) hl
    · exact (h.off hg hR).1 r hr, List.pairwise_append.2 ⟨h2.2, h.2, fun a ha b hb => (row_apart (h.1 b hb) (h2.1 a ha)).symm⟩⟩
theorem recs_snoc (l : List Rec) (nm tx : ByteArray) (a b : Int) : l.flatMap rcells ++ [.string nm, .int .i64 a, .string tx, .int .i64 b] = (l ++ [(⟨nm.data.toList, a, tx.data.toList, b⟩ : Rec)]).flatMap rcells := by simp [rcells, txt_data]
/-- a drawn buffer -/
def BufPost (R p dp : Nat) (w : World) (e : Ending) (w' : World) : Prop :=
  ∃ (v : Value) (rs : List Row) (d : Buf) (p' : Nat), e = .returned v ∧ BufR rs v d ∧ fit20 d.rc ∧ d.rc.length ≤ 30 ∧ Rows w' w.heap.size rs ∧ p' ≤ p + dp ∧ Rdr w' R p' ∧ w.grownBy w' (some R)

set_option maxHeartbeats 8000000 in
set_option maxRecDepth 100000 in
theorem someBuffer_c (R p : Nat) (w : World) (hr : Rdr w R p) (hp : p ≤ 500000) :
    Calls Try.prog 37 #[.pointer (some ⟨R, 0, none⟩)] w (BufPost R p 400 w) := by
  obtain ⟨i0, hi0, hz0, hz1, hz2⟩ := info_parts Try.infoRecord
  have hlt := hr.lt
  have HZ := hid (show Rows (w.alloc (.cells #[.int .i64 0, .int .i64 0, .slice none 0 0] 29)) w.heap.size [bxRow 29 3 w.heap.size [.int .i64 0, .int .i64 0, .slice none 0 0]] from Rows.box w #[.int .i64 0, .int .i64 0, .slice none 0 0] 29 3 rfl)
  have C := hid (one_lit R p 5 [3, 2, 4, 1, 12] (w.alloc (.cells #[.int .i64 0, .int .i64 0, .slice none 0 0] 29)) (hr.below ((Below.refl _ _).alloc (Nat.le_refl _) _)) (by omega) rfl (by omega) (by omega) 0 12 (by decide))
  simp only [World.size_alloc] at C
  have G0 := hid (show w.grownBy (w.alloc (.cells #[.int .i64 0, .int .i64 0, .slice none 0 0] 29)) (some R) from World.grownBy_alloc w _ _)
  clear hr
  go_enter Try.func37, Try.ntmps37
  go_wp2_with fail
  refine C.out.mono ?_
  rintro e w1 ⟨rm, ⟨hm0, hm1⟩, rfl, hr1, hg1⟩
  have G1 := hid (grown_tr G0.out hg1)
  have Z1 := hid (HZ.out.off hg1 hlt)
  have hs1 : w.heap.size < w1.heap.size := by have := hg1.size; simp at this; omega
  have C2 := hid (one_lit R (p + 1) 5 [40, 30, 61, 50, 1] w1 hr1 (by omega) rfl (by omega) (by omega) 0 61 (by decide))
  clear hr1 hg1 C HZ G0
  go_wp2_with fail
  refine C2.out.mono ?_
  rintro e w2 ⟨lv, ⟨hv0, hv1⟩, rfl, hr2, hg2⟩
  have G2 := grown_tr G1.out hg2
  have Z2 := Z1.out.off hg2 hlt
  have hs2 : w.heap.size < w2.heap.size := Nat.lt_of_lt_of_le hs1 hg2.size
  have G3 := hid (grown_new G2 ((Below.refl w2.heap.size w2).alloc (Nat.le_refl _) (.cells #[.int .i64 rm, .int .i64 lv, .slice none 0 0] 29)))
  have Z3 := hid (Z2.newer ((Below.refl w2.heap.size w2).alloc (Nat.le_refl _) (.cells #[.int .i64 rm, .int .i64 lv, .slice none 0 0] 29)) (Rows.box w2 #[.int .i64 rm, .int .i64 lv, .slice none 0 0] 29 3 rfl) (Nat.le_of_lt hs2))
  have C4 := hid (goodRecords_c R (p + 1 + 1) _ (hr2.below ((Below.refl _ _).alloc (Nat.le_refl _) (.cells #[.int .i64 rm, .int .i64 lv, .slice none 0 0] 29))) (by omega))
  have hs3 : w.heap.size ≤ (w2.alloc (.cells #[.int .i64 rm, .int .i64 lv, .slice none 0 0] 29)).heap.size := by simp; omega
  clear hr2 hg2 C2 G1 Z1 G2 Z2 hs1
  go_wp2_with fail
  generalize hbb : w2.heap.size = bb at *
  generalize hrb : w.heap.size = rb at *
  replace hrb := hid hrb
  generalize w2.alloc (.cells #[.int .i64 rm, .int .i64 lv, .slice none 0 0] 29) = w3 at *
  clear hbb
  refine C4.out.mono ?_
  rintro e w4 ⟨vL, l, p1, rfl, hl12, hfl, ho4, hp1, hr4, hg4⟩
  obtain ⟨AL, cL, rfl, hLc, hLm⟩ := (Sl.of_own ho4).form
  unfold maxLen at hLm
  generalize hln : l.length = ln at *
  replace hln := hid hln
  have G4 := hid (grown_tr G3.out hg4)
  have R4 := hid hr4
  have FL := hid hfl
  have X4 := hid (show Rows w4 rb [bxRow 29 3 bb [.int .i64 rm, .int .i64 lv, .slice none 0 0], bxRow 29 3 rb [.int .i64 0, .int .i64 0, .slice none 0 0], ⟨46, 4, ln, .slice AL ln cL, l.flatMap rcells⟩, ⟨46, 4, 0, .slice none 0 0, []⟩] from ((Z3.out.off hg4 hlt).more_own ho4 hg4 hs3 hlt Z3.out))
  have hs4 : rb ≤ w4.heap.size := Nat.le_trans hs3 hg4.size
  clear ho4 hr4 hg4 C4 Z3 G3 hfl
  go_wp2_with fail
  go_loopw [5] (fun iv wr => ∃ (i : Nat) (AK : Option Addr) (kn cK : Nat) (kl : List Rec), iv = .int .i64 i ∧ i ≤ ln ∧ kn ≤ i ∧ Hid (kl.length = kn) ∧ Hid (fit20 kl) ∧ Hid (Rows wr rb [bxRow 29 3 bb [.int .i64 rm, .int .i64 lv, .slice AK kn cK], bxRow 29 3 rb [.int .i64 0, .int .i64 0, .slice none 0 0], ⟨46, 4, ln, .slice AL ln cL, l.flatMap rcells⟩, ⟨46, 4, kn, .slice AK kn cK, kl.flatMap rcells⟩]) ∧ Hid (Rdr wr R p1) ∧ Hid (w.grownBy wr (some R)) ∧ rb ≤ wr.heap.size) (fun iv _ => ln - (intOf iv).toNat)
  case atStart => exact ⟨0, none, 0, 0, [], rfl, Nat.zero_le _, Nat.le_refl _, rfl, (fun x hx => by cases hx), X4.out, R4.out, G4.out, hs4⟩
  case round =>
    obtain ⟨i, AK, kn, cK, kl, rfl, hi, hkn, hkl, HF, HR, HRd, HG, hsz⟩ := hrel
    obtain ⟨b0, _, hbl⟩ := Rows.bcell2 (pre := []) (q := 0) HR.out rfl
    obtain ⟨b1, _, _⟩ := Rows.bcell2 (pre := []) (q := 1) HR.out rfl
    obtain ⟨b2, _, _⟩ := Rows.bcell2 (pre := []) (q := 2) HR.out rfl
    by_cases hlt2 : i < ln
    · by_cases hroom : (kn : Int) + 1 < rm
      · have oL : wr.ownsRow rb 46 4 (.slice AL ln cL) ln (l.flatMap rcells) := HR.out.1 ⟨46, 4, ln, .slice AL ln cL, l.flatMap rcells⟩ (by simp)
        obtain ⟨g, rfl, hgl⟩ := own_some oL (by omega)
        obtain ⟨b, o, nm, xl, tx, sq, heq, hbB, hx, c0, c1, c2, c3⟩ := rcells_at (Sl.of_own oL) hlt2
        obtain ⟨rfl, rfl⟩ : g = b ∧ 0 = o := by simpa using heq
        simp only [Nat.zero_add] at c0 c1 c2 c3
        clear heq
        have hdr : decide ((kn : Int) + 1 < rm) = true := decide_eq_true hroom
        have HX := hid hx
        clear oL hx
        by_cases hlev : xl < lv
        · have hdl : decide (xl < lv) = true := decide_eq_true hlev
          have HRn := hid (fun n => HR.out.below (below_dr (Below.refl _ _) n))
          have HDn := hid (fun n => HRd.out.below (below_dr (Below.refl _ _) n))
          have HGn := hid (fun n => grown_drN HG.out n)
          have hszn : ∀ n, (wr.drewN n).heap.size = wr.heap.size := fun n => rfl
          replace hszn := hid hszn
          have cn := hid (fun n => And.intro (show (wr.drewN n).cell? ⟨g, i * 4, none⟩ = some (.string nm) from c0) (And.intro (show (wr.drewN n).cell? ⟨g, i * 4 + 1, none⟩ = some (.int .i64 xl) from c1) (And.intro (show (wr.drewN n).cell? ⟨g, i * 4 + 2, none⟩ = some (.string tx) from c2) (show (wr.drewN n).cell? ⟨g, i * 4 + 3, none⟩ = some (.int .i64 sq) from c3))))
          go_wp2_with fail
          go_quiet (fail)
          go_wp2_with fail
          generalize hwd : wr.drewN _ = wd at *
          have HRx := hid (hwd ▸ HRn.out _)
          have HDx := hid (hwd ▸ HDn.out _)
          have HGx := hid (hwd ▸ HGn.out _)
          have hszx : rb ≤ wd.heap.size := by rw [← hwd, hszn.out]; exact hsz
          have hcx := hwd ▸ cn.out _
          clear HRn HDn HGn hszn cn hwd HR HRd HG c0 c1 c2 c3 b0 b1 b2 hbl
          obtain ⟨c0, c1, c2, c3⟩ := hcx
          have oK : wd.ownsRow rb 46 4 (.slice AK kn cK) kn (kl.flatMap rcells) := HRx.out.1 ⟨46, 4, kn, .slice AK kn cK, kl.flatMap rcells⟩ (by simp)
          have hkm : kn ≤ 12 := by omega
          obtain ⟨vA, w5, hrun, ho5, hg5, hloc⟩ := run_app1P (P := Try.prog) wd.drew 27 rb 46 i0 _ 4 48 Try.underlying27 hi0 hz0 hz1 hz2 rfl (by decide) (.slice AK kn cK) kn _ oK.drew [.string nm, .int .i64 xl, .string tx, .int .i64 sq] 46 rfl (List.all_eq_true.1 rfl) (by unfold maxLen; omega) (by omega) (show rb ≤ wd.drew.heap.size from hszx)
          obtain ⟨A5, c5, rfl, _, _⟩ := (Sl.of_own ho5).form
          have hp := HRx.out.2
          have aLK := (List.pairwise_append (l₁ := [bxRow 29 3 bb [.int .i64 rm, .int .i64 lv, .slice AK kn cK], bxRow 29 3 rb [.int .i64 0, .int .i64 0, .slice none 0 0], ⟨46, 4, ln, .slice (some ⟨g, 0, none⟩) ln cL, l.flatMap rcells⟩]) (l₂ := [⟨46, 4, kn, .slice AK kn cK, kl.flatMap rcells⟩])).1 hp
          have aL := aLK.2.2 ⟨46, 4, ln, .slice (some ⟨g, 0, none⟩) ln cL, l.flatMap rcells⟩ (by simp) _ (List.mem_singleton.2 rfl)
          have aB := (List.pairwise_cons.1 hp).1 ⟨46, 4, ln, .slice (some ⟨g, 0, none⟩) ln cL, l.flatMap rcells⟩ (by simp)
          have hgK : some g ≠ (Value.slice AK kn cK).ownBlock := by
            rcases aL.1 with h | h
            · cases h
            · exact h
          have hgb : g ≠ bb := by
            rcases aB.2 with h | h
            · cases h
            · exact fun e => h (by rw [e]; rfl)
          have hbK : some bb ≠ (Value.slice AK kn cK).ownBlock := by
            have aK := (List.pairwise_cons.1 hp).1 ⟨46, 4, kn, .slice AK kn cK, kl.flatMap rcells⟩ (by simp)
            rcases aK.1 with h | h
            · cases h
            · exact h
          obtain ⟨b2, b2f, hbl⟩ := Rows.bcell2 (pre := []) (q := 2) HRx.out rfl
          have hgl2 : g < wd.heap.size := World.block_lt_of_cell? wd ⟨g, i * 4, none⟩ c0
          have HR5 := hid (Rows.app (pre := [bxRow 29 3 bb [.int .i64 rm, .int .i64 lv, .slice AK kn cK], bxRow 29 3 rb [.int .i64 0, .int .i64 0, .slice none 0 0], ⟨46, 4, ln, .slice (some ⟨g, 0, none⟩) ln cL, l.flatMap rcells⟩]) (post := []) (r := ⟨46, 4, kn, .slice AK kn cK, kl.flatMap rcells⟩) HRx.out.dr hg5 ho5 hloc)
          have HR6 := hid (Rows.boxset (pre := []) (j := 2) (u := .slice A5 (kn + 1) c5) HR5.out)
          have hKlo : ∀ z, (Value.slice AK kn cK).ownBlock = some z → rb ≤ z := fun z h => (oK.lt z h).1
          have HD5 := hid ((HDx.out.below (Below.refl _ _).drew).off hg5 (fun z h => Nat.lt_of_lt_of_le hlt (hKlo z h)))
          have HG5 := hid (grown_off (grown_drN HGx.out 1) hg5 (fun z h => by rw [hrb.out]; exact hKlo z h))
          have hs5 : rb ≤ w5.heap.size := Nat.le_trans hszx hg5.size
          have hkp := fun (q : Nat) (u : Value) (h : wd.cell? ⟨g, q, none⟩ = some u) => (show w5.cell? ⟨g, q, none⟩ = some u from (World.cell?_of_block (hg5.block g hgl2 hgK)).trans h)
          have S5 := hid (And.intro (hkp _ _ c0) (And.intro (hkp _ _ c1) (And.intro (hkp _ _ c2) (hkp _ _ c3))))
          obtain ⟨b5, b5f, _⟩ := Rows.bcell2 (pre := []) (q := 2) HR5.out rfl
          have HRun := hid hrun
          have c0' : wd.drew.cell? ⟨g, i * 4, none⟩ = some (.string nm) := c0
          have c1' : wd.drew.cell? ⟨g, i * 4 + 1, none⟩ = some (.int .i64 xl) := c1
          have c2' : wd.drew.cell? ⟨g, i * 4 + 2, none⟩ = some (.string tx) := c2
          have c3' : wd.drew.cell? ⟨g, i * 4 + 3, none⟩ = some (.int .i64 sq) := c3
          have b2' : wd.drew.cell? ⟨bb, 2, none⟩ = some (.slice AK kn cK) := b2
          have al : ∀ (o : Obj) (b9 q9 : Nat) (u : Value), b9 < wd.drew.heap.size → wd.drew.cell? ⟨b9, q9, none⟩ = some u → (wd.drew.alloc o).cell? ⟨b9, q9, none⟩ = some u := fun o b9 q9 u h1 h2 => (World.cell?_alloc_past _ _ _ h1).trans h2
          have SA := hid (fun o => And.intro (al o _ _ _ hgl2 c0') (And.intro (al o _ _ _ hgl2 c1') (And.intro (al o _ _ _ hgl2 c2') (al o _ _ _ hgl2 c3'))))
          have ba : (wd.drew.alloc (.cells #[.string nm, .int .i64 xl, .string tx, .int .i64 sq] 46)).cell? ⟨bb, 2, none⟩ = some (.slice AK kn cK) := al _ _ _ _ hbl b2'
          have HNE := hid (Ne.symm hgb)
          clear al hrun ho5 hg5 hloc hp aLK aL aB hgK hgb hbK hKlo hkp oK
          refine wp_region_held_drew (S := (fun w' : World => w'.cell? ⟨g, i * 4, none⟩ = some (.string nm) ∧ w'.cell? ⟨g, i * 4 + 1, none⟩ = some (.int .i64 xl) ∧ w'.cell? ⟨g, i * 4 + 2, none⟩ = some (.string tx) ∧ w'.cell? ⟨g, i * 4 + 3, none⟩ = some (.int .i64 sq))) (by kernel_rfl) ⟨c0, c1, c2, c3⟩ (fun hS => ?_)
          refine wpAnyH_take (i := 0) (oi := ?oi101) (v := ?v101) ?hi101 (by kernel_rfl) ?hf101 ?hr101 ?hQ101 (Or.inl ⟨?hw101, ?hy101⟩) (by assumption) ?rest101
          case hi101 => simp only [List.getElem?_toArray, List.getElem?_cons_succ, List.getElem?_cons_zero]; rfl
          case hf101 => kernel_rfl
          case hr101 => kernel_rfl
          case hw101 => rfl
          case hy101 => (intro w hSw; (try dsimp only at hSw); go_simp; all_goals (first | done | with_reducible rfl))
          case hQ101 => exact fun _ _ _ h => h
          simp only [Act.put, List.setIfInBounds_toArray, List.set_cons_zero, List.set_cons_succ]
          refine wpAnyH_take (i := 2) (oi := ?oi102) (v := ?v102) ?hi102 (by kernel_rfl) ?hf102 ?hr102 ?hQ102 (Or.inl ⟨?hw102, ?hy102⟩) (by assumption) ?rest102
          case hi102 => simp only [List.getElem?_toArray, List.getElem?_cons_succ, List.getElem?_cons_zero]; rfl
          case hf102 => kernel_rfl
          case hr102 => kernel_rfl
          case hw102 => rfl
          case hy102 => (intro w hSw; (try dsimp only at hSw); go_simp; all_goals (first | done | with_reducible rfl))
          case hQ102 => exact fun _ _ _ h => h
          simp only [Act.put, List.setIfInBounds_toArray, List.set_cons_zero, List.set_cons_succ]
          refine wpAnyH_take (i := 3) (oi := ?oi103) (v := ?v103) ?hi103 (by kernel_rfl) ?hf103 ?hr103 ?hQ103 (Or.inl ⟨?hw103, ?hy103⟩) (by assumption) ?rest103
          case hi103 => simp only [List.getElem?_toArray, List.getElem?_cons_succ, List.getElem?_cons_zero]; rfl
          case hf103 => kernel_rfl
          case hr103 => kernel_rfl
          case hw103 => rfl
          case hy103 => (intro w hSw; (try dsimp only at hSw); go_simp; all_goals (first | done | with_reducible rfl))
          case hQ103 => exact fun _ _ _ h => h
          simp only [Act.put, List.setIfInBounds_toArray, List.set_cons_zero, List.set_cons_succ]
          refine wpAnyH_take (i := 4) (oi := ?oi104) (v := ?v104) ?hi104 (by kernel_rfl) ?hf104 ?hr104 ?hQ104 (Or.inl ⟨?hw104, ?hy104⟩) (by assumption) ?rest104
          case hi104 => simp only [List.getElem?_toArray, List.getElem?_cons_succ, List.getElem?_cons_zero]; rfl
          case hf104 => kernel_rfl
          case hr104 => kernel_rfl
          case hw104 => rfl
          case hy104 => (intro w hSw; (try dsimp only at hSw); go_simp; all_goals (first | done | with_reducible rfl))
          case hQ104 => exact fun _ _ _ h => h
          simp only [Act.put, List.setIfInBounds_toArray, List.set_cons_zero, List.set_cons_succ]
          refine wpAnyH_take (i := 5) (oi := ?oi105) (v := ?v105) ?hi105 (by kernel_rfl) ?hf105 ?hr105 ?hQ105 (Or.inl ⟨?hw105, ?hy105⟩) (by assumption) ?rest105
          case hi105 => simp only [List.getElem?_toArray, List.getElem?_cons_succ, List.getElem?_cons_zero]; rfl
          case hf105 => kernel_rfl
          case hr105 => kernel_rfl
          case hw105 => rfl
          case hy105 => (intro w hSw; (try dsimp only at hSw); go_simp; all_goals (first | done | with_reducible rfl))
          case hQ105 => exact fun _ _ _ h => h
          simp only [Act.put, List.setIfInBounds_toArray, List.set_cons_zero, List.set_cons_succ]
          refine wpAnyH_ready (rs := [1, 6]) (by kernel_rfl) (by simp) ?_
          refine AllReadyH.cons (o := ?oi106) ?hi106 (fun K hK => ?stepA106) (AllReadyH.cons (o := ?oj106) ?hj106 (fun K hK => ?stepB106) AllReadyH.nil)
          case hi106 => simp only [List.getElem?_toArray, List.getElem?_cons_succ, List.getElem?_cons_zero]; rfl
          case hj106 => simp only [List.getElem?_toArray, List.getElem?_cons_succ, List.getElem?_cons_zero]; rfl
          all_goals rw [if_pos (by rfl)]
          all_goals go_simp
          · refine hK.out _ _ ⟨c0', c1', c2', c3'⟩ (fun _ => ?_)
            refine wpAnyH_ready (rs := [6]) (by kernel_rfl) (by simp) ?_
            refine AllReadyH.cons (o := ?oi107) ?hi107 (fun K hK => ?step107) AllReadyH.nil
            case hi107 => simp only [List.getElem?_toArray, List.getElem?_cons_succ, List.getElem?_cons_zero]; rfl
            rw [if_pos (by rfl)]
            go_simp
            refine hK.out _ _ (SA.out _) (fun _ => ?_)
            refine wpAnyH_ready (rs := [7]) (by kernel_rfl) (by simp) ?_
            refine AllReadyH.cons (o := ?oi108) ?hi108 (fun K hK => ?step108) AllReadyH.nil
            case hi108 => simp only [List.getElem?_toArray, List.getElem?_cons_succ, List.getElem?_cons_zero]; rfl
            rw [if_pos (by rfl)]
            refine wp_app rfl (by rfl) (by rfl) HRun.out ?_
            refine hK.out _ _ S5.out (fun _ => ?_)
            simp only [Act.put, List.setIfInBounds_toArray, List.set_cons_zero, List.set_cons_succ]
            refine wpAnyH_take (i := 8) (oi := ?oi109) (v := ?v109) ?hi109 (by kernel_rfl) ?hf109 ?hr109 ?hQ109 (Or.inl ⟨?hw109, ?hy109⟩) (by assumption) ?rest109
            case hi109 => simp only [List.getElem?_toArray, List.getElem?_cons_succ, List.getElem?_cons_zero]; rfl
            case hf109 => kernel_rfl
            case hr109 => kernel_rfl
            case hw109 => rfl
            case hy109 => (intro w hSw; (try dsimp only at hSw); go_simp; all_goals (first | done | with_reducible rfl))
            case hQ109 => exact fun _ _ _ h => h
            simp only [Act.put, List.setIfInBounds_toArray, List.set_cons_zero, List.set_cons_succ]
            refine wpAnyH_ready (rs := [9]) (by kernel_rfl) (by simp) ?_
            refine AllReadyH.cons (o := ?oi110) ?hi110 (fun K hK => ?step110) AllReadyH.nil
            case hi110 => simp only [List.getElem?_toArray, List.getElem?_cons_succ, List.getElem?_cons_zero]; rfl
            rw [if_pos (by rfl)]
            go_simp
            refine hK.out _ _ ⟨(World.cell?_setCell_far _ _ _ _ HNE.out).trans S5.out.1, (World.cell?_setCell_far _ _ _ _ HNE.out).trans S5.out.2.1, (World.cell?_setCell_far _ _ _ _ HNE.out).trans S5.out.2.2.1, (World.cell?_setCell_far _ _ _ _ HNE.out).trans S5.out.2.2.2⟩ (fun _ => ?_)
            refine wpAnyH_done (by kernel_rfl) ?_ _
            clear c0 c1 c2 c3 c0' c1' c2' c3' b2 b2' ba b5 b5f
            go_wp2_with fail
            go_roundw
            case rel => exact ⟨i + 1, A5, kn + 1, c5, kl ++ [(⟨nm.data.toList, xl, tx.data.toList, sq⟩ : Rec)], by go_num, by omega, by omega, (by show List.length _ = _; rw [List.length_append, hkl.out]; rfl), fit_add HF.out (FL.out _ (List.mem_of_getElem? HX.out)), (by rw [← recs_snoc]; exact HR6.out), HD5.out.set (Nat.lt_trans hlt hs2), grown_at HG5.out (by rw [hrb.out]; omega), (by simpa using hs5)⟩
            case measure => simp [intOf]; omega
          · refine hK.out _ _ (SA.out _) (fun _ => ?_)
            refine wpAnyH_ready (rs := [1]) (by kernel_rfl) (by simp) ?_
            refine AllReadyH.cons (o := ?oi111) ?hi111 (fun K hK => ?step111) AllReadyH.nil
            case hi111 => simp only [List.getElem?_toArray, List.getElem?_cons_succ, List.getElem?_cons_zero]; rfl
            rw [if_pos (by rfl)]
            go_simp
            refine hK.out _ _ (SA.out _) (fun _ => ?_)
            refine wpAnyH_ready (rs := [7]) (by kernel_rfl) (by simp) ?_
            refine AllReadyH.cons (o := ?oi112) ?hi112 (fun K hK => ?step112) AllReadyH.nil
            case hi112 => simp only [List.getElem?_toArray, List.getElem?_cons_succ, List.getElem?_cons_zero]; rfl
            rw [if_pos (by rfl)]
            refine wp_app rfl (by rfl) (by rfl) HRun.out ?_
            refine hK.out _ _ S5.out (fun _ => ?_)
            simp only [Act.put, List.setIfInBounds_toArray, List.set_cons_zero, List.set_cons_succ]
            refine wpAnyH_take (i := 8) (oi := ?oi113) (v := ?v113) ?hi113 (by kernel_rfl) ?hf113 ?hr113 ?hQ113 (Or.inl ⟨?hw113, ?hy113⟩) (by assumption) ?rest113
            case hi113 => simp only [List.getElem?_toArray, List.getElem?_cons_succ, List.getElem?_cons_zero]; rfl
            case hf113 => kernel_rfl
            case hr113 => kernel_rfl
            case hw113 => rfl
            case hy113 => (intro w hSw; (try dsimp only at hSw); go_simp; all_goals (first | done | with_reducible rfl))
            case hQ113 => exact fun _ _ _ h => h
            simp only [Act.put, List.setIfInBounds_toArray, List.set_cons_zero, List.set_cons_succ]
            refine wpAnyH_ready (rs := [9]) (by kernel_rfl) (by simp) ?_
            refine AllReadyH.cons (o := ?oi114) ?hi114 (fun K hK => ?step114) AllReadyH.nil
            case hi114 => simp only [List.getElem?_toArray, List.getElem?_cons_succ, List.getElem?_cons_zero]; rfl
            rw [if_pos (by rfl)]
            go_simp
            refine hK.out _ _ ⟨(World.cell?_setCell_far _ _ _ _ HNE.out).trans S5.out.1, (World.cell?_setCell_far _ _ _ _ HNE.out).trans S5.out.2.1, (World.cell?_setCell_far _ _ _ _ HNE.out).trans S5.out.2.2.1, (World.cell?_setCell_far _ _ _ _ HNE.out).trans S5.out.2.2.2⟩ (fun _ => ?_)
            refine wpAnyH_done (by kernel_rfl) ?_ _
            clear c0 c1 c2 c3 c0' c1' c2' c3' b2 b2' ba b5 b5f
            go_wp2_with fail
            go_roundw
            case rel => exact ⟨i + 1, A5, kn + 1, c5, kl ++ [(⟨nm.data.toList, xl, tx.data.toList, sq⟩ : Rec)], by go_num, by omega, by omega, (by show List.length _ = _; rw [List.length_append, hkl.out]; rfl), fit_add HF.out (FL.out _ (List.mem_of_getElem? HX.out)), (by rw [← recs_snoc]; exact HR6.out), HD5.out.set (Nat.lt_trans hlt hs2), grown_at HG5.out (by rw [hrb.out]; omega), (by simpa using hs5)⟩
            case measure => simp [intOf]; omega
        · have hdl : decide (xl < lv) = false := decide_eq_false hlev
          have HRn := hid (fun n => HR.out.below (below_dr (Below.refl _ _) n))
          have HDn := hid (fun n => HRd.out.below (below_dr (Below.refl _ _) n))
          have HGn := hid (fun n => grown_drN HG.out n)
          have hszn : ∀ n, (wr.drewN n).heap.size = wr.heap.size := fun n => rfl
          replace hszn := hid hszn
          have cn := hid (fun n => And.intro (show (wr.drewN n).cell? ⟨g, i * 4, none⟩ = some (.string nm) from c0) (And.intro (show (wr.drewN n).cell? ⟨g, i * 4 + 1, none⟩ = some (.int .i64 xl) from c1) (And.intro (show (wr.drewN n).cell? ⟨g, i * 4 + 2, none⟩ = some (.string tx) from c2) (show (wr.drewN n).cell? ⟨g, i * 4 + 3, none⟩ = some (.int .i64 sq) from c3))))
          go_wp2_with fail
          go_quiet (fail)
          go_wp2_with fail
          go_roundw
          case rel => exact ⟨i + 1, AK, kn, cK, kl, by go_num, by omega, by omega, hkl, HF.out, HRn.out _, HDn.out _, HGn.out _, (by rw [hszn.out]; exact hsz)⟩
          case measure => simp [intOf]; omega
      · have hdr : decide ((kn : Int) + 1 < rm) = false := decide_eq_false hroom
        have C8 := hid (pick_c R p1 24 wr HRd.out (by omega) (by omega))
        go_wp2_with fail
        refine C8.out.mono ?_
        rintro e w8 ⟨k, rfl, _, _, hr8, hg8⟩
        have R8 := hid hr8
        have G8 := hid (grown_tr HG.out hg8)
        have X8 := hid (HR.out.off hg8 hlt)
        have hs8 : rb ≤ w8.heap.size := Nat.le_trans hsz hg8.size
        clear hr8 hg8 C8 b0 b1 b2 hbl
        rcases (show k = 0 ∨ k = 1 ∨ k = 2 ∨ 3 ≤ k by omega) with rfl | rfl | rfl | hk3
        · have C9 := hid (one_lit R (p1 + 1) 3 [0, 13, 1] w8 R8.out (by omega) rfl (by omega) (by omega) 0 62 (by decide))
          go_wp2_with fail
          refine C9.out.mono ?_
          rintro e w9 ⟨z, _, rfl, hr9, hg9⟩
          have R9 := hid hr9
          have G9 := hid (grown_tr G8.out hg9)
          have X9 := hid (X8.out.off hg9 hlt)
          clear hr9 hg9 C9
          obtain ⟨k0, g0, _⟩ := Rows.bcell2 (pre := []) (q := 0) X9.out rfl
          obtain ⟨k1, g1, _⟩ := Rows.bcell2 (pre := []) (q := 1) X9.out rfl
          obtain ⟨k2, g2, _⟩ := Rows.bcell2 (pre := []) (q := 2) X9.out rfl
          obtain ⟨l0, h0, _⟩ := Rows.bcell2 (pre := [_]) (q := 0) X9.out rfl
          obtain ⟨l1, h1, _⟩ := Rows.bcell2 (pre := [_]) (q := 1) X9.out rfl
          obtain ⟨l2, h2, _⟩ := Rows.bcell2 (pre := [_]) (q := 2) X9.out rfl
          go_wp2_with fail
          have Y0 := (Rows.boxset (pre := []) (j := 0) (u := .int .i64 z) X9.out)
          have Y1 := Rows.boxset (pre := [_]) (j := 0) (u := .int .i64 z) Y0
          have Y2 := Rows.boxset (pre := [_]) (j := 1) (u := .int .i64 lv) Y1
          have Y3 := Rows.boxset (pre := [_]) (j := 2) (u := .slice AK kn cK) Y2
          have f0 := (Rows.bcell2 (pre := [_]) (q := 0) Y3 rfl).1
          have f1 := (Rows.bcell2 (pre := [_]) (q := 1) Y3 rfl).1
          have f2 := (Rows.bcell2 (pre := [_]) (q := 2) Y3 rfl).1
          refine bodyPost_ret (v := .agg #[.int .i64 z, .int .i64 lv, .slice AK kn cK]) (by simp [results, Try.results37, go_sem, f0, f1, f2]) rfl ?_
          refine ⟨_, [⟨46, 4, kl.length, .slice AK kn cK, kl.flatMap rcells⟩], ⟨z, lv, kl⟩, p1 + 1 + 1, rfl, ⟨.slice AK kn cK, rfl, rfl⟩, HF.out, (by rw [hkl.out]; omega), ?_, by omega, ((((R9.out.set (b := bb) (j := 0) (u := .int .i64 z) (Nat.lt_trans hlt hs2)).set (b := rb) (j := 0) (u := .int .i64 z) hlt).set (b := rb) (j := 1) (u := .int .i64 lv) hlt).set (b := rb) (j := 2) (u := .slice AK kn cK) hlt), (grown_at (b := rb) (j := 2) (u := .slice AK kn cK) (grown_at (b := rb) (j := 1) (u := .int .i64 lv) (grown_at (b := rb) (j := 0) (u := .int .i64 z) (grown_at (b := bb) (j := 0) (u := .int .i64 z) G9.out (by rw [hrb.out]; omega)) (by rw [hrb.out]; exact Nat.le_refl _)) (by rw [hrb.out]; exact Nat.le_refl _)) (by rw [hrb.out]; exact Nat.le_refl _))⟩
          rw [hrb.out]
          exact Rows.one (by have h9 := Y3.1 ⟨46, 4, kn, .slice AK kn cK, kl.flatMap rcells⟩ (by simp); rw [hkl.out]; exact h9)
        · have C9 := hid (one_lit R (p1 + 1) 3 [0, 62, 10] w8 R8.out (by omega) rfl (by omega) (by omega) 0 62 (by decide))
          go_wp2_with fail
          refine C9.out.mono ?_
          rintro e w9 ⟨z, _, rfl, hr9, hg9⟩
          have R9 := hid hr9
          have G9 := hid (grown_tr G8.out hg9)
          have X9 := hid (X8.out.off hg9 hlt)
          clear hr9 hg9 C9
          obtain ⟨k0, g0, _⟩ := Rows.bcell2 (pre := []) (q := 0) X9.out rfl
          obtain ⟨k1, g1, _⟩ := Rows.bcell2 (pre := []) (q := 1) X9.out rfl
          obtain ⟨k2, g2, _⟩ := Rows.bcell2 (pre := []) (q := 2) X9.out rfl
          obtain ⟨l0, h0, _⟩ := Rows.bcell2 (pre := [_]) (q := 0) X9.out rfl
          obtain ⟨l1, h1, _⟩ := Rows.bcell2 (pre := [_]) (q := 1) X9.out rfl
          obtain ⟨l2, h2, _⟩ := Rows.bcell2 (pre := [_]) (q := 2) X9.out rfl
          go_wp2_with fail
          have Y0 := (Rows.boxset (pre := []) (j := 1) (u := .int .i64 z) X9.out)
          have Y1 := Rows.boxset (pre := [_]) (j := 0) (u := .int .i64 rm) Y0
          have Y2 := Rows.boxset (pre := [_]) (j := 1) (u := .int .i64 z) Y1
          have Y3 := Rows.boxset (pre := [_]) (j := 2) (u := .slice AK kn cK) Y2
          have f0 := (Rows.bcell2 (pre := [_]) (q := 0) Y3 rfl).1
          have f1 := (Rows.bcell2 (pre := [_]) (q := 1) Y3 rfl).1
          have f2 := (Rows.bcell2 (pre := [_]) (q := 2) Y3 rfl).1
          refine bodyPost_ret (v := .agg #[.int .i64 rm, .int .i64 z, .slice AK kn cK]) (by simp [results, Try.results37, go_sem, f0, f1, f2]) rfl ?_
          refine ⟨_, [⟨46, 4, kl.length, .slice AK kn cK, kl.flatMap rcells⟩], ⟨rm, z, kl⟩, p1 + 1 + 1, rfl, ⟨.slice AK kn cK, rfl, rfl⟩, HF.out, (by rw [hkl.out]; omega), ?_, by omega, ((((R9.out.set (b := bb) (j := 1) (u := .int .i64 z) (Nat.lt_trans hlt hs2)).set (b := rb) (j := 0) (u := .int .i64 rm) hlt).set (b := rb) (j := 1) (u := .int .i64 z) hlt).set (b := rb) (j := 2) (u := .slice AK kn cK) hlt), (grown_at (b := rb) (j := 2) (u := .slice AK kn cK) (grown_at (b := rb) (j := 1) (u := .int .i64 z) (grown_at (b := rb) (j := 0) (u := .int .i64 rm) (grown_at (b := bb) (j := 1) (u := .int .i64 z) G9.out (by rw [hrb.out]; omega)) (by rw [hrb.out]; exact Nat.le_refl _)) (by rw [hrb.out]; exact Nat.le_refl _)) (by rw [hrb.out]; exact Nat.le_refl _))⟩
          rw [hrb.out]
          exact Rows.one (by have h9 := Y3.1 ⟨46, 4, kn, .slice AK kn cK, kl.flatMap rcells⟩ (by simp); rw [hkl.out]; exact h9)
        · have C9 := hid (someRecords_c R (p1 + 1) w8 R8.out (by omega))
          go_wp2_with fail
          refine C9.out.mono ?_
          rintro e w9 ⟨vM, m, p9, rfl, hm25, hfm, ho9, hp9, hr9, hg9⟩
          obtain ⟨AM, cM, rfl, _, _⟩ := (Sl.of_own ho9).form
          generalize hmn : m.length = mn at *
          replace hmn := hid hmn
          have R9 := hid hr9
          have G9 := hid (grown_tr G8.out hg9)
          have FM := hid hfm
          have X9 := hid (show Rows w9 rb (⟨46, 4, mn, .slice AM mn cM, m.flatMap rcells⟩ :: [bxRow 29 3 bb [.int .i64 rm, .int .i64 lv, .slice AK kn cK], bxRow 29 3 rb [.int .i64 0, .int .i64 0, .slice none 0 0], ⟨46, 4, ln, .slice AL ln cL, l.flatMap rcells⟩, ⟨46, 4, kn, .slice AK kn cK, kl.flatMap rcells⟩]) from X8.out.newer_own hg9 hlt (Rows.one (r := ⟨46, 4, mn, .slice AM mn cM, m.flatMap rcells⟩) ho9) hs8)
          clear hr9 hg9 C9 ho9 hfm
          obtain ⟨k0, g0, _⟩ := Rows.bcell2 (pre := [_]) (q := 0) X9.out rfl
          obtain ⟨k1, g1, _⟩ := Rows.bcell2 (pre := [_]) (q := 1) X9.out rfl
          obtain ⟨k2, g2, _⟩ := Rows.bcell2 (pre := [_]) (q := 2) X9.out rfl
          obtain ⟨l0, h0, _⟩ := Rows.bcell2 (pre := [_, _]) (q := 0) X9.out rfl
          obtain ⟨l1, h1, _⟩ := Rows.bcell2 (pre := [_, _]) (q := 1) X9.out rfl
          obtain ⟨l2, h2, _⟩ := Rows.bcell2 (pre := [_, _]) (q := 2) X9.out rfl
          go_wp2_with fail
          have Y0 := (Rows.boxset (pre := [_]) (j := 2) (u := .slice AM mn cM) X9.out)
          have Y1 := Rows.boxset (pre := [_, _]) (j := 0) (u := .int .i64 rm) Y0
          have Y2 := Rows.boxset (pre := [_, _]) (j := 1) (u := .int .i64 lv) Y1
          have Y3 := Rows.boxset (pre := [_, _]) (j := 2) (u := .slice AM mn cM) Y2
          have f0 := (Rows.bcell2 (pre := [_, _]) (q := 0) Y3 rfl).1
          have f1 := (Rows.bcell2 (pre := [_, _]) (q := 1) Y3 rfl).1
          have f2 := (Rows.bcell2 (pre := [_, _]) (q := 2) Y3 rfl).1
          refine bodyPost_ret (v := .agg #[.int .i64 rm, .int .i64 lv, .slice AM mn cM]) (by simp [results, Try.results37, go_sem, f0, f1, f2]) rfl ?_
          refine ⟨_, [⟨46, 4, m.length, .slice AM mn cM, m.flatMap rcells⟩], ⟨rm, lv, m⟩, p9, rfl, ⟨.slice AM mn cM, rfl, rfl⟩, FM.out, (by rw [hmn.out]; omega), ?_, by omega, ((((R9.out.set (b := bb) (j := 2) (u := .slice AM mn cM) (Nat.lt_trans hlt hs2)).set (b := rb) (j := 0) (u := .int .i64 rm) hlt).set (b := rb) (j := 1) (u := .int .i64 lv) hlt).set (b := rb) (j := 2) (u := .slice AM mn cM) hlt), (grown_at (b := rb) (j := 2) (u := .slice AM mn cM) (grown_at (b := rb) (j := 1) (u := .int .i64 lv) (grown_at (b := rb) (j := 0) (u := .int .i64 rm) (grown_at (b := bb) (j := 2) (u := .slice AM mn cM) G9.out (by rw [hrb.out]; omega)) (by rw [hrb.out]; exact Nat.le_refl _)) (by rw [hrb.out]; exact Nat.le_refl _)) (by rw [hrb.out]; exact Nat.le_refl _))⟩
          rw [hrb.out]
          exact Rows.one (by have h9 := Y3.1 ⟨46, 4, mn, .slice AM mn cM, m.flatMap rcells⟩ (by simp); rw [hmn.out]; exact h9)
        · have q0 : ((k : Int) == 0) = false := by simp; omega
          have q1 : ((k : Int) == 1) = false := by simp; omega
          have q2 : ((k : Int) == 2) = false := by simp; omega
          obtain ⟨k0, g0, _⟩ := Rows.bcell2 (pre := []) (q := 0) X8.out rfl
          obtain ⟨k1, g1, _⟩ := Rows.bcell2 (pre := []) (q := 1) X8.out rfl
          obtain ⟨k2, g2, _⟩ := Rows.bcell2 (pre := []) (q := 2) X8.out rfl
          obtain ⟨l0, h0, _⟩ := Rows.bcell2 (pre := [_]) (q := 0) X8.out rfl
          obtain ⟨l1, h1, _⟩ := Rows.bcell2 (pre := [_]) (q := 1) X8.out rfl
          obtain ⟨l2, h2, _⟩ := Rows.bcell2 (pre := [_]) (q := 2) X8.out rfl
          go_wp2_with fail
          have Y0 := X8.out
          have Y1 := Rows.boxset (pre := [_]) (j := 0) (u := .int .i64 rm) Y0
          have Y2 := Rows.boxset (pre := [_]) (j := 1) (u := .int .i64 lv) Y1
          have Y3 := Rows.boxset (pre := [_]) (j := 2) (u := .slice AK kn cK) Y2
          have f0 := (Rows.bcell2 (pre := [_]) (q := 0) Y3 rfl).1
          have f1 := (Rows.bcell2 (pre := [_]) (q := 1) Y3 rfl).1
          have f2 := (Rows.bcell2 (pre := [_]) (q := 2) Y3 rfl).1
          refine bodyPost_ret (v := .agg #[.int .i64 rm, .int .i64 lv, .slice AK kn cK]) (by simp [results, Try.results37, go_sem, f0, f1, f2]) rfl ?_
          refine ⟨_, [⟨46, 4, kl.length, .slice AK kn cK, kl.flatMap rcells⟩], ⟨rm, lv, kl⟩, p1 + 1, rfl, ⟨.slice AK kn cK, rfl, rfl⟩, HF.out, (by rw [hkl.out]; omega), ?_, by omega, (((R8.out.set (b := rb) (j := 0) (u := .int .i64 rm) hlt).set (b := rb) (j := 1) (u := .int .i64 lv) hlt).set (b := rb) (j := 2) (u := .slice AK kn cK) hlt), (grown_at (b := rb) (j := 2) (u := .slice AK kn cK) (grown_at (b := rb) (j := 1) (u := .int .i64 lv) (grown_at (b := rb) (j := 0) (u := .int .i64 rm) G8.out (by rw [hrb.out]; exact Nat.le_refl _)) (by rw [hrb.out]; exact Nat.le_refl _)) (by rw [hrb.out]; exact Nat.le_refl _))⟩
          rw [hrb.out]
          exact Rows.one (by have h9 := Y3.1 ⟨46, 4, kn, .slice AK kn cK, kl.flatMap rcells⟩ (by simp); rw [hkl.out]; exact h9)
    · have hke := hkl.out
      have C8 := hid (pick_c R p1 24 wr HRd.out (by omega) (by omega))
      go_wp2_with fail
      refine C8.out.mono ?_
      rintro e w8 ⟨k, rfl, _, _, hr8, hg8⟩
      have R8 := hid hr8
      have G8 := hid (grown_tr HG.out hg8)
      have X8 := hid (HR.out.off hg8 hlt)
      have hs8 : rb ≤ w8.heap.size := Nat.le_trans hsz hg8.size
      clear hr8 hg8 C8 b0 b1 b2 hbl
      rcases (show k = 0 ∨ k = 1 ∨ k = 2 ∨ 3 ≤ k by omega) with rfl | rfl | rfl | hk3
      · have C9 := hid (one_lit R (p1 + 1) 3 [0, 13, 1] w8 R8.out (by omega) rfl (by omega) (by omega) 0 62 (by decide))
        go_wp2_with fail
        refine C9.out.mono ?_
        rintro e w9 ⟨z, _, rfl, hr9, hg9⟩
        have R9 := hid hr9
        have G9 := hid (grown_tr G8.out hg9)
        have X9 := hid (X8.out.off hg9 hlt)
        clear hr9 hg9 C9
        obtain ⟨k0, g0, _⟩ := Rows.bcell2 (pre := []) (q := 0) X9.out rfl
        obtain ⟨k1, g1, _⟩ := Rows.bcell2 (pre := []) (q := 1) X9.out rfl
        obtain ⟨k2, g2, _⟩ := Rows.bcell2 (pre := []) (q := 2) X9.out rfl
        obtain ⟨l0, h0, _⟩ := Rows.bcell2 (pre := [_]) (q := 0) X9.out rfl
        obtain ⟨l1, h1, _⟩ := Rows.bcell2 (pre := [_]) (q := 1) X9.out rfl
        obtain ⟨l2, h2, _⟩ := Rows.bcell2 (pre := [_]) (q := 2) X9.out rfl
        go_wp2_with fail
        have Y0 := (Rows.boxset (pre := []) (j := 0) (u := .int .i64 z) X9.out)
        have Y1 := Rows.boxset (pre := [_]) (j := 0) (u := .int .i64 z) Y0
        have Y2 := Rows.boxset (pre := [_]) (j := 1) (u := .int .i64 lv) Y1
        have Y3 := Rows.boxset (pre := [_]) (j := 2) (u := .slice AK kn cK) Y2
        have f0 := (Rows.bcell2 (pre := [_]) (q := 0) Y3 rfl).1
        have f1 := (Rows.bcell2 (pre := [_]) (q := 1) Y3 rfl).1
        have f2 := (Rows.bcell2 (pre := [_]) (q := 2) Y3 rfl).1
        refine bodyPost_ret (v := .agg #[.int .i64 z, .int .i64 lv, .slice AK kn cK]) (by simp [results, Try.results37, go_sem, f0, f1, f2]) rfl ?_
        refine ⟨_, [⟨46, 4, kl.length, .slice AK kn cK, kl.flatMap rcells⟩], ⟨z, lv, kl⟩, p1 + 1 + 1, rfl, ⟨.slice AK kn cK, rfl, rfl⟩, HF.out, (by rw [hkl.out]; omega), ?_, by omega, ((((R9.out.set (b := bb) (j := 0) (u := .int .i64 z) (Nat.lt_trans hlt hs2)).set (b := rb) (j := 0) (u := .int .i64 z) hlt).set (b := rb) (j := 1) (u := .int .i64 lv) hlt).set (b := rb) (j := 2) (u := .slice AK kn cK) hlt), (grown_at (b := rb) (j := 2) (u := .slice AK kn cK) (grown_at (b := rb) (j := 1) (u := .int .i64 lv) (grown_at (b := rb) (j := 0) (u := .int .i64 z) (grown_at (b := bb) (j := 0) (u := .int .i64 z) G9.out (by rw [hrb.out]; omega)) (by rw [hrb.out]; exact Nat.le_refl _)) (by rw [hrb.out]; exact Nat.le_refl _)) (by rw [hrb.out]; exact Nat.le_refl _))⟩
        rw [hrb.out]
        exact Rows.one (by have h9 := Y3.1 ⟨46, 4, kn, .slice AK kn cK, kl.flatMap rcells⟩ (by simp); rw [hkl.out]; exact h9)
      · have C9 := hid (one_lit R (p1 + 1) 3 [0, 62, 10] w8 R8.out (by omega) rfl (by omega) (by omega) 0 62 (by decide))
        go_wp2_with fail
        refine C9.out.mono ?_
        rintro e w9 ⟨z, _, rfl, hr9, hg9⟩
        have R9 := hid hr9
        have G9 := hid (grown_tr G8.out hg9)
        have X9 := hid (X8.out.off hg9 hlt)
        clear hr9 hg9 C9
        obtain ⟨k0, g0, _⟩ := Rows.bcell2 (pre := []) (q := 0) X9.out rfl
        obtain ⟨k1, g1, _⟩ := Rows.bcell2 (pre := []) (q := 1) X9.out rfl
        obtain ⟨k2, g2, _⟩ := Rows.bcell2 (pre := []) (q := 2) X9.out rfl
        obtain ⟨l0, h0, _⟩ := Rows.bcell2 (pre := [_]) (q := 0) X9.out rfl
        obtain ⟨l1, h1, _⟩ := Rows.bcell2 (pre := [_]) (q := 1) X9.out rfl
        obtain ⟨l2, h2, _⟩ := Rows.bcell2 (pre := [_]) (q := 2) X9.out rfl
        go_wp2_with fail
        have Y0 := (Rows.boxset (pre := []) (j := 1) (u := .int .i64 z) X9.out)
        have Y1 := Rows.boxset (pre := [_]) (j := 0) (u := .int .i64 rm) Y0
        have Y2 := Rows.boxset (pre := [_]) (j := 1) (u := .int .i64 z) Y1
        have Y3 := Rows.boxset (pre := [_]) (j := 2) (u := .slice AK kn cK) Y2
        have f0 := (Rows.bcell2 (pre := [_]) (q := 0) Y3 rfl).1
        have f1 := (Rows.bcell2 (pre := [_]) (q := 1) Y3 rfl).1
        have f2 := (Rows.bcell2 (pre := [_]) (q := 2) Y3 rfl).1
        refine bodyPost_ret (v := .agg #[.int .i64 rm, .int .i64 z, .slice AK kn cK]) (by simp [results, Try.results37, go_sem, f0, f1, f2]) rfl ?_
        refine ⟨_, [⟨46, 4, kl.length, .slice AK kn cK, kl.flatMap rcells⟩], ⟨rm, z, kl⟩, p1 + 1 + 1, rfl, ⟨.slice AK kn cK, rfl, rfl⟩, HF.out, (by rw [hkl.out]; omega), ?_, by omega, ((((R9.out.set (b := bb) (j := 1) (u := .int .i64 z) (Nat.lt_trans hlt hs2)).set (b := rb) (j := 0) (u := .int .i64 rm) hlt).set (b := rb) (j := 1) (u := .int .i64 z) hlt).set (b := rb) (j := 2) (u := .slice AK kn cK) hlt), (grown_at (b := rb) (j := 2) (u := .slice AK kn cK) (grown_at (b := rb) (j := 1) (u := .int .i64 z) (grown_at (b := rb) (j := 0) (u := .int .i64 rm) (grown_at (b := bb) (j := 1) (u := .int .i64 z) G9.out (by rw [hrb.out]; omega)) (by rw [hrb.out]; exact Nat.le_refl _)) (by rw [hrb.out]; exact Nat.le_refl _)) (by rw [hrb.out]; exact Nat.le_refl _))⟩
        rw [hrb.out]
        exact Rows.one (by have h9 := Y3.1 ⟨46, 4, kn, .slice AK kn cK, kl.flatMap rcells⟩ (by simp); rw [hkl.out]; exact h9)
      · have C9 := hid (someRecords_c R (p1 + 1) w8 R8.out (by omega))
        go_wp2_with fail
        refine C9.out.mono ?_
        rintro e w9 ⟨vM, m, p9, rfl, hm25, hfm, ho9, hp9, hr9, hg9⟩
        obtain ⟨AM, cM, rfl, _, _⟩ := (Sl.of_own ho9).form
        generalize hmn : m.length = mn at *
        replace hmn := hid hmn
        have R9 := hid hr9
        have G9 := hid (grown_tr G8.out hg9)
        have FM := hid hfm
        have X9 := hid (show Rows w9 rb (⟨46, 4, mn, .slice AM mn cM, m.flatMap rcells⟩ :: [bxRow 29 3 bb [.int .i64 rm, .int .i64 lv, .slice AK kn cK], bxRow 29 3 rb [.int .i64 0, .int .i64 0, .slice none 0 0], ⟨46, 4, ln, .slice AL ln cL, l.flatMap rcells⟩, ⟨46, 4, kn, .slice AK kn cK, kl.flatMap rcells⟩]) from X8.out.newer_own hg9 hlt (Rows.one (r := ⟨46, 4, mn, .slice AM mn cM, m.flatMap rcells⟩) ho9) hs8)
        clear hr9 hg9 C9 ho9 hfm
        obtain ⟨k0, g0, _⟩ := Rows.bcell2 (pre := [_]) (q := 0) X9.out rfl
        obtain ⟨k1, g1, _⟩ := Rows.bcell2 (pre := [_]) (q := 1) X9.out rfl
        obtain ⟨k2, g2, _⟩ := Rows.bcell2 (pre := [_]) (q := 2) X9.out rfl
        obtain ⟨l0, h0, _⟩ := Rows.bcell2 (pre := [_, _]) (q := 0) X9.out rfl
        obtain ⟨l1, h1, _⟩ := Rows.bcell2 (pre := [_, _]) (q := 1) X9.out rfl
        obtain ⟨l2, h2, _⟩ := Rows.bcell2 (pre := [_, _]) (q := 2) X9.out rfl
        go_wp2_with fail
        have Y0 := (Rows.boxset (pre := [_]) (j := 2) (u := .slice AM mn cM) X9.out)
        have Y1 := Rows.boxset (pre := [_, _]) (j := 0) (u := .int .i64 rm) Y0
        have Y2 := Rows.boxset (pre := [_, _]) (j := 1) (u := .int .i64 lv) Y1
        have Y3 := Rows.boxset (pre := [_, _]) (j := 2) (u := .slice AM mn cM) Y2
        have f0 := (Rows.bcell2 (pre := [_, _]) (q := 0) Y3 rfl).1
        have f1 := (Rows.bcell2 (pre := [_, _]) (q := 1) Y3 rfl).1
        have f2 := (Rows.bcell2 (pre := [_, _]) (q := 2) Y3 rfl).1
        refine bodyPost_ret (v := .agg #[.int .i64 rm, .int .i64 lv, .slice AM mn cM]) (by simp [results, Try.results37, go_sem, f0, f1, f2]) rfl ?_
        refine ⟨_, [⟨46, 4, m.length, .slice AM mn cM, m.flatMap rcells⟩], ⟨rm, lv, m⟩, p9, rfl, ⟨.slice AM mn cM, rfl, rfl⟩, FM.out, (by rw [hmn.out]; omega), ?_, by omega, ((((R9.out.set (b := bb) (j := 2) (u := .slice AM mn cM) (Nat.lt_trans hlt hs2)).set (b := rb) (j := 0) (u := .int .i64 rm) hlt).set (b := rb) (j := 1) (u := .int .i64 lv) hlt).set (b := rb) (j := 2) (u := .slice AM mn cM) hlt), (grown_at (b := rb) (j := 2) (u := .slice AM mn cM) (grown_at (b := rb) (j := 1) (u := .int .i64 lv) (grown_at (b := rb) (j := 0) (u := .int .i64 rm) (grown_at (b := bb) (j := 2) (u := .slice AM mn cM) G9.out (by rw [hrb.out]; omega)) (by rw [hrb.out]; exact Nat.le_refl _)) (by rw [hrb.out]; exact Nat.le_refl _)) (by rw [hrb.out]; exact Nat.le_refl _))⟩
        rw [hrb.out]
        exact Rows.one (by have h9 := Y3.1 ⟨46, 4, mn, .slice AM mn cM, m.flatMap rcells⟩ (by simp); rw [hmn.out]; exact h9)
      · have q0 : ((k : Int) == 0) = false := by simp; omega
        have q1 : ((k : Int) == 1) = false := by simp; omega
        have q2 : ((k : Int) == 2) = false := by simp; omega
        obtain ⟨k0, g0, _⟩ := Rows.bcell2 (pre := []) (q := 0) X8.out rfl
        obtain ⟨k1, g1, _⟩ := Rows.bcell2 (pre := []) (q := 1) X8.out rfl
        obtain ⟨k2, g2, _⟩ := Rows.bcell2 (pre := []) (q := 2) X8.out rfl
        obtain ⟨l0, h0, _⟩ := Rows.bcell2 (pre := [_]) (q := 0) X8.out rfl
        obtain ⟨l1, h1, _⟩ := Rows.bcell2 (pre := [_]) (q := 1) X8.out rfl
        obtain ⟨l2, h2, _⟩ := Rows.bcell2 (pre := [_]) (q := 2) X8.out rfl
        go_wp2_with fail
        have Y0 := X8.out
        have Y1 := Rows.boxset (pre := [_]) (j := 0) (u := .int .i64 rm) Y0
        have Y2 := Rows.boxset (pre := [_]) (j := 1) (u := .int .i64 lv) Y1
        have Y3 := Rows.boxset (pre := [_]) (j := 2) (u := .slice AK kn cK) Y2
        have f0 := (Rows.bcell2 (pre := [_]) (q := 0) Y3 rfl).1
        have f1 := (Rows.bcell2 (pre := [_]) (q := 1) Y3 rfl).1
        have f2 := (Rows.bcell2 (pre := [_]) (q := 2) Y3 rfl).1
        refine bodyPost_ret (v := .agg #[.int .i64 rm, .int .i64 lv, .slice AK kn cK]) (by simp [results, Try.results37, go_sem, f0, f1, f2]) rfl ?_
        refine ⟨_, [⟨46, 4, kl.length, .slice AK kn cK, kl.flatMap rcells⟩], ⟨rm, lv, kl⟩, p1 + 1, rfl, ⟨.slice AK kn cK, rfl, rfl⟩, HF.out, (by rw [hkl.out]; omega), ?_, by omega, (((R8.out.set (b := rb) (j := 0) (u := .int .i64 rm) hlt).set (b := rb) (j := 1) (u := .int .i64 lv) hlt).set (b := rb) (j := 2) (u := .slice AK kn cK) hlt), (grown_at (b := rb) (j := 2) (u := .slice AK kn cK) (grown_at (b := rb) (j := 1) (u := .int .i64 lv) (grown_at (b := rb) (j := 0) (u := .int .i64 rm) G8.out (by rw [hrb.out]; exact Nat.le_refl _)) (by rw [hrb.out]; exact Nat.le_refl _)) (by rw [hrb.out]; exact Nat.le_refl _))⟩
        rw [hrb.out]
        exact Rows.one (by have h9 := Y3.1 ⟨46, 4, kn, .slice AK kn cK, kl.flatMap rcells⟩ (by simp); rw [hkl.out]; exact h9)
end Go.Proofs.Ytfjpfdmlcgkfeaa
