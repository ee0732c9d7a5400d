/-
  DRAW of the law of records of handlers: what a drawn tree sends of drawn records. By gen_recof.py.
-/
import Derived.Test.YtihigemelekflaaE39
import Derived.Test.YtihigemelekflaaRO0
import Derived.Test.YtihigemelekflaaSN9
namespace Go.Proofs.Ytihigemelekflaa
open Go.RowKit Go.Proofs.Ytihigemelekflaa.Nm
set_option linter.unusedSimpArgs false
set_option linter.unusedVariables false

def handNames : List (List UInt8) := [[104], [111, 117, 116], [101, 114, 114], [108, 97, 115, 116], [110, 111]]
/-- drawn for a law: what was sent, and a name -/
def DrawSnts (w : World) (e : Ending) (w' : World) : Prop :=
  ∃ (A : Option Addr) (n c : Nat) (l : List Snt) (s : ByteArray), e = .returned (.tuple #[.slice A n c, .string s]) ∧ l.length = n ∧ n ≤ 360 ∧ (∀ x ∈ l, sncellsFit x) ∧ w'.ownsRow w.heap.size 34 6 (.slice A n c) n (l.flatMap sncells) ∧ s.size ≤ 20 ∧ Below w.heap.size w w'
theorem IsRow.leR {k : IntKind} {w : World} {a : Option Addr} {len cap : Nat} {z : List Int} (h : IsRow k w a len cap z) : len ≤ 9223372036854775807 := by
  rcases h with ⟨_, h, _, _⟩ | ⟨x, _, h1, h2, _⟩
  · omega
  · unfold maxLen at h2; omega
theorem treeS_formR {w : World} {lo : Nat} {rs : List Row} {v : Value} {L : List Lgr} {H : List Hnd} {q : Int} (h : TreeS rs v L H q) (hr : Rows w lo rs) : ∃ A1 n1 k1 A2 n2 k2, v = .agg #[.slice A1 n1 k1, .slice A2 n2 k2, .int .i64 q] ∧ n1 = L.length ∧ n2 = H.length := by
  obtain ⟨v1, v2, ls, hs, rfl, hL, hH, rfl⟩ := h
  obtain ⟨A1, k1, rfl, _, _⟩ := (Sl.of_own (show w.ownsRow _ 56 6 v1 ls.length (ls.flatMap lcells) from hr.left.head)).form
  obtain ⟨A2, k2, rfl, _, _⟩ := (Sl.of_own (show w.ownsRow _ 53 3 v2 hs.length (hs.flatMap hcells) from hr.right.head)).form
  exact ⟨A1, _, k1, A2, _, k2, rfl, by rw [← hL]; simp [lsOf], by rw [← hH]; simp [hsOf]⟩
theorem grown_to {w w' w2 : World} {g : Nat} {r : Option Nat} (h : w.grownBy w' (some g)) (hg : w'.grownBy w2 r) (hr : r = some g ∨ ∃ z, r = some z ∧ w.heap.size ≤ z) : w.grownBy w2 (some g) := by
  refine ⟨hg.os.trans h.os, hg.tape.trans h.tape, hg.output.trans h.output, Nat.le_trans h.size hg.size, fun k hk hne => ?_⟩
  refine (hg.block k (Nat.lt_of_lt_of_le hk h.size) (fun e => ?_)).trans (h.block k hk hne)
  rcases hr with hr | ⟨z, hr, hz⟩
  · exact hne (e.trans hr)
  · rw [hr] at e
    have := Option.some.inj e
    omega
set_option maxHeartbeats 8000000 in
set_option maxRecDepth 100000 in
theorem drawRecordsOf_c (a : Option Addr) (len cap : Nat) (z : List Int) (w : World) (h : IsRow .u8 w a len cap z) :
    Calls Try.prog 4 #[.slice a len cap] w (DrawSnts w) := by
  have C := hid (newReader_c a len cap z w h)
  clear h
  go_enter Try.func4, Try.ntmps4
  go_wp2_with fail
  refine C.out.mono ?_
  rintro e w1 ⟨rfl, hr1, hb1⟩
  have hlt1 : w.heap.size < w1.heap.size := hr1.lt
  have HB1 := hid hb1
  have C1 := hid (goodTreeG_c w.heap.size 0 w1 hr1 (by omega))
  clear hr1 hb1 C
  generalize hR : w.heap.size = R at C1
  replace hR := hid hR
  have hltR : R < w1.heap.size := by rw [← hR.out]; exact hlt1
  go_wp2_with fail
  try simp only [hR.out]
  refine C1.out.mono ?_
  rintro e w2 ⟨v, rs, L, H, q, p2, rfl, hs, hsm, hok, hr, hp2, hrd2, hg2⟩
  obtain ⟨A1, n1, k1, A2, n2, k2, rfl, -, -⟩ := treeS_formR hs hr
  have HS := hid (And.intro hs (And.intro (sm_fit hsm (by omega)) hok))
  have hs2 : w1.heap.size ≤ w2.heap.size := hg2.size
  have hbx : Below w2.heap.size w2 ((w2.alloc (.cells #[.slice A1 n1 k1, .slice A2 n2 k2, .int .i64 q] 41)).alloc (.cells #[] 34)) := ((Below.refl _ _).alloc (Nat.le_refl _) _).alloc (by simp) _
  have KT := hid ((Blk.new w2 #[.slice A1 n1 k1, .slice A2 n2 k2, .int .i64 q] 41).alloc (.cells #[] 34))
  have HO := hid (World.ownsRow_lit (base := (w2.alloc (.cells #[.slice A1 n1 k1, .slice A2 n2 k2, .int .i64 q] 41)).heap.size) (w2.alloc (.cells #[.slice A1 n1 k1, .slice A2 n2 k2, .int .i64 q] 41)) #[] 0 (Nat.le_refl _) (by unfold maxLen; omega) rfl : ((w2.alloc (.cells #[.slice A1 n1 k1, .slice A2 n2 k2, .int .i64 q] 41)).alloc (.cells #[] 34)).ownsRow (w2.alloc (.cells #[.slice A1 n1 k1, .slice A2 n2 k2, .int .i64 q] 41)).heap.size 34 6 (.slice (some ⟨(w2.alloc (.cells #[.slice A1 n1 k1, .slice A2 n2 k2, .int .i64 q] 41)).heap.size, 0, none⟩) 0 0) 0 [])
  simp only [World.size_alloc] at HO
  have X2 := hid (hr.below hbx)
  have C2 := hid (goodRecordsG_c R p2 ((w2.alloc (.cells #[.slice A1 n1 k1, .slice A2 n2 k2, .int .i64 q] 41)).alloc (.cells #[] 34)) (hrd2.below hbx) (by omega))
  have HB2 := hid ((HB1.out.trans (below_own hg2 HB1.out.size (by rw [hR.out]; exact Nat.le_refl _))).trans (hbx.mono (by omega)))
  have hs3 : w2.heap.size + 2 ≤ ((w2.alloc (.cells #[.slice A1 n1 k1, .slice A2 n2 k2, .int .i64 q] 41)).alloc (.cells #[] 34)).heap.size := by simp
  have hrw : ∀ r ∈ rs, r.v.ownBlock ≠ some (w2.heap.size + 1) := fun r hr9 e => by have := ((hr.1 r hr9).lt _ e).2; omega
  have HRW := hid hrw
  clear hs hr hsm hrd2 hg2 C1 hbx hrw hok HB1
  go_wp2_with fail
  generalize hbt : w2.heap.size = bt at *
  generalize (w2.alloc (.cells #[.slice A1 n1 k1, .slice A2 n2 k2, .int .i64 q] 41)).alloc (.cells #[] 34) = w3 at *
  refine C2.out.mono ?_
  rintro e w5 ⟨v5, l, p5, rfl, hl12, hgd, ho5, hp5, hr5, hg5⟩
  obtain ⟨A5, c5, rfl, _, hc5⟩ := (Sl.of_own ho5).form
  unfold maxLen at hc5
  have hs5 : w3.heap.size ≤ w5.heap.size := hg5.size
  have KT5 := hid (KT.out.kept hg5 (by simp; omega))
  have X5 := hid (X2.out.offR hg5 hltR)
  have HO5 := hid (own_off HO.out hg5 (by omega))
  have R5 := hid hr5
  have HB5 := hid (HB2.out.trans (below_own hg5 HB2.out.size (by rw [hR.out]; exact Nat.le_refl _)))
  have O5 := hid ho5
  have HGd := hid hgd
  generalize hln : l.length = n at *
  replace hln := hid hln
  have hgx : ∀ z, (Value.slice A5 n c5).ownBlock = some z → z ≠ bt + 1 := fun z e => by have := (ho5.lt _ e).1; omega
  have HGx := hid hgx
  clear ho5 hr5 hg5 hgd C2 KT X2 HO HB2 hgx
  have TT := hid (fun (W : World) (hW : w5.grownBy W (some (bt + 1))) => (show TreeIn W W.heap.size (.agg #[.slice A1 n1 k1, .slice A2 n2 k2, .int .i64 q]) L H q from HS.out.1.at_ (show Rows W w1.heap.size rs from ⟨fun r hr9 => (X5.out.1 r hr9).kept hW (.inr (HRW.out r hr9)), X5.out.2⟩) HS.out.2.1))
  have KK := hid (fun (W : World) (hW : w5.grownBy W (some (bt + 1))) => KT5.out.kept hW (by simp))
  have OL := hid (fun (W : World) (hW : w5.grownBy W (some (bt + 1))) => Sl.of_own (O5.out.kept hW (.inr (fun e => HGx.out _ e rfl))))
  have G0 := hid (show w5.grownBy w5 (some (bt + 1)) from ⟨rfl, rfl, rfl, Nat.le_refl _, fun _ _ _ => rfl⟩)
  clear KT5 X5 O5 HRW HGx
  go_wp2_with fail
  go_loopw [6, 8] (fun ov iv wr => ∃ (k : Nat) (x : List Snt), iv = .int .i64 k ∧ k ≤ n ∧ x.length ≤ 30 * k ∧ Hid (∀ y ∈ x, sncellsFit y) ∧ Hid (wr.ownsRow (bt + 1) 34 6 ov x.length (x.flatMap sncells)) ∧ Hid (w5.grownBy wr (some (bt + 1))) ∧ Hid (ov.ownBlock = some (bt + 1) ∨ ∃ z, ov.ownBlock = some z ∧ w5.heap.size ≤ z) ∧ Hid (Rdr wr R p5)) (fun _ iv _ => n - (intOf iv).toNat)
  case atStart => exact ⟨0, [], rfl, by omega, by simp, (fun y hy => by cases hy), HO5.out, G0.out, .inl rfl, R5.out⟩
  case round =>
    clear HO5 G0 R5
    obtain ⟨k, x, rfl, hk, hxl, HF, HOW, HG, HV, HR⟩ := hrel
    obtain ⟨Ax, cx, rfl, -, -⟩ := (Sl.of_own HOW.out).form
    by_cases hlt : k < n
    · obtain ⟨b, o, nm, lv, tx, sq, rfl, hbB, hx, c0, c1, c2, c3⟩ := rcells_at (OL.out wr HG.out) hlt
      have hgd := HGd.out _ (List.mem_of_getElem? hx)
      have hnm : nm.size ≤ 1048576 := by have := hgd.1.1; rw [Lib.size_eq]; show nm.data.toList.length ≤ _; have h9 : nm.data.toList.length ≤ 20 := this; omega
      have htx : tx.size ≤ 1048576 := by have := hgd.1.2; rw [Lib.size_eq]; show tx.data.toList.length ≤ _; have h9 : tx.data.toList.length ≤ 20 := this; omega
      have hcall := hid (fun (W : World) (hW : w5.grownBy W (some (bt + 1))) => specSend_c nm tx lv sq (TT.out W hW) (Nat.le_refl _) HS.out.2.2 hgd.2 hnm htx)
      have hsl := sendX_len L H q ⟨nm.data.toList, lv, tx.data.toList, sq⟩
      have hsf := (sendX_fit L H q (r := ⟨nm.data.toList, lv, tx.data.toList, sq⟩) (by rw [← Lib.size_eq]; exact hnm) (by rw [← Lib.size_eq]; exact htx)).2
      have hbw : b < wr.heap.size := World.block_lt_of_cell? _ _ c0
      obtain ⟨t0c, _⟩ := (KK.out wr HG.out).2 0 _ rfl
      obtain ⟨t1c, _⟩ := (KK.out wr HG.out).2 1 _ rfl
      obtain ⟨t2c, _⟩ := (KK.out wr HG.out).2 2 _ rfl
      have hbtw : bt < wr.heap.size := World.block_lt_of_cell? _ _ t0c
      have SGg := hid (fun (W : World) (hG : w5.grownBy W (some (bt + 1))) => (show (fun w' : World => w'.cell? ⟨bt, 0, none⟩ = some (.slice A1 n1 k1) ∧ w'.cell? ⟨bt, 1, none⟩ = some (.slice A2 n2 k2) ∧ w'.cell? ⟨bt, 2, none⟩ = some (.int .i64 q) ∧ w'.cell? ⟨b, o + k * 4, none⟩ = some (.string nm) ∧ w'.cell? ⟨b, o + k * 4 + 1, none⟩ = some (.int .i64 lv) ∧ w'.cell? ⟨b, o + k * 4 + 2, none⟩ = some (.string tx) ∧ w'.cell? ⟨b, o + k * 4 + 3, none⟩ = some (.int .i64 sq)) W from by
        have h1 := KK.out W hG
        obtain ⟨b', o', nm', lv', tx', sq', e', hb', hx', g0, g1, g2, g3⟩ := rcells_at (OL.out W hG) hlt
        obtain ⟨rfl, rfl⟩ : b = b' ∧ o = o' := by simpa using e'
        rw [hx] at hx'
        have hx'' := Option.some.inj hx'
        simp only [Rec.mk.injEq, bytes_eq_iff] at hx''
        obtain ⟨rfl, rfl, rfl, rfl⟩ := hx''
        exact ⟨(h1.2 0 _ rfl).1, (h1.2 1 _ rfl).1, (h1.2 2 _ rfl).1, g0, g1, g2, g3⟩))
      have s0 : (0 : Int) ≤ (k : Int) := by omega
      have s1 : (k : Int) < (n : Int) := by omega
      have s2 : ((k : Int)).toNat = k := by simp
      have hgdr : w5.grownBy wr.drew (some (bt + 1)) := grown_to (r := some (bt + 1)) HG.out ⟨rfl, rfl, rfl, Nat.le_refl _, fun _ _ _ => rfl⟩ (.inl rfl)
      have HGd2 := hid hgdr
      have HRd := hid (HR.out.below (Below.refl _ _).drew)
      clear hx hgd hgdr c0 c1 c2 c3 t0c t1c t2c HR
      go_wp2_with fail
      refine wp_region_held_drew (S := fun w' : World => w'.cell? ⟨bt, 0, none⟩ = some (.slice A1 n1 k1) ∧ w'.cell? ⟨bt, 1, none⟩ = some (.slice A2 n2 k2) ∧ w'.cell? ⟨bt, 2, none⟩ = some (.int .i64 q) ∧ w'.cell? ⟨b, o + k * 4, none⟩ = some (.string nm) ∧ w'.cell? ⟨b, o + k * 4 + 1, none⟩ = some (.int .i64 lv) ∧ w'.cell? ⟨b, o + k * 4 + 2, none⟩ = some (.string tx) ∧ w'.cell? ⟨b, o + k * 4 + 3, none⟩ = some (.int .i64 sq)) (by kernel_rfl) (SGg.out _ HGd2.out) (fun hS => ?_)
      refine wpAnyH_take (i := 0) (oi := ?oi101) (v := ?v101) ?hi101 (by kernel_rfl) ?hf101 ?hr101 ?hQ101 (Or.inl ⟨?hw101, ?hy101⟩) (by assumption) ?rest101
      case hi101 => simp only [List.getElem?_toArray, List.getElem?_cons_succ, List.getElem?_cons_zero]; rfl
      case hf101 => kernel_rfl
      case hr101 => kernel_rfl
      case hw101 => rfl
      case hy101 => (intro w hSw; (try dsimp only at hSw); go_simp; all_goals (first | done | with_reducible rfl))
      case hQ101 => exact fun _ _ _ h => h
      simp only [Act.put, List.setIfInBounds_toArray, List.set_cons_zero, List.set_cons_succ]
      refine wpAnyH_take (i := 1) (oi := ?oi102) (v := ?v102) ?hi102 (by kernel_rfl) ?hf102 ?hr102 ?hQ102 (Or.inl ⟨?hw102, ?hy102⟩) (by assumption) ?rest102
      case hi102 => simp only [List.getElem?_toArray, List.getElem?_cons_succ, List.getElem?_cons_zero]; rfl
      case hf102 => kernel_rfl
      case hr102 => kernel_rfl
      case hw102 => rfl
      case hy102 => (intro w hSw; (try dsimp only at hSw); go_simp; all_goals (first | done | with_reducible rfl))
      case hQ102 => exact fun _ _ _ h => h
      simp only [Act.put, List.setIfInBounds_toArray, List.set_cons_zero, List.set_cons_succ]
      refine wpAnyH_take (i := 2) (oi := ?oi103) (v := ?v103) ?hi103 (by kernel_rfl) ?hf103 ?hr103 ?hQ103 (Or.inl ⟨?hw103, ?hy103⟩) (by assumption) ?rest103
      case hi103 => simp only [List.getElem?_toArray, List.getElem?_cons_succ, List.getElem?_cons_zero]; rfl
      case hf103 => kernel_rfl
      case hr103 => kernel_rfl
      case hw103 => rfl
      case hy103 => (intro w hSw; (try dsimp only at hSw); go_simp; all_goals (first | done | with_reducible rfl))
      case hQ103 => exact fun _ _ _ h => h
      simp only [Act.put, List.setIfInBounds_toArray, List.set_cons_zero, List.set_cons_succ]
      refine wpAnyH_take (i := 3) (oi := ?oi104) (v := ?v104) ?hi104 (by kernel_rfl) ?hf104 ?hr104 ?hQ104 (Or.inl ⟨?hw104, ?hy104⟩) (by assumption) ?rest104
      case hi104 => simp only [List.getElem?_toArray, List.getElem?_cons_succ, List.getElem?_cons_zero]; rfl
      case hf104 => kernel_rfl
      case hr104 => kernel_rfl
      case hw104 => rfl
      case hy104 => (intro w hSw; (try dsimp only at hSw); go_simp; all_goals (first | done | with_reducible rfl))
      case hQ104 => exact fun _ _ _ h => h
      simp only [Act.put, List.setIfInBounds_toArray, List.set_cons_zero, List.set_cons_succ]
      refine wpAnyH_take (i := 4) (oi := ?oi105) (v := ?v105) ?hi105 (by kernel_rfl) ?hf105 ?hr105 ?hQ105 (Or.inl ⟨?hw105, ?hy105⟩) (by assumption) ?rest105
      case hi105 => simp only [List.getElem?_toArray, List.getElem?_cons_succ, List.getElem?_cons_zero]; rfl
      case hf105 => kernel_rfl
      case hr105 => kernel_rfl
      case hw105 => rfl
      case hy105 => (intro w hSw; (try dsimp only at hSw); go_simp; all_goals (first | done | with_reducible rfl))
      case hQ105 => exact fun _ _ _ h => h
      simp only [Act.put, List.setIfInBounds_toArray, List.set_cons_zero, List.set_cons_succ]
      refine wpAnyH_take (i := 5) (oi := ?oi106) (v := ?v106) ?hi106 (by kernel_rfl) ?hf106 ?hr106 ?hQ106 (Or.inl ⟨?hw106, ?hy106⟩) (by assumption) ?rest106
      case hi106 => simp only [List.getElem?_toArray, List.getElem?_cons_succ, List.getElem?_cons_zero]; rfl
      case hf106 => kernel_rfl
      case hr106 => kernel_rfl
      case hw106 => rfl
      case hy106 => (intro w hSw; (try dsimp only at hSw); go_simp; all_goals (first | done | with_reducible rfl))
      case hQ106 => exact fun _ _ _ h => h
      simp only [Act.put, List.setIfInBounds_toArray, List.set_cons_zero, List.set_cons_succ]
      refine wpAnyH_ready (rs := [6]) (by kernel_rfl) (by simp) ?_
      refine AllReadyH.cons (o := ?oi107) ?hi107 (fun K hK => ?step107) AllReadyH.nil
      case hi107 => simp only [List.getElem?_toArray, List.getElem?_cons_succ, List.getElem?_cons_zero]; rfl
      rw [if_pos (by rfl)]
      go_simp
      go_at_call 12
      refine (hcall.out _ HGd2.out).mono ?_
      rintro e w7 ⟨vS, rfl, hoS, hb⟩
      have hgw : wr.drew.grownBy w7 none := grown_of hb none
      have HG7 := hid (grown_to (r := some (bt + 1)) HGd2.out (grown_of hb (some (bt + 1))) (.inl rfl))
      have HO7 := hid (own_below HOW.out (show Below wr.heap.size wr w7 from ((Below.refl wr.heap.size wr).drew).trans hb))
      have HS7 := hid (Sl.of_own hoS)
      have HR7 := hid (HRd.out.below hb)
      have hs7 : wr.heap.size ≤ w7.heap.size := hb.size
      clear hb hoS hgw
      refine hK.out _ _ (SGg.out _ HG7.out) (fun hS => ?_)
      have HSF := hid hsf
      clear hsf
      generalize sendX L H q ⟨nm.data.toList, lv, tx.data.toList, sq⟩ = y at *
      obtain ⟨i0, hi, hz0, hz1, hz2⟩ := info_parts Try.infoSent
      refine wpAnyH_ready (rs := [7]) (by kernel_rfl) (by simp) ?_
      refine AllReadyH.cons (o := ?oi108) ?hi108 (fun K hK => ?step108) AllReadyH.nil
      case hi108 => simp only [List.getElem?_toArray, List.getElem?_cons_succ, List.getElem?_cons_zero]; rfl
      rw [if_pos (by rfl)]
      refine wp_appG rfl rfl (bt + 1) 34 i0 _ 6 80 Try.underlying23 hi hz0 hz1 hz2 rfl (by decide) (by rfl) HO7.out (by rfl) HS7.out (sncells_one _) (by unfold maxLen; omega) (by omega) (by have := HG7.out.size; omega) ?_
      intro v8 w8 ho8 hg8 hv8
      have HG8 := hid (grown_to HG7.out hg8 HV.out)
      have HO8 := hid (show w8.ownsRow (bt + 1) 34 6 v8 (x ++ y).length ((x ++ y).flatMap sncells) by simpa using ho8)
      have HV8 := hid (show v8.ownBlock = some (bt + 1) ∨ ∃ z, v8.ownBlock = some z ∧ w5.heap.size ≤ z from by
        rcases hv8 with hv8 | hv8
        · rw [hv8]; exact HV.out
        · exact .inr ⟨_, hv8, by have := HG.out.size; omega⟩)
      have HR8 := hid (HR7.out.off hg8 (fun z e => by
        rcases HV.out with h9 | ⟨z', h9, hz'⟩
        · rw [h9] at e; have := Option.some.inj e; omega
        · rw [h9] at e; have := Option.some.inj e; omega))
      clear ho8 hg8 hv8
      refine hK.out _ _ (SGg.out _ HG8.out) (fun hS => ?_)
      refine wpAnyH_take (i := 8) (oi := ?oi109) (v := ?v109) ?hi109 (by kernel_rfl) ?hf109 ?hr109 ?hQ109 (Or.inl ⟨?hw109, ?hy109⟩) (by assumption) ?rest109
      case hi109 => simp only [List.getElem?_toArray, List.getElem?_cons_succ, List.getElem?_cons_zero]; rfl
      case hf109 => kernel_rfl
      case hr109 => kernel_rfl
      case hw109 => rfl
      case hy109 => (intro w hSw; (try dsimp only at hSw); go_simp; all_goals (first | done | with_reducible rfl))
      case hQ109 => exact fun _ _ _ h => h
      simp only [Act.put, List.setIfInBounds_toArray, List.set_cons_zero, List.set_cons_succ]
      refine wpAnyH_done (by kernel_rfl) ?_ _
      clear hS
      go_wp2_with fail
      go_roundw
      case rel => exact ⟨k + 1, x ++ y, by go_num, by omega, by rw [List.length_append]; omega, (show ∀ z ∈ x ++ y, sncellsFit z from fun z hz => (List.mem_append.1 hz).elim (HF.out z) (HSF.out z)), HO8.out, HG8.out, HV8.out, HR8.out⟩
      case measure => simp [intOf]; omega
    · have C9 := hid (of_lit R p5 5 20 handNames wr HR.out (by omega) rfl (by omega) (by omega) (by decide))
      go_wp2_with fail
      refine C9.out.mono ?_
      rintro e w9 ⟨s, p9, hsz, rfl, hp9, hr9, hg9⟩
      have HB9 := hid (HB5.out.trans ((below_of_grown HG.out HB5.out.size (by intro z hz; cases hz; rw [hR.out]; omega)).trans (below_own hg9 (by rw [hR.out]; have := HR.out.lt; omega) (by rw [hR.out]; exact Nat.le_refl _))))
      have HO9 := hid (own_off HOW.out hg9 (by omega))
      clear hr9 hg9 C9
      go_wp2_with fail
      refine bodyPost_ret (v := .tuple #[.slice Ax x.length cx, .string s]) (by simp [results, Try.results4, go_sem]) rfl ?_
      exact ⟨Ax, x.length, cx, x, s, rfl, rfl, by omega, HF.out, own_base HO9.out (by rw [hR.out]; omega), hsz, HB9.out⟩
end Go.Proofs.Ytihigemelekflaa
