/-
  W9, W10, D0, D1, D2, D3, D4 laid together.
-/
import Derived.Test.YtaniaadmphojeaaDoorBase
import Derived.Test.YtaniaadmphojeaaDoorApp
import Derived.Test.YtaniaadmphojeaaDoorKRecs
/-
  WALKS: the reader of a drawn input (spec.newReader, pick, of), names that are drawn.
-/
namespace Go.Proofs.YtaniaadmphojeaaDoor
open Go.RowKit Nm
set_option linter.unusedSimpArgs false
set_option linter.unusedVariables false

/-- WHAT A LAW IS TOLD OF ITS CODE: nil, or a row of bytes. -/
def IsRow (k : IntKind) (w : World) (a : Option Addr) (len cap : Nat) (zs : List Int) : Prop :=
  (a = none ∧ len = 0 ∧ cap = 0 ∧ zs = []) ∨
  ∃ x, a = some x ∧ len ≤ cap ∧ cap ≤ maxLen ∧ zs.length = cap ∧ (∀ i, i < zs.length → w.cell? (x.add i) = some (.int k (zs.getD i 0))) ∧ ∀ n ∈ zs, (Lit.int k n).wf = true
/-- n bytes lie at A, in a block below R -/
def Bytes (w : World) (R : Nat) (A : Option Addr) (n : Nat) : Prop :=
  0 < n → ∃ b o, A = some ⟨b, o, none⟩ ∧ b < R ∧ b < w.heap.size ∧ ∀ j, j < n → ∃ x : Nat, x < 256 ∧ w.cell? ⟨b, o + j, none⟩ = some (.int .u8 x)
/-- block R is a reader that has read p numbers -/
def Rdr (w : World) (R p : Nat) : Prop :=
  ∃ A m c, w.heap[R]? = some (.cells #[.slice A m c, .int .i64 p] 84 (0, 0)) ∧ m ≤ 2000 ∧ m ≤ c ∧ c ≤ maxLen ∧ Bytes w R A m

theorem Bytes.kept {w w' : World} {R n : Nat} {A : Option Addr} (h : Bytes w R A n) (hg : w.grownBy w' (some R)) : Bytes w' R A n := by
  intro hn
  obtain ⟨b, o, e, h1, h2, h3⟩ := h hn
  refine ⟨b, o, e, h1, Nat.lt_of_lt_of_le h2 hg.size, fun j hj => ?_⟩
  obtain ⟨x, hx, hc⟩ := h3 j hj
  exact ⟨x, hx, (World.cell?_of_block (hg.block b h2 (by simpa using Nat.ne_of_lt h1))).trans hc⟩
theorem Rdr.lt {w : World} {R p : Nat} (h : Rdr w R p) : R < w.heap.size := by
  obtain ⟨A, m, c, h, _⟩ := h
  exact (Array.getElem?_eq_some_iff.1 h).1
theorem Rdr.below {w w' : World} {R p : Nat} (h : Rdr w R p) (hb : Below w.heap.size w w') : Rdr w' R p := by
  obtain ⟨A, m, c, h1, h2, h3, h4, h5⟩ := h
  exact ⟨A, m, c, (hb.block R (Array.getElem?_eq_some_iff.1 h1).1).trans h1, h2, h3, h4, h5.kept (grown_of hb _)⟩
theorem grown_drN {a w : World} {row : Option Nat} (h : a.grownBy w row) (n : Nat) : a.grownBy (w.drewN n) row := ⟨h.os, h.tape, h.output, h.size, h.block⟩

set_option maxHeartbeats 1000000 in
set_option maxRecDepth 100000 in
theorem newReader_c (a : Option Addr) (len cap : Nat) (z : List Int) (w : World) (h : IsRow .u8 w a len cap z) :
    Calls Tryd.prog 41 #[.slice a len cap] w fun e w' => e = .returned (.pointer (some ⟨w.heap.size, 0, none⟩)) ∧ Rdr w' w.heap.size 0 ∧ Below w.heap.size w w' := by
  have key : len ≤ cap ∧ cap ≤ maxLen ∧ ∀ n, n ≤ len → ∀ w', Below w.heap.size w w' → Bytes w' w.heap.size a n := by
    rcases h with ⟨rfl, rfl, rfl, rfl⟩ | ⟨x, rfl, h1, h2, h3, h4, h5⟩
    · exact ⟨Nat.le_refl _, Nat.zero_le _, fun n hn w' _ h0 => by omega⟩
    · refine ⟨h1, h2, fun n hn w' hb h0 => ?_⟩
      have hc0 := h4 0 (by omega)
      obtain ⟨b, o, rfl, hc⟩ := Go.ints_at h4 (by omega)
      have hlt : b < w.heap.size := World.block_lt_of_cell? w ⟨b, o, none⟩ (by simpa using hc 0 (by omega))
      refine ⟨b, o, rfl, by omega, Nat.lt_of_lt_of_le hlt hb.size, fun j hj => ?_⟩
      have hj2 : j < z.length := by omega
      have hm : z.getD j 0 ∈ z := by rw [List.getD_eq_getElem?_getD, List.getElem?_eq_getElem hj2]; exact List.getElem_mem hj2
      have hw := h5 _ hm
      have hw2 : 0 ≤ z.getD j 0 ∧ z.getD j 0 ≤ 255 := by simpa [Lit.wf, IntKind.min, IntKind.max, IntKind.signed, IntKind.bits] using hw
      refine ⟨(z.getD j 0).toNat, by omega, ?_⟩
      rw [(hb.cell (p := ⟨b, o + j, none⟩) hlt), hc j hj2]
      congr 2; omega
  obtain ⟨h1, h2, h3⟩ := key
  have H3 := hid h3
  have hcm := h2
  unfold maxLen at hcm
  clear h3 h
  by_cases hb : 2000 < len
  · go_enter Tryd.func41, Tryd.ntmps41
    go_wp2_with fail
    go_ret
    have hB : Below w.heap.size w (w.alloc (.cells #[.slice a 2000 cap, .int .i64 0] 84)) := (Below.refl _ _).alloc (Nat.le_refl _) _
    exact ⟨rfl, ⟨a, 2000, cap, heap_alloc_new w _, Nat.le_refl _, by omega, h2, H3.out 2000 (by omega) _ hB⟩, hB⟩
  · go_enter Tryd.func41, Tryd.ntmps41
    go_wp2_with fail
    go_ret
    have hB : Below w.heap.size w (w.alloc (.cells #[.slice a len cap, .int .i64 0] 84)) := (Below.refl _ _).alloc (Nat.le_refl _) _
    exact ⟨rfl, ⟨a, len, cap, heap_alloc_new w _, by omega, h1, h2, H3.out len (Nat.le_refl _) _ hB⟩, hB⟩

def PickPost (R p : Nat) (n : Int) (w : World) (e : Ending) (w' : World) : Prop :=
  ∃ k : Nat, e = .returned (.int .i64 k) ∧ (1 ≤ n → (k : Int) < n) ∧ (n < 1 → k = 0) ∧ Rdr w' R (p + 1) ∧ w.grownBy w' (some R)

theorem ofInt_toNat (a : Nat) (ha : a < 4611686018427387904) : (BitVec.ofInt 64 (a : Int)).toNat = a := by
  rw [BitVec.ofInt_natCast, BitVec.toNat_ofNat]; exact Nat.mod_eq_of_lt (by omega)
theorem xor_nat (a b : Nat) (ha : a < 4611686018427387904) (hb : b < 4611686018427387904) : bits BinOp.xor IntKind.i64 (a : Int) (b : Int) = ((a ^^^ b : Nat) : Int) := by
  have hx : a ^^^ b < 2 ^ 62 := Nat.xor_lt_two_pow (by omega) (by omega)
  show IntKind.i64.wrap ((BitVec.ofInt 64 (a : Int) ^^^ BitVec.ofInt 64 (b : Int)).toNat : Int) = _
  rw [BitVec.toNat_xor, ofInt_toNat a ha, ofInt_toNat b hb, IntKind.wrap_i64]
  omega
theorem wr_in (n : Int) (h1 : -4611686018427387904 ≤ n) (h2 : n ≤ 4611686018427387904) : wrap64 n = n := IntWalk.wrap64_in (by omega) (by omega)
theorem pick_val (x y p m N : Nat) (hx : x < 256) (hy : y < 256) (hp : p ≤ 1000000) (hN : 1 ≤ N) :
    ∃ r : Nat, ((bits BinOp.xor IntKind.i64 (wrap64 ((x : Int) * 131 + (y : Int) * 1117 + (p : Int) * 29 + wrap64 (wrap64 ((p : Int) / (m : Int)) * 53)))
      (wrap64 ((wrap64 ((x : Int) * 131 + (y : Int) * 1117 + (p : Int) * 29 + wrap64 (wrap64 ((p : Int) / (m : Int)) * 53))).tdiv 64))).tmod (N : Int)) = (r : Int) ∧ r < N := by
  have hq : p / m ≤ 1000000 := Nat.le_trans (Nat.div_le_self _ _) hp
  rw [show (p : Int) / (m : Int) = ((p / m : Nat) : Int) from rfl]
  generalize p / m = q at hq ⊢
  have e1 : wrap64 (q : Int) = (q : Int) := wr_in _ (by omega) (by omega)
  have e2 : wrap64 ((q : Int) * 53) = ((q * 53 : Nat) : Int) := by
    rw [wr_in _ (by omega) (by omega)]; omega
  rw [e1, e2]
  have e3 : wrap64 ((x : Int) * 131 + (y : Int) * 1117 + (p : Int) * 29 + ((q * 53 : Nat) : Int)) = ((x * 131 + y * 1117 + p * 29 + q * 53 : Nat) : Int) := by
    rw [wr_in _ (by omega) (by omega)]; omega
  rw [e3]
  generalize hX : x * 131 + y * 1117 + p * 29 + q * 53 = X
  have hXb : X < 1000000000 := by omega
  have e4 : wrap64 ((X : Int).tdiv 64) = ((X / 64 : Nat) : Int) := by
    rw [show (X : Int).tdiv 64 = ((X / 64 : Nat) : Int) from rfl]
    exact wr_in _ (by omega) (by omega)
  rw [e4, xor_nat X (X / 64) (by omega) (by omega)]
  exact ⟨(X ^^^ X / 64) % N, rfl, Nat.mod_lt _ hN⟩

set_option maxHeartbeats 4000000 in
set_option maxRecDepth 100000 in
theorem pick_c (R p : Nat) (n : Int) (w : World) (hr : Rdr w R p) (hp : p ≤ 1000000) (hn : n ≤ 1048577) :
    Calls Tryd.prog 54 #[.pointer (some ⟨R, 0, none⟩), .int .i64 n] w (PickPost R p n w) := by
  obtain ⟨A, m, c, hh, hm, hmc, hcm, hby⟩ := hr
  have hc0 : w.cell? ⟨R, 0, none⟩ = some (.slice A m c) := cell_of_row w R 0 _ _ _ hh
  have hc1 : w.cell? ⟨R, 1, none⟩ = some (.int .i64 p) := cell_of_row w R 1 _ _ _ hh
  have hf1 : w.frozen? ⟨R, 1, none⟩ = false := frozen_of_row w R 1 _ _ hh
  have hset : (w.setCell ⟨R, 1, none⟩ (.int .i64 ((p : Int) + 1))).heap[R]? = some (.cells #[.slice A m c, .int .i64 ((p : Int) + 1)] 84 (0, 0)) :=
    heap_setCell_same w R 1 _ _ _ hh
  have hgr : w.grownBy (w.setCell ⟨R, 1, none⟩ (.int .i64 ((p : Int) + 1))) (some R) :=
    ⟨rfl, rfl, rfl, by simp, fun k _ hk => heap_setCell_other w ⟨R, 1, none⟩ k _ (fun e => hk (by simp [e]))⟩
  have hrd : Rdr (w.setCell ⟨R, 1, none⟩ (.int .i64 ((p : Int) + 1))) R (p + 1) := ⟨A, m, c, hset, hm, hmc, hcm, hby.kept hgr⟩
  have HB := hid (And.intro hgr (And.intro hrd hby))
  clear hset hgr hrd hby hh
  by_cases h1 : n < 1
  · go_enter Tryd.func54, Tryd.ntmps54
    go_wp2_with fail
    go_ret
    exact ⟨0, rfl, fun h => by omega, fun _ => rfl, HB.out.2.1, HB.out.1⟩
  obtain ⟨N, rfl⟩ : ∃ N : Nat, n = N := ⟨n.toNat, by omega⟩
  by_cases h2 : m = 0
  · subst h2
    go_enter Tryd.func54, Tryd.ntmps54
    go_wp2_with fail
    go_ret
    exact ⟨0, rfl, fun h => by omega, fun _ => rfl, HB.out.2.1, HB.out.1⟩
  have b2 : ((m : Int) == 0) = false := by simpa using h2
  obtain ⟨b, o, rfl, hbR', hbl, hbc⟩ := HB.out.2.2 (by omega)
  have hbR := Nat.ne_of_lt hbR'
  by_cases h3 : p < m
  · obtain ⟨x, hx, hcx⟩ := hbc p h3
    have hne : (⟨b, o + p, none⟩ : Addr) ≠ ⟨R, 1, none⟩ := by simp [hbR]
    clear hbc
    go_enter Tryd.func54, Tryd.ntmps54
    go_wp2_with fail
    go_ret
    exact ⟨x % N, ret_int (by omega), fun _ => by have := Nat.mod_lt x (show 0 < N by omega); omega, fun h => by omega, HB.out.2.1, HB.out.1⟩
  · have hm0 : 0 < m := by omega
    have i1 := Nat.mod_lt p hm0
    have i2 := Nat.mod_lt (p * 7 + 3) hm0
    obtain ⟨x, hx, hcx⟩ := hbc (p % m) i1
    obtain ⟨y, hy, hcy⟩ := hbc ((p * 7 + 3) % m) i2
    have j1 : 0 ≤ (p : Int) % (m : Int) := Int.emod_nonneg _ (by omega)
    have j2 : (p : Int) % (m : Int) < (m : Int) := Int.emod_lt_of_pos _ (by omega)
    have j3 : ((p : Int) % (m : Int)).toNat = p % m := rfl
    have j4 : 0 ≤ ((p : Int) * 7 + 3) % (m : Int) := Int.emod_nonneg _ (by omega)
    have j5 : ((p : Int) * 7 + 3) % (m : Int) < (m : Int) := Int.emod_lt_of_pos _ (by omega)
    have j6 : (((p : Int) * 7 + 3) % (m : Int)).toNat = (p * 7 + 3) % m := rfl
    clear hbc
    go_enter Tryd.func54, Tryd.ntmps54
    go_wp2_with fail
    go_quiet (fail)
    go_wp2_with fail
    go_ret
    obtain ⟨r, hr1, hr2⟩ := pick_val x y p m N hx hy hp (by omega)
    exact ⟨r, ret_int hr1, fun _ => by omega, fun h => by omega, HB.out.2.1, grown_drN HB.out.1 _⟩
end Go.Proofs.YtaniaadmphojeaaDoor

/-
  WALKS: names and pairs of names that are drawn.
-/
namespace Go.Proofs.YtaniaadmphojeaaDoor
open Go.RowKit Nm
set_option linter.unusedSimpArgs false
set_option linter.unusedVariables false

/-- a drawn text: of at most 'most' bytes; the reader has gone on by at most dp -/
def TxtPost (R p dp most : Nat) (w : World) (e : Ending) (w' : World) : Prop :=
  ∃ (x : ByteArray) (p' : Nat), x.size ≤ most ∧ e = .returned (.string x) ∧ p' ≤ p + dp ∧ Rdr w' R p' ∧ w.grownBy w' (some R)

def OfPost (R p : Nat) (ws : List (List UInt8)) (w : World) (e : Ending) (w' : World) : Prop :=
  ∃ x : ByteArray, x.data.toList ∈ ws ∧ e = .returned (.string x) ∧ Rdr w' R (p + 1) ∧ w.grownBy w' (some R)

set_option maxHeartbeats 1000000 in
set_option maxRecDepth 100000 in
theorem of_c (R p g n c : Nat) (ws : List (List UInt8)) (w : World) (hr : Rdr w R p) (hp : p ≤ 1000000) (hn : n = ws.length) (hn1 : 1 ≤ n) (hn2 : n ≤ 1000) (hgR : g ≠ R) (hg : w.heap[g]? = some (.cells (ws.map txt).toArray 9 (0, 0))) :
    Calls Tryd.prog 66 #[.pointer (some ⟨R, 0, none⟩), .slice (some ⟨g, 0, none⟩) n c] w (OfPost R p ws w) := by
  have hcall := hid (pick_c R p n w hr hp (by omega))
  have hglt : g < w.heap.size := (Array.getElem?_eq_some_iff.1 hg).1
  have HN := hid (And.intro hn hg)
  clear hn hg
  go_enter Tryd.func66, Tryd.ntmps66
  go_wp2_with fail
  refine hcall.out.mono ?_
  rintro e w1 ⟨k, rfl, hk1, hk2, hr1, hg1⟩
  have hkn : k < n := by have := hk1 (by omega); omega
  obtain ⟨hn, hg⟩ := HN.out
  obtain ⟨x, hx1, hx2⟩ := txt_at ws k (by omega)
  have hb1 : w1.heap[g]? = some (.cells (ws.map txt).toArray 9 (0, 0)) := (hg1.block g hglt (by simpa using hgR)).trans hg
  have hc1 : w1.cell? ⟨g, k, none⟩ = some (.string x) := by
    rw [cell_of_row w1 g k _ _ _ hb1]; simpa using hx2
  have HX := hid (List.mem_of_getElem? hx1)
  have HR := hid (And.intro hr1 hg1)
  clear hk1 hk2 hr1 hg1 hn hg hx1 hx2 hb1
  go_wp2_with fail
  go_ret
  exact ⟨x, HX.out, rfl, HR.out.1, HR.out.2⟩

theorem of_small {R p : Nat} {ws : List (List UInt8)} {w w0 w' : World} {e : Ending} {most : Nat} (h : OfPost R p ws w e w') (hw : w0.grownBy w (some R)) (hm : ∀ l ∈ ws, l.length ≤ most) : TxtPost R p 1 most w0 e w' := by
  obtain ⟨x, hx, he, hr, hg⟩ := h
  exact ⟨x, p + 1, by rw [Lib.size_eq]; exact hm _ hx, he, Nat.le_refl _, hr, grown_tr hw hg⟩

def aNames : List (List UInt8) := [[97], [97, 46, 98], [97, 46, 98, 46, 99], [98], [97, 46, 99], [98, 46, 97], [], [97, 46, 98, 46, 99, 46, 100], [99]]
def badNames : List (List UInt8) := [[65], [97, 46], [46, 97], [97, 46, 46, 98], [97, 98, 99, 100, 101], [97, 46, 98, 46, 99, 46, 100, 46, 101], [97, 32, 98], [97, 98, 46, 97]]

set_option maxHeartbeats 1000000 in
set_option maxRecDepth 100000 in
theorem aName_c (R p : Nat) (w : World) (hr : Rdr w R p) (hp : p ≤ 1000000) :
    Calls Tryd.prog 67 #[.pointer (some ⟨R, 0, none⟩)] w (TxtPost R p 1 12 w) := by
  have hlt := hr.lt
  have HR := hid hr
  clear hr
  go_enter Tryd.func67, Tryd.ntmps67
  go_wp2_with fail
  refine (of_c R p w.heap.size 9 9 aNames _ ?_ hp rfl (by omega) (by omega) (by omega) (heap_alloc_new w _)).mono ?_
  · exact HR.out.below ((Below.refl _ _).alloc (Nat.le_refl _) _)
  intro e w1 h1
  have H1 := hid (of_small (most := 12) h1 (World.grownBy_alloc w _ _) (by decide))
  obtain ⟨x, hx, rfl, _, _⟩ := h1
  clear hx
  go_wp2_with fail
  go_ret
  exact H1.out

set_option maxHeartbeats 1000000 in
set_option maxRecDepth 100000 in
theorem anyName_c (R p : Nat) (w : World) (hr : Rdr w R p) (hp : p ≤ 900000) :
    Calls Tryd.prog 55 #[.pointer (some ⟨R, 0, none⟩)] w (TxtPost R p 2 12 w) := by
  have hcall := hid (pick_c R p 12 w hr (by omega) (by omega))
  clear hr
  go_enter Tryd.func55, Tryd.ntmps55
  go_wp2_with fail
  refine hcall.out.mono ?_
  rintro e w1 ⟨k, rfl, _, _, hr1, hg1⟩
  have HR := hid (And.intro hr1 hg1)
  have hlt := hr1.lt
  clear hr1 hg1
  by_cases hk : k = 0
  · subst hk
    go_wp2_with fail
    refine (of_c R (p + 1) w1.heap.size 8 8 badNames _ ?_ (by omega) rfl (by omega) (by omega) (by omega) (heap_alloc_new w1 _)).mono ?_
    · exact HR.out.1.below ((Below.refl _ _).alloc (Nat.le_refl _) _)
    intro e w2 h2
    have H2 := hid (of_small (most := 12) h2 (grown_tr HR.out.2 (World.grownBy_alloc w1 _ _)) (by decide))
    obtain ⟨x, hx, rfl, _, _⟩ := h2
    clear hx
    go_wp2_with fail
    go_ret
    obtain ⟨x', p', h1, h2, h3, h4, h5⟩ := H2.out
    exact ⟨x', p', h1, h2, by omega, h4, h5⟩
  · have b0 : ((k : Int) == 0) = false := by simpa using hk
    have HK := hid hk
    clear hk
    go_wp2_with fail
    refine (aName_c R (p + 1) w1 HR.out.1 (by omega)).mono ?_
    rintro e w2 ⟨x, p', hx, rfl, hp', hr2, hg2⟩
    have H2 := hid (And.intro hr2 hg2)
    clear hr2 hg2
    go_wp2_with fail
    go_ret
    exact ⟨x, p', hx, rfl, by omega, H2.out.1, grown_tr HR.out.2 H2.out.2⟩

/-- a drawn name; nothing that was there has turned -/
def DrawnPost (most : Nat) (w : World) (e : Ending) (w' : World) : Prop := ∃ x : ByteArray, x.size ≤ most ∧ e = .returned (.string x) ∧ Below w.heap.size w w'
def Drawn2Post (most : Nat) (w : World) (e : Ending) (w' : World) : Prop := ∃ x y : ByteArray, x.size ≤ most ∧ y.size ≤ most ∧ e = .returned (.tuple #[.string x, .string y]) ∧ Below w.heap.size w w'
theorem below_own {w w' : World} {R B : Nat} (hg : w.grownBy w' (some R)) (hB : B ≤ w.heap.size) (hR : B ≤ R) : Below B w w' := below_of_grown hg hB (fun k hk => by cases hk; exact hR)

end Go.Proofs.YtaniaadmphojeaaDoor

/-
  DRAWS: the reader and what it leaves as it is; numbers, texts out of lists.
-/
namespace Go.Proofs.YtaniaadmphojeaaDoor
open Go.RowKit Nm
set_option linter.unusedSimpArgs false
set_option linter.unusedVariables false

theorem Rdr.off {w w' : World} {R p : Nat} {row : Option Nat} (h : Rdr w R p) (hg : w.grownBy w' row) (hb : ∀ g, row = some g → R < g) : Rdr w' R p := by
  obtain ⟨A, m, c, h1, h2, h3, h4, h5⟩ := h
  refine ⟨A, m, c, (hg.block R (Array.getElem?_eq_some_iff.1 h1).1 (fun e => by have := hb R e.symm; omega)).trans h1, h2, h3, h4, fun hn => ?_⟩
  obtain ⟨b, o, e, i1, i2, i3⟩ := h5 hn
  refine ⟨b, o, e, i1, Nat.lt_of_lt_of_le i2 hg.size, fun j hj => ?_⟩
  obtain ⟨x, hx, hc⟩ := i3 j hj
  exact ⟨x, hx, (World.cell?_of_block (hg.block b i2 (fun e => by have := hb b e.symm; omega))).trans hc⟩
theorem grow_cell (w : World) (b j : Nat) (u : Value) : w.grownBy (w.setCell ⟨b, j, none⟩ u) (some b) :=
  ⟨rfl, rfl, rfl, by simp, fun k _ hk => heap_setCell_other w ⟨b, j, none⟩ k _ (fun e => hk (by simp [e]))⟩
theorem Rdr.set {w : World} {R p b j : Nat} {u : Value} (h : Rdr w R p) (hb : R < b) : Rdr (w.setCell ⟨b, j, none⟩ u) R p := h.off (grow_cell w b j u) (fun g e => by cases e; exact hb)
theorem grown_off {w w' w2 : World} {r row : Option Nat} (h : w.grownBy w' r) (hg : w'.grownBy w2 row) (hb : ∀ g, row = some g → w.heap.size ≤ g) : w.grownBy w2 r :=
  ⟨hg.os.trans h.os, hg.tape.trans h.tape, hg.output.trans h.output, Nat.le_trans h.size hg.size, fun k hk hr => (hg.block k (Nat.lt_of_lt_of_le hk h.size) (fun e => by have := hb k e.symm; omega)).trans (h.block k hk hr)⟩
theorem grown_at {w w' : World} {r : Option Nat} (h : w.grownBy w' r) {b j : Nat} {u : Value} (hb : w.heap.size ≤ b) : w.grownBy (w'.setCell ⟨b, j, none⟩ u) r := grown_off h (grow_cell w' b j u) (fun g e => by cases e; exact hb)
theorem grown_new {w w' w2 : World} {r : Option Nat} (h : w.grownBy w' r) (hb : Below w'.heap.size w' w2) : w.grownBy w2 r := grown_tr h (grown_of hb r)
theorem own_off {w w' : World} {R base d n : Nat} {e : TypeId} {v : Value} {xs : List Value} (h : w.ownsRow base e d v n xs) (hg : w.grownBy w' (some R)) (hR : R < base) : w'.ownsRow base e d v n xs :=
  h.kept hg (.inr (fun e2 => by have := (h.lt R e2).1; omega))

def intv (z : Int) : Value := .int .i64 z
def OnePost (R p : Nat) (zs : List Int) (w : World) (e : Ending) (w' : World) : Prop :=
  ∃ z : Int, z ∈ zs ∧ e = .returned (.int .i64 z) ∧ Rdr w' R (p + 1) ∧ w.grownBy w' (some R)
theorem int_at (zs : List Int) (k : Nat) (hk : k < zs.length) : ∃ z, zs[k]? = some z ∧ (zs.map intv)[k]? = some (.int .i64 z) :=
  ⟨zs[k], List.getElem?_eq_getElem hk, by rw [List.getElem?_map, List.getElem?_eq_getElem hk]; rfl⟩

set_option maxHeartbeats 1000000 in
set_option maxRecDepth 100000 in
theorem one_c (R p g n c : Nat) (zs : List Int) (w : World) (hr : Rdr w R p) (hp : p ≤ 1000000) (hn : n = zs.length) (hn1 : 1 ≤ n) (hn2 : n ≤ 1000) (hgR : g ≠ R) (hg : w.heap[g]? = some (.cells (zs.map intv).toArray 3 (0, 0))) :
    Calls Tryd.prog 52 #[.pointer (some ⟨R, 0, none⟩), .slice (some ⟨g, 0, none⟩) n c] w (OnePost R p zs w) := by
  have hcall := hid (pick_c R p n w hr hp (by omega))
  have hglt : g < w.heap.size := (Array.getElem?_eq_some_iff.1 hg).1
  have HN := hid (And.intro hn hg)
  clear hn hg
  go_enter Tryd.func52, Tryd.ntmps52
  go_wp2_with fail
  refine hcall.out.mono ?_
  rintro e w1 ⟨k, rfl, hk1, hk2, hr1, hg1⟩
  have hkn : k < n := by have := hk1 (by omega); omega
  obtain ⟨hn, hg⟩ := HN.out
  obtain ⟨x, hx1, hx2⟩ := int_at zs k (by omega)
  have hb1 : w1.heap[g]? = some (.cells (zs.map intv).toArray 3 (0, 0)) := (hg1.block g hglt (by simpa using hgR)).trans hg
  have hc1 : w1.cell? ⟨g, k, none⟩ = some (.int .i64 x) := by
    rw [cell_of_row w1 g k _ _ _ hb1]; simpa using hx2
  have HX := hid (List.mem_of_getElem? hx1)
  have HR := hid (And.intro hr1 hg1)
  clear hk1 hk2 hr1 hg1 hn hg hx1 hx2 hb1
  go_wp2_with fail
  go_ret
  exact ⟨x, HX.out, rfl, HR.out.1, HR.out.2⟩
/-- a number out of a list that was just laid down -/
theorem one_lit (R p n : Nat) (zs : List Int) (w : World) (hr : Rdr w R p) (hp : p ≤ 1000000) (hn : n = zs.length) (hn1 : 1 ≤ n) (hn2 : n ≤ 1000) (lo hi : Int) (hz : ∀ z ∈ zs, lo ≤ z ∧ z ≤ hi) :
    Calls Tryd.prog 52 #[.pointer (some ⟨R, 0, none⟩), .slice (some ⟨w.heap.size, 0, none⟩) n n] (w.alloc (.cells (zs.map intv).toArray 3)) fun e w' =>
      ∃ z : Int, (lo ≤ z ∧ z ≤ hi) ∧ e = .returned (.int .i64 z) ∧ Rdr w' R (p + 1) ∧ w.grownBy w' (some R) := by
  have hlt := hr.lt
  refine (one_c R p w.heap.size n n zs _ (hr.below ((Below.refl _ _).alloc (Nat.le_refl _) _)) hp hn hn1 hn2 (by omega) (heap_alloc_new w _)).mono ?_
  rintro e w' ⟨z, h1, h2, h3, h4⟩
  exact ⟨z, hz z h1, h2, h3, grown_tr (World.grownBy_alloc w _ _) h4⟩
/-- a text out of a list that was just laid down -/
theorem of_lit (R p n most : Nat) (ws : List (List UInt8)) (w : World) (hr : Rdr w R p) (hp : p ≤ 1000000) (hn : n = ws.length) (hn1 : 1 ≤ n) (hn2 : n ≤ 1000) (hm : ∀ l ∈ ws, l.length ≤ most) :
    Calls Tryd.prog 66 #[.pointer (some ⟨R, 0, none⟩), .slice (some ⟨w.heap.size, 0, none⟩) n n] (w.alloc (.cells (ws.map txt).toArray 9)) (TxtPost R p 1 most w) := by
  have hlt := hr.lt
  refine (of_c R p w.heap.size n n ws _ (hr.below ((Below.refl _ _).alloc (Nat.le_refl _) _)) hp hn hn1 hn2 (by omega) (heap_alloc_new w _)).mono ?_
  intro e w' h
  exact of_small h (World.grownBy_alloc w _ _) hm

theorem Rdr.low {w w' : World} {R p B : Nat} (h : Rdr w R p) (hb : Below B w w') (hR : R < B) : Rdr w' R p := by
  obtain ⟨A, m, c, h1, h2, h3, h4, h5⟩ := h
  refine ⟨A, m, c, (hb.block R hR).trans h1, h2, h3, h4, fun hn => ?_⟩
  obtain ⟨b, o, e, i1, i2, i3⟩ := h5 hn
  refine ⟨b, o, e, i1, Nat.lt_of_lt_of_le i2 hb.size, fun j hj => ?_⟩
  obtain ⟨x, hx, hc⟩ := i3 j hj
  exact ⟨x, hx, (hb.cell (p := ⟨b, o + j, none⟩) (by show b < B; omega)).trans hc⟩
theorem grown_low {w w1 w2 : World} {r : Option Nat} (h : w.grownBy w1 r) (hb : Below w.heap.size w1 w2) : w.grownBy w2 r :=
  ⟨hb.os.trans h.os, hb.tape.trans h.tape, hb.output.trans h.output, Nat.le_trans h.size hb.size, fun k hk hr => (hb.block k hk).trans (h.block k hk hr)⟩
theorem own_cellset {w : World} {base d n c g b j : Nat} {e : TypeId} {xs : List Value} {u : Value} (h : w.ownsRow base e d (.slice (some ⟨g, 0, none⟩) n c) n xs) (hne : g ≠ b) : (w.setCell ⟨b, j, none⟩ u).ownsRow base e d (.slice (some ⟨g, 0, none⟩) n c) n xs :=
  h.kept (grow_cell w b j u) (.inr (fun e2 => hne (Option.some.inj e2)))
end Go.Proofs.YtaniaadmphojeaaDoor

/-
  DRAWS: texts, records.
-/
namespace Go.Proofs.YtaniaadmphojeaaDoor
open Go.RowKit Nm
set_option linter.unusedSimpArgs false
set_option linter.unusedVariables false

def texts7 : List (List UInt8) := [[120], [110, 111], [120, 32, 121], [], [97, 108, 108, 32, 105, 115, 32, 119, 101, 108, 108], [110, 111, 32, 120], [103, 111, 32, 111, 110]]
/-- a drawn record -/
def RecPost (R p dp : Nat) (w : World) (e : Ending) (w' : World) : Prop :=
  ∃ (nm tx : ByteArray) (lv sq : Int) (p' : Nat), (nm.size ≤ 20 ∧ tx.size ≤ 20) ∧ (-1000 ≤ lv ∧ lv ≤ 1000) ∧ (-1000 ≤ sq ∧ sq ≤ 1000) ∧ e = .returned (.agg #[.string nm, .int .i64 lv, .string tx, .int .i64 sq]) ∧ p' ≤ p + dp ∧ Rdr w' R p' ∧ w.grownBy w' (some R)

end Go.Proofs.YtaniaadmphojeaaDoor

/-
  DRAWS: records that may be invalid, lists of records. By gen_d2.py.
-/
namespace Go.Proofs.YtaniaadmphojeaaDoor
open Go.RowKit Nm
set_option linter.unusedSimpArgs false
set_option linter.unusedVariables false

def texts2 : List (List UInt8) := [[65], [97, 32, 109, 117, 99, 104, 32, 108, 111, 110, 103, 101, 114, 32, 116, 101, 120, 116]]
end Go.Proofs.YtaniaadmphojeaaDoor

/-
  DRAWS: lists of records. By gen_d2.py.
-/
namespace Go.Proofs.YtaniaadmphojeaaDoor
open Go.RowKit Nm
set_option linter.unusedSimpArgs false
set_option linter.unusedVariables false

theorem fit_add {l : List Rec} {x : Rec} (h : ∀ x ∈ l, x.nm.length ≤ 20 ∧ x.tx.length ≤ 20) (hx : x.nm.length ≤ 20 ∧ x.tx.length ≤ 20) : ∀ y ∈ l ++ [x], y.nm.length ≤ 20 ∧ y.tx.length ≤ 20 := by
  intro y hy
  rcases List.mem_append.1 hy with hy | hy
  · exact h y hy
  · rw [List.mem_singleton.1 hy]; exact hx

end Go.Proofs.YtaniaadmphojeaaDoor

/-
  DRAWS: lists of records that may be invalid. By gen_d4.py.
-/
namespace Go.Proofs.YtaniaadmphojeaaDoor
open Go.RowKit Nm
set_option linter.unusedSimpArgs false
set_option linter.unusedVariables false

abbrev fit20 (l : List Rec) : Prop := ∀ x ∈ l, x.nm.length ≤ 20 ∧ x.tx.length ≤ 20
theorem fit_app {l l2 : List Rec} (h : fit20 l) (h2 : fit20 l2) : fit20 (l ++ l2) := by
  intro y hy
  rcases List.mem_append.1 hy with hy | hy
  · exact h y hy
  · exact h2 y hy
theorem fit_set {l : List Rec} {x : Rec} {k : Nat} (h : fit20 l) (hx : x.nm.length ≤ 20 ∧ x.tx.length ≤ 20) : fit20 (l.set k x) := by
  intro y hy
  rcases List.mem_or_eq_of_mem_set hy with hy | rfl
  · exact h y hy
  · exact hx

end Go.Proofs.YtaniaadmphojeaaDoor
